import Derived.Test.YtcfjkcfmoooccaaGreatDoorDev
namespace Go.Proofs.YtcfjkcfmoooccaaGreatDoor
open Go.RowKit
set_option maxRecDepth 100000
set_option linter.unusedVariables false

set_option maxHeartbeats 2000000 in
theorem sread_any (j d bn k n : Nat) (w : World) (hJ : Sto w j d) (hD : Dev w d bn n) (hat : k < n) (vs : List Value) (hvs : vs.length = 128) (hv1 : ∀ v ∈ vs, v.oneCell' = true)
    (hc : w.rangeAt bn (k * 128) vs) :
    Calls Tryz.prog 30 #[.pointer (some ⟨j, 0, none⟩), .int .i64 k] w fun e w' => e = .returned (.tuple #[.agg vs.toArray, .nilIface]) ∧ Below w.heap.size w w' := by
  have HV : Hid (vs.length = 128) := hvs
  clear hvs
  have hj := hJ.lt
  have hd := hD.lt
  have hbn : bn < w.heap.size := by
    have h0 : 0 < vs.length := by rw [HV.out]; omega
    exact World.block_lt_of_cell? w _ (hc 0 _ (List.getElem?_eq_getElem h0))
  have hdev := hJ.dev
  have hB0 : Below w.heap.size w (w.alloc (.cells Tryz.zeroCells113 113)) := (Below.refl _ _).alloc (Nat.le_refl _) _
  go_enter Tryz.func30, Tryz.ntmps30
  go_wp2_with fail
  refine (read_any d bn k n _ (hD.below hB0 hd) hat vs HV.out hv1 (rangeAt_below hB0 hbn hc)).mono ?_
  rintro e w1 ⟨rfl, hb1⟩
  have hB1 : Below w.heap.size w w1 := hB0.trans (hb1.mono (by simp))
  have hz1 : w.heap.size < w1.heap.size := by have := hb1.size; simp at this; omega
  have ht0 : w1.there w.heap.size 0 128 := fun i hi => by
    have := there_new90 w i hi
    rw [hb1.cell (p := ⟨w.heap.size, 0 + i, none⟩) (by simp), hb1.frozen (p := ⟨w.heap.size, 0 + i, none⟩) (by simp)]
    exact this
  clear hb1 hB0
  have ht1 : (w1.alloc (.cells Tryz.zeroCells113 113)).there w1.heap.size 0 vs.toArray.size := by simpa [HV.out] using there_new90 w1
  go_wp2_with (first | (refine wpList_store_mid rfl 113 _ _ rfl w1.heap.size 0 vs.toArray (by go_simp) (by go_simp) ht1 (by simp [HV.out, size90]) (all_oneCell_toArray hv1) ?_))
  have HS : Hid (((w1.alloc (.cells Tryz.zeroCells113 113)).setCells w1.heap.size 0 vs).rangeAt w1.heap.size 0 vs ∧ ((w1.alloc (.cells Tryz.zeroCells113 113)).setCells w1.heap.size 0 vs).there w.heap.size 0 128 ∧ Below w.heap.size w ((w1.alloc (.cells Tryz.zeroCells113 113)).setCells w1.heap.size 0 vs)) :=
    ⟨World.rangeAt_setCells_same _ _ _ _ (by simpa using ht1), World.there_setCells (World.there_alloc ht0 _) _ _ _, below_setCells (by omega) _ _ _ (hB1.alloc (by omega) _)⟩
  clear ht1 ht0
  generalize (w1.alloc (.cells Tryz.zeroCells113 113)).setCells w1.heap.size 0 vs = W2 at HS ⊢
  obtain ⟨hR2, hT2, hB2⟩ := HS.out
  have u90 := Tryz.underlying113
  have i90 : (Tryz.prog.info? 113).map (·.size) = some vs.length := by rw [HV.out]; exact size90
  rw [← HV.out] at hT2
  have hne : w1.heap.size ≠ w.heap.size := by omega
  go_region_held3 (fun W => W.rangeAt w1.heap.size 0 vs ∧ W.there w.heap.size 0 vs.length ∧ Below w.heap.size w W)
    ((go_split_ands; refine ⟨?_, ?_, ?_⟩ <;> first | assumption | (simp only [World.rangeAt_drew, World.there_drew]; assumption) | (refine Below.drew ?_; assumption) | (refine World.rangeAt_setCells_apart (by assumption) _ _ _ (Or.inl hne)) | (refine World.there_setCells (by assumption) _ _ _) | (refine below_setCells (Nat.le_refl _) _ _ _ (by assumption))))
    ((go_split_ands; go_at_call 58; refine (note_nil j d _ (hJ.below (by assumption) hj)).mono ?_; rintro e w' ⟨rfl, rfl⟩))
  rename_i hl1 hl2 hl3 hH
  go_wp2
  refine bodyPost_ret (v := .tuple #[.agg vs.toArray, .nilIface]) (results_cell_tmp_mid (by rfl) _ _ _ w.heap.size 0 vs _ _ rfl rfl (World.rangeAt_setCells_same _ _ _ _ hl2) Tryz.underlying113 rfl (by rw [HV.out]; exact size90)) rfl ⟨rfl, hH.2.2⟩
end Go.Proofs.YtcfjkcfmoooccaaGreatDoor
