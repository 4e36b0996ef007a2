import Derived.Test.YtcfjkcfmoooccaaGreatDoorMark
namespace Go.Proofs.YtcfjkcfmoooccaaGreatDoor
open Go.RowKit
set_option maxRecDepth 100000
set_option linter.unusedVariables false

/-- A device whose sectors are all 0. -/
def Blank (w : World) (bn n : Nat) : Prop := ∀ k, k < n → w.rangeAt bn (k * 128) (byts zero128)

theorem Blank.below {w w' : World} {bn n m : Nat} (h : Blank w bn n) (hb : Below m w w') (hbn : bn < m) : Blank w' bn n := fun k hk => rangeAt_below hb hbn (h k hk)
theorem Blank.lt {w : World} {bn n : Nat} (h : Blank w bn n) (hn : 0 < n) : bn < w.heap.size :=
  World.block_lt_of_cell? w _ (h 0 hn 0 _ (by rw [List.getElem?_eq_getElem (by rw [byts_length, zero128_length]; omega)]))

theorem belowT {W2 W w' : World} (h : Below W2.heap.size W2 W) (hb : Below W.heap.size W w') : Below W2.heap.size W2 w' := h.trans (hb.mono h.size)
theorem ltT {N : Nat} {W2 W w' : World} (h : N < W2.heap.size) (hb : Below W2.heap.size W2 W) (hbm : Below W.heap.size W w') : N < w'.heap.size := by have := hb.size; have := hbm.size; omega
theorem cellT {N o : Nat} {W2 W w' : World} {v : Value} (h : N < W2.heap.size) (hb : Below W2.heap.size W2 W) (hbm : Below W.heap.size W w') (hy : W2.cell? ⟨N, o, none⟩ = some v) : w'.cell? ⟨N, o, none⟩ = some v := by
  rw [(belowT hb hbm).cell (p := ⟨N, o, none⟩) h]; exact hy
theorem frozenT {N o : Nat} {W2 W w' : World} (h : N < W2.heap.size) (hb : Below W2.heap.size W2 W) (hbm : Below W.heap.size W w') (hy : W2.frozen? ⟨N, o, none⟩ = false) : w'.frozen? ⟨N, o, none⟩ = false := by
  rw [(belowT hb hbm).frozen (p := ⟨N, o, none⟩) h]; exact hy
theorem belowA {W2 W : World} (h : Below W2.heap.size W2 W) (ob : Obj) : Below W2.heap.size W2 (W.alloc ob) := h.alloc h.size ob

theorem there_of_rangeAt {w : World} {b o : Nat} {cs : List Value} (h : w.rangeAt b o cs) (hf : ∀ i, i < cs.length → w.frozen? ⟨b, o + i, none⟩ = false) : w.there b o cs.length := fun i hi =>
  ⟨by rw [h i _ (List.getElem?_eq_getElem hi)]; rfl, hf i hi⟩
theorem there_below {n : Nat} {w w' : World} (h : Below n w w') {b o m : Nat} (hb : b < n) (ht : w.there b o m) : w'.there b o m := fun i hi => by
  rw [h.cell (p := ⟨b, o + i, none⟩) hb, h.frozen (p := ⟨b, o + i, none⟩) hb]; exact ht i hi
theorem size_setCells : ∀ (vs : List Value) (b o : Nat) (x : World), (x.setCells b o vs).heap.size = x.heap.size
  | [], _, _, _ => rfl
  | v :: r, b, o, x => by rw [World.setCells, size_setCells r]; simp [World.setCell]
theorem setCells_alloc (o : Obj) (b : Nat) {m : Nat} (hb : b < m) : ∀ (vs : List Value) (i : Nat) (x : World), m ≤ x.heap.size → (x.alloc o).setCells b i vs = (x.setCells b i vs).alloc o
  | [], _, _, _ => rfl
  | v :: r, i, x, h => by
    rw [World.setCells, World.setCells, World.setCell_alloc_past _ _ _ _ (Nat.lt_of_lt_of_le hb h)]
    exact setCells_alloc o b hb r (i + 1) _ (by simpa [World.setCell] using h)
theorem mid_there {w : World} {b n m o l : Nat} (h : w.there b n m) (hl : o + l ≤ m) : w.there b (n + o) l := fun i hi => by
  have := h (o + i) (by omega)
  rwa [← Nat.add_assoc] at this

/-- The two marks: none each. -/
def marks0 : List Value := [.int .u64 0, .int .i64 0, .int .u64 0, .int .i64 0]

set_option maxHeartbeats 2000000 in
/-- findMark over a device that is empty. -/
theorem findMark_none (j d bn : Nat) (w : World) (hJ : Sto w j d) (hD : Dev w d bn 16) (hBl : Blank w bn 16) :
    Calls Tryz.prog 16 #[.pointer (some ⟨j, 0, none⟩)] w fun e w' => e = .returned .nilIface ∧ Below w.heap.size w w' := by
  have hj := hJ.lt
  have hd := hD.lt
  have hbn := hBl.lt (by omega)
  have tN : (w.alloc (.cells #[.int .u64 0, .int .i64 0, .int .u64 0, .int .i64 0] 111)).there w.heap.size 0 4 := there_new w _ _
  have hB0 : Below w.heap.size w (w.alloc (.cells #[.int .u64 0, .int .i64 0, .int .u64 0, .int .i64 0] 111)) := (Below.refl _ _).alloc (Nat.le_refl _) _
  have HLZ : Hid ((byts zero128).length = 128) := by rw [byts_length]; exact zero128_length
  have h1Z := byts_one zero128
  go_enter Tryz.func16, Tryz.ntmps16
  go_wp2_with fail
  go_loopw [11] (fun i W => ∃ k : Nat, k ≤ 2 ∧ i = .int .i64 k ∧ Below w.heap.size w W ∧ w.heap.size < W.heap.size ∧ W.there w.heap.size 0 4 ∧ W.rangeAt w.heap.size 0 marks0) (fun i _ => 2 - (intOf i).toNat)
  case atStart => exact ⟨0, by omega, rfl, hB0, by simp, tN, fun i v hv => by rw [Nat.zero_add, cell_of_row _ _ _ _ _ _ (heap_alloc_new w _)]; simpa [marks0] using hv⟩
  case round =>
    obtain ⟨k, hk, rfl, hB, hN, hT, hR⟩ := hrel
    have HREL : Hid (wr.there w.heap.size 0 4 ∧ wr.rangeAt w.heap.size 0 marks0) := ⟨hT, hR⟩
    clear hT hR
    by_cases hlt : k < 2
    · have hi : (k : Int) < 2 := by omega
      go_wp2_with fail
      refine (sread_any j d bn k 16 _ (hJ.below hB hj) (hD.below hB hd) (by omega) (byts zero128) HLZ.out h1Z (hBl.below hB hbn k (by omega))).mono ?_
      rintro e w1 ⟨rfl, hb1⟩
      have MZ : Hid (∀ (a : Int) (w : World), Calls Tryz.prog 31 #[.int .i64 a, .agg (byts zero128).toArray] w fun e w' => e = .returned (.tuple #[.agg #[.int .u64 0, .int .i64 0], .bool true]) ∧ Below w.heap.size w w') := markOf_zero
      generalize byts zero128 = Z at HLZ h1Z MZ ⊢
      have ht1 : (w1.alloc (.cells Tryz.zeroCells113 113)).there w1.heap.size 0 Z.toArray.size := by simpa [HLZ.out] using there_new90 w1
      have i101 : (Tryz.prog.info? 113).map (·.size) = some Z.length := by rw [HLZ.out]; exact size90
      have hR1 : ((w1.alloc (.cells Tryz.zeroCells113 113)).setCells w1.heap.size 0 Z).rangeAt w1.heap.size 0 Z := World.rangeAt_setCells_same _ _ _ _ (by simpa using ht1)
      have hB1 : Below wr.heap.size wr ((w1.alloc (.cells Tryz.zeroCells113 113)).setCells w1.heap.size 0 Z) := below_setCells hb1.size _ _ _ (hb1.alloc hb1.size _)
      go_wp2_with (first | (refine wpList_store_mid rfl 113 _ _ rfl w1.heap.size 0 Z.toArray (by go_simp) (by go_simp) ht1 (by simp [HLZ.out, size90]) (all_oneCell_toArray h1Z) ?_) | (refine wpList_load_mid rfl 113 _ rfl w1.heap.size 0 (by go_simp) Z _ hR1 Tryz.underlying113 rfl i101 ?_))
      refine (MZ.out _ _).mono ?_
      rintro e w2 ⟨rfl, hb2⟩
      have hB2 : Below wr.heap.size wr w2 := hB1.trans (hb2.mono hB1.size)
      have hBa : Below wr.heap.size wr (w2.alloc (.cells #[.int .u64 0, .int .i64 0] 60)) := hB2.alloc hB2.size _
      have ha0 : (w2.alloc (.cells #[.int .u64 0, .int .i64 0] 60)).cell? ⟨w2.heap.size, 0, none⟩ = some (.int .u64 0) := by go_simp
      have ha1 : (w2.alloc (.cells #[.int .u64 0, .int .i64 0] 60)).cell? ⟨w2.heap.size, 1, none⟩ = some (.int .i64 0) := by go_simp
      have hal : w2.heap.size < (w2.alloc (.cells #[.int .u64 0, .int .i64 0] 60)).heap.size := by simp
      have hjr : j < wr.heap.size := by omega
      have hlay := ((hJ.below hB hj).below hBa hjr).lay
      have hz2 : wr.heap.size ≤ w2.heap.size := hB2.size
      clear hR1 ht1 hb1 hB1 hb2
      go_wp2_with fail
      generalize w2.alloc (.cells #[.int .u64 0, .int .i64 0] 60) = W3 at hBa ha0 ha1 hal hlay ⊢
      go_region_held3 (fun W => W.cell? ⟨w2.heap.size, 0, none⟩ = some (.int .u64 0) ∧ W.cell? ⟨w2.heap.size, 1, none⟩ = some (.int .i64 0) ∧ W.cell? ⟨j, 1, none⟩ = some (.int .i64 16) ∧ Below wr.heap.size wr W ∧ w2.heap.size < W.heap.size)
        ((go_split_ands; refine ⟨?_, ?_, ?_, ?_, ?_⟩ <;> first | assumption | (simp; assumption) | (refine Below.drew ?_; assumption) | (exact (hb.cell (p := ⟨w2.heap.size, _, none⟩) (by assumption)).trans (by assumption)) | (exact (hb.cell (p := ⟨j, _, none⟩) (Nat.lt_of_lt_of_le hjr (Nat.le_of_lt (Nat.lt_of_le_of_lt hz2 (by assumption))))).trans (by assumption)) | (exact Below.trans (by assumption) (hb.mono (Nat.le_of_lt (Nat.lt_of_le_of_lt hz2 (by assumption))))) | (exact Nat.lt_of_lt_of_le (by assumption) hb.size)))
        ((go_split_ands; go_at_call 32; refine (mostPages16 _).mono ?_; rintro e w' ⟨rfl, hb⟩))
      all_goals
        rename_i hH
        obtain ⟨hy0, hy1, _, hB3, _⟩ := hH
        have hBw3 := hB.trans (hB3.mono (Nat.le_of_lt hN))
        have hT3 := there_below hB3 hN HREL.out.1
        have hR3 := rangeAt_below hB3 hN HREL.out.2
        have HR3 : Hid (_ ∧ _) := ⟨hT3, hR3⟩
        have hN3 := Nat.lt_of_lt_of_le hN hB3.size
        have hv0 := hR3 0 _ rfl
        have hv1 := hR3 1 _ rfl
        have hv2 := hR3 2 _ rfl
        have hv3 := hR3 3 _ rfl
        have hu0 := (hT3 0 (by omega)).2
        have hu1 := (hT3 1 (by omega)).2
        have hu2 := (hT3 2 (by omega)).2
        have hu3 := (hT3 3 (by omega)).2
        simp only [Nat.zero_add] at hv0 hv1 hv2 hv3 hu0 hu1 hu2 hu3
        clear hT3 hR3
        have hs0 := setCell_self hv0
        have hs1 := setCell_self hv1
        have hs2 := setCell_self hv2
        have hs3 := setCell_self hv3
        have hk01 : k = 0 ∨ k = 1 := by omega
        rcases hk01 with rfl | rfl
        · go_wp2_with fail
          exact ⟨⟨1, by omega, by go_num, hBw3, hN3, HR3.out.1, HR3.out.2⟩, by simp [intOf]⟩
        · go_wp2_with fail
          exact ⟨⟨2, by omega, by go_num, hBw3, hN3, HR3.out.1, HR3.out.2⟩, by simp [intOf]⟩
    · have hk2 : k = 2 := by omega
      subst hk2
      have hi : ¬ (((2 : Nat) : Int) < 2) := by omega
      obtain ⟨hT, hR⟩ := HREL.out
      have hd0 := hR 0 _ rfl
      have hd1 := hR 1 _ rfl
      have hd2 := hR 2 _ rfl
      have hd3 := hR 3 _ rfl
      simp only [Nat.zero_add] at hd0 hd1 hd2 hd3
      clear hT hR HREL
      go_wp2_with fail
      refine (newest_zero _).mono ?_
      rintro e w1 ⟨rfl, hb1⟩
      have hB1 : Below w.heap.size w w1 := hB.trans (hb1.mono (Nat.le_of_lt hN))
      have hj1 : j < w1.heap.size := Nat.lt_of_lt_of_le hj hB1.size
      have hBa : Below w.heap.size w (w1.alloc (.cells #[.int .u64 0, .int .i64 0] 60)) := hB1.alloc hB1.size _
      have hJa := hJ.below hBa hj
      have hv1 := hJa.turn
      have hv2 := hJa.count
      have hu1 := hJa.free 2
      have hu2 := hJa.free 3
      have hs1 := setCell_self hv1
      have hs2 := setCell_self hv2
      have ha0 : (w1.alloc (.cells #[.int .u64 0, .int .i64 0] 60)).cell? ⟨w1.heap.size, 0, none⟩ = some (.int .u64 0) := by go_simp
      have ha1 : (w1.alloc (.cells #[.int .u64 0, .int .i64 0] 60)).cell? ⟨w1.heap.size, 1, none⟩ = some (.int .i64 0) := by go_simp
      have hn1 := Nat.ne_of_lt hj1
      have hn2 := Nat.ne_of_gt hj1
      go_wp2_with fail
      go_ret
      exact ⟨rfl, hBa⟩
end Go.Proofs.YtcfjkcfmoooccaaGreatDoor
