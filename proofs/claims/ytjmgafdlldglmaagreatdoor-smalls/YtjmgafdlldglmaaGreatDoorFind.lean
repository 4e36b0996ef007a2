import Derived.Test.YtjmgafdlldglmaaGreatDoorHalf
namespace Go.Proofs.YtjmgafdlldglmaaGreatDoor
open Go.RowKit
set_option maxRecDepth 100000
set_option linter.unusedVariables false

/-- A device whose sectors are all 0. -/
def Blank (w : World) (bn n : Nat) : Prop := ∀ k, k < n → w.rangeAt bn (k * 128) (byts zero128)

theorem Blank.below {w w' : World} {bn n m : Nat} (h : Blank w bn n) (hb : Below m w w') (hbn : bn < m) : Blank w' bn n := fun k hk => rangeAt_below hb hbn (h k hk)
theorem Blank.lt {w : World} {bn n : Nat} (h : Blank w bn n) (hn : 0 < n) : bn < w.heap.size :=
  World.block_lt_of_cell? w _ (h 0 hn 0 _ (by rw [List.getElem?_eq_getElem (by rw [byts_length, zero128_length]; omega)]))

theorem belowT {W2 W w' : World} (h : Below W2.heap.size W2 W) (hb : Below W.heap.size W w') : Below W2.heap.size W2 w' := h.trans (hb.mono h.size)
theorem ltT {N : Nat} {W2 W w' : World} (h : N < W2.heap.size) (hb : Below W2.heap.size W2 W) (hbm : Below W.heap.size W w') : N < w'.heap.size := by have := hb.size; have := hbm.size; omega
theorem cellT {N o : Nat} {W2 W w' : World} {v : Value} (h : N < W2.heap.size) (hb : Below W2.heap.size W2 W) (hbm : Below W.heap.size W w') (hy : W2.cell? ⟨N, o, none⟩ = some v) : w'.cell? ⟨N, o, none⟩ = some v := by
  rw [(belowT hb hbm).cell (p := ⟨N, o, none⟩) h]; exact hy
theorem frozenT {N o : Nat} {W2 W w' : World} (h : N < W2.heap.size) (hb : Below W2.heap.size W2 W) (hbm : Below W.heap.size W w') (hy : W2.frozen? ⟨N, o, none⟩ = false) : w'.frozen? ⟨N, o, none⟩ = false := by
  rw [(belowT hb hbm).frozen (p := ⟨N, o, none⟩) h]; exact hy
theorem belowA {W2 W : World} (h : Below W2.heap.size W2 W) (ob : Obj) : Below W2.heap.size W2 (W.alloc ob) := h.alloc h.size ob

/-- The two marks, behind k rounds. -/
def marksAt (k : Nat) : List Value := [.int .u64 0, .int .i64 0, .int .i64 (if 1 ≤ k then 2 else 0), .int .u64 0, .int .i64 0, .int .i64 (if 2 ≤ k then 2 else 0)]
theorem there_of_rangeAt {w : World} {b o : Nat} {cs : List Value} (h : w.rangeAt b o cs) (hf : ∀ i, i < cs.length → w.frozen? ⟨b, o + i, none⟩ = false) : w.there b o cs.length := fun i hi =>
  ⟨by rw [h i _ (List.getElem?_eq_getElem hi)]; rfl, hf i hi⟩
theorem there_below {n : Nat} {w w' : World} (h : Below n w w') {b o m : Nat} (hb : b < n) (ht : w.there b o m) : w'.there b o m := fun i hi => by
  rw [h.cell (p := ⟨b, o + i, none⟩) hb, h.frozen (p := ⟨b, o + i, none⟩) hb]; exact ht i hi
theorem size_setCells : ∀ (vs : List Value) (b o : Nat) (x : World), (x.setCells b o vs).heap.size = x.heap.size
  | [], _, _, _ => rfl
  | v :: r, b, o, x => by rw [World.setCells, size_setCells r]; simp [World.setCell]
theorem setCells_alloc (o : Obj) (b : Nat) {m : Nat} (hb : b < m) : ∀ (vs : List Value) (i : Nat) (x : World), m ≤ x.heap.size → (x.alloc o).setCells b i vs = (x.setCells b i vs).alloc o
  | [], _, _, _ => rfl
  | v :: r, i, x, h => by
    rw [World.setCells, World.setCells, World.setCell_alloc_past _ _ _ _ (Nat.lt_of_lt_of_le hb h)]
    exact setCells_alloc o b hb r (i + 1) _ (by simpa [World.setCell] using h)
theorem mid_there {w : World} {b n m o l : Nat} (h : w.there b n m) (hl : o + l ≤ m) : w.there b (n + o) l := fun i hi => by
  have := h (o + i) (by omega)
  rwa [← Nat.add_assoc] at this

theorem re_mark {N : Nat} {w W : World} (k : Nat) (hk : k < 2) (hB : Below N w W) (hN : N < W.heap.size) (hT : W.there N 0 6) (hR : W.rangeAt N 0 (marksAt k)) :
    Below N w (W.setCells N (3 * k) [.int .u64 0, .int .i64 0, .int .i64 2]) ∧ N < (W.setCells N (3 * k) [.int .u64 0, .int .i64 0, .int .i64 2]).heap.size ∧ (W.setCells N (3 * k) [.int .u64 0, .int .i64 0, .int .i64 2]).there N 0 6 ∧ (W.setCells N (3 * k) [.int .u64 0, .int .i64 0, .int .i64 2]).rangeAt N 0 (marksAt (k + 1)) := by
  refine ⟨below_setCells (Nat.le_refl _) _ _ _ hB, by rw [size_setCells]; exact hN, World.there_setCells hT _ _ _, ?_⟩
  have hs := World.rangeAt_setCells_same W N (3 * k) [.int .u64 0, .int .i64 0, .int .i64 2] (by have := mid_there (o := 3 * k) (l := 3) hT (by omega); simpa using this)
  have ho : ∀ i, i < 3 * k ∨ 3 * k + 3 ≤ i → (W.setCells N (3 * k) [.int .u64 0, .int .i64 0, .int .i64 2]).cell? ⟨N, i, none⟩ = W.cell? ⟨N, i, none⟩ := fun i hi => by
    simp only [World.setCells]
    rw [World.cell?_setCell_other _ _ _ _ (fun e => by injection e; omega), World.cell?_setCell_other _ _ _ _ (fun e => by injection e; omega), World.cell?_setCell_other _ _ _ _ (fun e => by injection e; omega)]
  have hk01 : k = 0 ∨ k = 1 := by omega
  intro i v hv
  rcases hk01 with rfl | rfl
  · rcases i with _ | _ | _ | _ | _ | _ | i
    · exact hs 0 v hv
    · exact hs 1 v hv
    · exact hs 2 v hv
    · rw [ho _ (by omega)]; exact hR 3 v hv
    · rw [ho _ (by omega)]; exact hR 4 v hv
    · rw [ho _ (by omega)]; exact hR 5 v hv
    · simp [marksAt] at hv
  · rcases i with _ | _ | _ | _ | _ | _ | i
    · rw [ho _ (by omega)]; exact hR 0 v hv
    · rw [ho _ (by omega)]; exact hR 1 v hv
    · rw [ho _ (by omega)]; exact hR 2 v hv
    · exact hs 0 v hv
    · exact hs 1 v hv
    · exact hs 2 v hv
    · simp [marksAt] at hv

set_option maxHeartbeats 2000000 in
/-- One round of findMark: a sector that is all 0. -/
theorem find_round (j d bn n : Nat) (w : World) (hJ : Jrn w j d) (hD : Dev w d bn n) (hBl : Blank w bn n) (hn : 2 ≤ n) (hT1 : w.there j 1 3) :
    Calls Tryz.prog 14 #[.pointer (some ⟨j, 0, none⟩)] w fun e w' => e = .returned .nilIface ∧ ∃ W1, Below w.heap.size w W1 ∧ w' = W1.setCells j 1 [.int .u64 0, .int .i64 0, .int .i64 2] := by
  have hj := hJ.lt
  have hd := hD.lt
  have hbn := hBl.lt (by omega)
  have tN : (w.alloc (.cells #[.int .u64 0, .int .i64 0, .int .i64 0, .int .u64 0, .int .i64 0, .int .i64 0] 99)).there w.heap.size 0 6 := there_new w _ _
  have hB0 : Below w.heap.size w (w.alloc (.cells #[.int .u64 0, .int .i64 0, .int .i64 0, .int .u64 0, .int .i64 0, .int .i64 0] 99)) := (Below.refl _ _).alloc (Nat.le_refl _) _
  have HLZ : Hid ((byts zero128).length = 128) := by rw [byts_length]; exact zero128_length
  have h1Z := byts_one zero128
  go_enter Tryz.func14, Tryz.ntmps14
  go_wp2_with fail
  go_loopw [11] (fun i W => ∃ k : Nat, k ≤ 2 ∧ i = .int .i64 k ∧ Below w.heap.size w W ∧ w.heap.size < W.heap.size ∧ W.there w.heap.size 0 6 ∧ W.rangeAt w.heap.size 0 (marksAt k)) (fun i _ => 2 - (intOf i).toNat)
  case atStart => exact ⟨0, by omega, rfl, hB0, by simp, tN, fun i v hv => by rw [Nat.zero_add, cell_of_row _ _ _ _ _ _ (heap_alloc_new w _)]; simpa [marksAt] using hv⟩
  case round =>
    obtain ⟨k, hk, rfl, hB, hN, hT, hR⟩ := hrel
    have HREL : Hid (wr.there w.heap.size 0 6 ∧ wr.rangeAt w.heap.size 0 (marksAt k)) := ⟨hT, hR⟩
    clear hT hR
    by_cases hlt : k < 2
    · have hi : (k : Int) < 2 := by omega
      go_wp2_with fail
      refine (jread_any j d bn k n _ (hJ.below hB hj) (hD.below hB hd) (by omega) (byts zero128) HLZ.out h1Z (hBl.below hB hbn k (by omega))).mono ?_
      rintro e w1 ⟨rfl, hb1⟩
      have MZ : Hid (∀ (a : Int) (w : World), Calls Tryz.prog 27 #[.int .i64 a, .agg (byts zero128).toArray] w fun e w' => e = .returned (.tuple #[.agg #[.int .u64 0, .int .i64 0, .int .i64 2], .bool true]) ∧ Below w.heap.size w w') := markOf_zero
      generalize byts zero128 = Z at HLZ h1Z MZ ⊢
      have ht1 : (w1.alloc (.cells Tryz.zeroCells101 101)).there w1.heap.size 0 Z.toArray.size := by simpa [HLZ.out] using there_new90 w1
      have i101 : (Tryz.prog.info? 101).map (·.size) = some Z.length := by rw [HLZ.out]; exact size90
      have hR1 : ((w1.alloc (.cells Tryz.zeroCells101 101)).setCells w1.heap.size 0 Z).rangeAt w1.heap.size 0 Z := World.rangeAt_setCells_same _ _ _ _ (by simpa using ht1)
      have hB1 : Below wr.heap.size wr ((w1.alloc (.cells Tryz.zeroCells101 101)).setCells w1.heap.size 0 Z) := below_setCells hb1.size _ _ _ (hb1.alloc hb1.size _)
      go_wp2_with (first | (refine wpList_store_mid rfl 101 _ _ rfl w1.heap.size 0 Z.toArray (by go_simp) (by go_simp) ht1 (by simp [HLZ.out, size90]) (all_oneCell_toArray h1Z) ?_) | (refine wpList_load_mid rfl 101 _ rfl w1.heap.size 0 (by go_simp) Z _ hR1 Tryz.underlying101 rfl i101 ?_))
      refine (MZ.out _ _).mono ?_
      rintro e w2 ⟨rfl, hb2⟩
      have hB2 : Below wr.heap.size wr w2 := hB1.trans (hb2.mono hB1.size)
      have hBw2 : Below w.heap.size w w2 := hB.trans (hB2.mono (Nat.le_of_lt hN))
      have hz2 : wr.heap.size ≤ w2.heap.size := hB2.size
      have hBa : Below w.heap.size w (w2.alloc (.cells #[.int .u64 0, .int .i64 0, .int .i64 2] 59)) := hBw2.alloc hBw2.size _
      clear hR1 ht1 hb1 hB1 hb2
      go_wp2_with fail
      refine (isWithin_zero j d bn n _ (hJ.below hBa hj) (hD.below hBa hd) hn).mono ?_
      rintro e w3 ⟨rfl, hb3⟩
      have hB3 : Below wr.heap.size wr w3 := (hB2.alloc hz2 _).trans (hb3.mono (by simp; omega))
      have hBw3 : Below w.heap.size w w3 := hB.trans (hB3.mono (Nat.le_of_lt hN))
      have hy0 : w3.cell? ⟨w2.heap.size, 0, none⟩ = some (.int .u64 0) := by rw [hb3.cell (p := ⟨w2.heap.size, 0, none⟩) (by simp)]; go_simp
      have hy1 : w3.cell? ⟨w2.heap.size, 1, none⟩ = some (.int .i64 0) := by rw [hb3.cell (p := ⟨w2.heap.size, 1, none⟩) (by simp)]; go_simp
      have hy2 : w3.cell? ⟨w2.heap.size, 2, none⟩ = some (.int .i64 2) := by rw [hb3.cell (p := ⟨w2.heap.size, 2, none⟩) (by simp)]; go_simp
      have hT3 : w3.there w.heap.size 0 6 := there_below hB3 hN HREL.out.1
      have hR3 : w3.rangeAt w.heap.size 0 (marksAt k) := rangeAt_below hB3 hN HREL.out.2
      have HR3 : Hid (w3.there w.heap.size 0 6 ∧ w3.rangeAt w.heap.size 0 (marksAt k)) := ⟨hT3, hR3⟩
      have hN3 : w.heap.size < w3.heap.size := Nat.lt_of_lt_of_le hN hB3.size
      have hv0 := hR3 0 _ rfl
      have hv1 := hR3 1 _ rfl
      have hv2 := hR3 2 _ rfl
      have hv3 := hR3 3 _ rfl
      have hv4 := hR3 4 _ rfl
      have hv5 := hR3 5 _ rfl
      have hu0 := (hT3 0 (by omega)).2
      have hu1 := (hT3 1 (by omega)).2
      have hu2 := (hT3 2 (by omega)).2
      have hu3 := (hT3 3 (by omega)).2
      have hu4 := (hT3 4 (by omega)).2
      have hu5 := (hT3 5 (by omega)).2
      simp only [Nat.zero_add] at hv0 hv1 hv2 hv3 hv4 hv5 hu0 hu1 hu2 hu3 hu4 hu5
      clear hb3 hT3 hR3
      have hk01 : k = 0 ∨ k = 1 := by omega
      rcases hk01 with rfl | rfl
      · go_wp2_with fail
        exact ⟨⟨1, by omega, by go_num, re_mark 0 (by omega) hBw3 hN3 HR3.out.1 HR3.out.2⟩, by simp [intOf]⟩
      · go_wp2_with fail
        exact ⟨⟨2, by omega, by go_num, re_mark 1 (by omega) hBw3 hN3 HR3.out.1 HR3.out.2⟩, by simp [intOf]⟩
    · have hk2 : k = 2 := by omega
      subst hk2
      have hi : ¬ (((2 : Nat) : Int) < 2) := by omega
      obtain ⟨hT, hR⟩ := HREL.out
      have hd0 := hR 0 _ rfl
      have hd1 := hR 1 _ rfl
      have hd2 := hR 2 _ rfl
      have hd3 := hR 3 _ rfl
      have hd4 := hR 4 _ rfl
      have hd5 := hR 5 _ rfl
      simp only [Nat.zero_add] at hd0 hd1 hd2 hd3 hd4 hd5
      clear hT hR HREL
      go_wp2_with fail
      refine (newest_zero _).mono ?_
      rintro e w1 ⟨rfl, hb1⟩
      have hB1 : Below w.heap.size w w1 := hB.trans (hb1.mono (Nat.le_of_lt hN))
      have hj1 : j < w1.heap.size := Nat.lt_of_lt_of_le hj hB1.size
      have hTj : w1.there j 1 3 := there_below hB1 hj hT1
      obtain ⟨x1, hv1⟩ := Option.isSome_iff_exists.1 (hTj 0 (by omega)).1
      obtain ⟨x2, hv2⟩ := Option.isSome_iff_exists.1 (hTj 1 (by omega)).1
      obtain ⟨x3, hv3⟩ := Option.isSome_iff_exists.1 (hTj 2 (by omega)).1
      have hu1 := (hTj 0 (by omega)).2
      have hu2 := (hTj 1 (by omega)).2
      have hu3 := (hTj 2 (by omega)).2
      simp only [Nat.add_zero, Nat.reduceAdd] at hv1 hv2 hv3 hu1 hu2 hu3
      have hn1 := Nat.ne_of_lt hj1
      have hn2 := Nat.ne_of_gt hj1
      clear hTj
      go_wp2
      go_ret
      refine ⟨rfl, w1.alloc (.cells #[.int .u64 0, .int .i64 0, .int .i64 2] 59), hB1.alloc hB1.size _, ?_⟩
      exact (setCells_alloc _ j hj1 [.int .u64 0, .int .i64 0, .int .i64 2] 1 w1 (Nat.le_refl _)).symm
end Go.Proofs.YtjmgafdlldglmaaGreatDoor
