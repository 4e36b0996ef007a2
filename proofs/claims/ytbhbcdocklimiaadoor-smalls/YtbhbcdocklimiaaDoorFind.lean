import Derived.Test.YtbhbcdocklimiaaDoorMark
namespace Go.Proofs.YtbhbcdocklimiaaDoor
open Go.RowKit
set_option maxRecDepth 100000
set_option linter.unusedVariables false

/-- A device whose sectors are all 0. -/
def Blank (w : World) (bn n : Nat) : Prop := ∀ k, k < n → w.rangeAt bn (k * 128) (byts zero128)

theorem Blank.below {w w' : World} {bn n m : Nat} (h : Blank w bn n) (hb : Below m w w') (hbn : bn < m) : Blank w' bn n := fun k hk => rangeAt_below hb hbn (h k hk)
theorem Blank.lt {w : World} {bn n : Nat} (h : Blank w bn n) (hn : 0 < n) : bn < w.heap.size :=
  World.block_lt_of_cell? w _ (h 0 hn 0 _ (by rw [List.getElem?_eq_getElem (by rw [byts_length, zero128_length]; omega)]))

theorem belowT {W2 W w' : World} (h : Below W2.heap.size W2 W) (hb : Below W.heap.size W w') : Below W2.heap.size W2 w' := h.trans (hb.mono h.size)
theorem ltT {N : Nat} {W2 W w' : World} (h : N < W2.heap.size) (hb : Below W2.heap.size W2 W) (hbm : Below W.heap.size W w') : N < w'.heap.size := by have := hb.size; have := hbm.size; omega
theorem cellT {N o : Nat} {W2 W w' : World} {v : Value} (h : N < W2.heap.size) (hb : Below W2.heap.size W2 W) (hbm : Below W.heap.size W w') (hy : W2.cell? ⟨N, o, none⟩ = some v) : w'.cell? ⟨N, o, none⟩ = some v := by
  rw [(belowT hb hbm).cell (p := ⟨N, o, none⟩) h]; exact hy
theorem frozenT {N o : Nat} {W2 W w' : World} (h : N < W2.heap.size) (hb : Below W2.heap.size W2 W) (hbm : Below W.heap.size W w') (hy : W2.frozen? ⟨N, o, none⟩ = false) : w'.frozen? ⟨N, o, none⟩ = false := by
  rw [(belowT hb hbm).frozen (p := ⟨N, o, none⟩) h]; exact hy
theorem set2 (w' : World) (o : Obj) {N : Nat} (i : Nat) (a b : Value) (h : N < w'.heap.size) : ((w'.alloc o).setCell ⟨N, i, none⟩ a).setCell ⟨N, i + 1, none⟩ b = ((w'.setCell ⟨N, i, none⟩ a).setCell ⟨N, i + 1, none⟩ b).alloc o := by
  rw [World.setCell_alloc_past _ _ _ _ h, World.setCell_alloc_past _ _ _ _ (by simpa [World.setCell] using h)]
theorem belowA {W2 W : World} (h : Below W2.heap.size W2 W) (ob : Obj) : Below W2.heap.size W2 (W.alloc ob) := h.alloc h.size ob

theorem re_gen {N : Nat} {w wr WF : World} (i : Nat) (hi : i + 1 < 4) (hB : Below N w wr) (hN : N < wr.heap.size) (hT : wr.there N 0 4) (hbF : Below wr.heap.size wr WF) :
    Below N w ((WF.setCell ⟨N, i, none⟩ (.int .u64 0)).setCell ⟨N, i + 1, none⟩ (.int .i64 2)) ∧ N < ((WF.setCell ⟨N, i, none⟩ (.int .u64 0)).setCell ⟨N, i + 1, none⟩ (.int .i64 2)).heap.size ∧ ((WF.setCell ⟨N, i, none⟩ (.int .u64 0)).setCell ⟨N, i + 1, none⟩ (.int .i64 2)).there N 0 4 ∧
    (∀ o, o ≠ i → o ≠ i + 1 → ((WF.setCell ⟨N, i, none⟩ (.int .u64 0)).setCell ⟨N, i + 1, none⟩ (.int .i64 2)).cell? ⟨N, o, none⟩ = wr.cell? ⟨N, o, none⟩) ∧
    ((WF.setCell ⟨N, i, none⟩ (.int .u64 0)).setCell ⟨N, i + 1, none⟩ (.int .i64 2)).cell? ⟨N, i, none⟩ = some (.int .u64 0) ∧ ((WF.setCell ⟨N, i, none⟩ (.int .u64 0)).setCell ⟨N, i + 1, none⟩ (.int .i64 2)).cell? ⟨N, i + 1, none⟩ = some (.int .i64 2) := by
  have hTF : WF.there N 0 4 := fun o ho => by
    rw [hbF.cell (p := ⟨N, 0 + o, none⟩) hN, hbF.frozen (p := ⟨N, 0 + o, none⟩) hN]; exact hT o ho
  have hs := hbF.size
  have hcell : ∀ o, o < 4 → ∃ x, WF.cell? ⟨N, o, none⟩ = some x := fun o ho => Option.isSome_iff_exists.1 (by have := (hTF o ho).1; rwa [Nat.zero_add] at this)
  obtain ⟨y0, hy0⟩ := hcell i (by omega)
  obtain ⟨y1, hy1⟩ := hcell (i + 1) hi
  refine ⟨((hB.trans (hbF.mono (Nat.le_of_lt hN))).setCell (p := ⟨N, i, none⟩) (Nat.le_refl _) _).setCell (p := ⟨N, i + 1, none⟩) (Nat.le_refl _) _, by simp [World.setCell]; omega, World.there_setCells hTF N i [.int .u64 0, .int .i64 2], ?_, ?_, ?_⟩
  · intro o h1 h2
    rw [World.cell?_setCell_other _ _ _ _ (fun e => h2 (by injection e with _ e; exact e.symm)), World.cell?_setCell_other _ _ _ _ (fun e => h1 (by injection e with _ e; exact e.symm)), hbF.cell (p := ⟨N, o, none⟩) hN]
  · rw [World.cell?_setCell_other _ _ _ _ (by simp), World.cell?_setCell_same _ _ _ hy0]
  · have h3 : (WF.setCell ⟨N, i, none⟩ (.int .u64 0)).cell? ⟨N, i + 1, none⟩ = some y1 := by rw [World.cell?_setCell_other _ _ _ _ (by simp)]; exact hy1
    rw [World.cell?_setCell_same _ _ _ h3]

set_option maxHeartbeats 2000000 in
/-- One round of findMark: a sector that is all 0. -/
theorem find_round (j d bn n : Nat) (w : World) (hJ : Jrn w j d) (hD : Dev w d bn n) (hBl : Blank w bn n) (hn : 2 ≤ n) (hf1 : w.frozen? ⟨j, 1, none⟩ = false) (hf2 : w.frozen? ⟨j, 2, none⟩ = false) (x1 x2 : Value) (hx1 : w.cell? ⟨j, 1, none⟩ = some x1) (hx2 : w.cell? ⟨j, 2, none⟩ = some x2) :
    Calls Tryd.prog 13 #[.pointer (some ⟨j, 0, none⟩)] w fun e w' => e = .returned .nilIface ∧ ∃ W1, Below w.heap.size w W1 ∧ w' = (W1.setCell ⟨j, 1, none⟩ (.int .u64 0)).setCell ⟨j, 2, none⟩ (.int .i64 2) := by
  have hj := hJ.lt
  have hd := hD.lt
  have hbn := hBl.lt (by omega)
  have tN : (w.alloc (.cells #[.int .u64 0, .int .i64 0, .int .u64 0, .int .i64 0] 88)).there w.heap.size 0 4 := there_new w _ _
  have hB0 : Below w.heap.size w (w.alloc (.cells #[.int .u64 0, .int .i64 0, .int .u64 0, .int .i64 0] 88)) := (Below.refl _ _).alloc (Nat.le_refl _) _
  have HLZ : Hid ((byts zero128).length = 128) := by rw [byts_length]; exact zero128_length
  have h1Z := byts_one zero128
  go_enter Tryd.func13, Tryd.ntmps13
  go_wp2_with fail
  go_loopw [11] (fun i W => ∃ k : Nat, k ≤ 2 ∧ i = .int .i64 k ∧ Below w.heap.size w W ∧ w.heap.size < W.heap.size ∧ W.there w.heap.size 0 4 ∧ W.cell? ⟨w.heap.size, 0, none⟩ = some (.int .u64 0) ∧ W.cell? ⟨w.heap.size, 2, none⟩ = some (.int .u64 0) ∧ (1 ≤ k → W.cell? ⟨w.heap.size, 1, none⟩ = some (.int .i64 2)) ∧ (2 ≤ k → W.cell? ⟨w.heap.size, 3, none⟩ = some (.int .i64 2))) (fun i _ => 2 - (intOf i).toNat)
  case atStart => exact ⟨0, by omega, rfl, hB0, by simp, tN, by simp, by simp, by omega, by omega⟩
  case round =>
    obtain ⟨k, hk, rfl, hB, hN, hT, hc0, hc2, hc1, hc3⟩ := hrel
    by_cases hlt : k < 2
    · have hi : (k : Int) < 2 := by omega
      obtain ⟨y0, hy0⟩ := Option.isSome_iff_exists.1 (hT 0 (by omega)).1
      obtain ⟨y1, hy1⟩ := Option.isSome_iff_exists.1 (hT 1 (by omega)).1
      obtain ⟨y2, hy2⟩ := Option.isSome_iff_exists.1 (hT 2 (by omega)).1
      obtain ⟨y3, hy3⟩ := Option.isSome_iff_exists.1 (hT 3 (by omega)).1
      have hz0 := (hT 0 (by omega)).2
      have hz1 := (hT 1 (by omega)).2
      have hz2 := (hT 2 (by omega)).2
      have hz3 := (hT 3 (by omega)).2
      simp only [Nat.zero_add] at hy0 hy1 hy2 hy3 hz0 hz1 hz2 hz3
      have HREL : Hid (Below w.heap.size w wr ∧ w.heap.size < wr.heap.size ∧ wr.there w.heap.size 0 4 ∧ wr.cell? ⟨w.heap.size, 0, none⟩ = some (.int .u64 0) ∧ wr.cell? ⟨w.heap.size, 2, none⟩ = some (.int .u64 0) ∧ (1 ≤ k → wr.cell? ⟨w.heap.size, 1, none⟩ = some (.int .i64 2)) ∧ (2 ≤ k → wr.cell? ⟨w.heap.size, 3, none⟩ = some (.int .i64 2))) := ⟨hB, hN, hT, hc0, hc2, hc1, hc3⟩
      clear hT hc0 hc2 hc1 hc3
      go_wp2_with fail
      refine (jread_any j d bn k n _ (hJ.below hB hj) (hD.below hB hd) (by omega) (byts zero128) HLZ.out h1Z (hBl.below hB hbn k (by omega))).mono ?_
      rintro e w1 ⟨rfl, hb1⟩
      have MZ : Hid (∀ (a b : Int) (w : World), Calls Tryd.prog 23 #[.int .i64 a, .agg (byts zero128).toArray, .int .i64 b] w fun e w' => e = .returned (.tuple #[.agg #[.int .u64 0, .int .i64 2], .bool true]) ∧ Below w.heap.size w w') := markOf_zero
      generalize byts zero128 = Z at HLZ h1Z MZ ⊢
      have ht1 : (w1.alloc (.cells Tryd.zeroCells90 90)).there w1.heap.size 0 Z.toArray.size := by simpa [HLZ.out] using there_new90 w1
      go_wp2_with (first | (refine wpList_store_mid rfl 90 _ _ rfl w1.heap.size 0 Z.toArray (by go_simp) (by go_simp) ht1 (by simp [HLZ.out, size90]) (all_oneCell_toArray h1Z) ?_))
      have HS : Hid (((w1.alloc (.cells Tryd.zeroCells90 90)).setCells w1.heap.size 0 Z).rangeAt w1.heap.size 0 Z ∧ Below wr.heap.size wr ((w1.alloc (.cells Tryd.zeroCells90 90)).setCells w1.heap.size 0 Z) ∧ w1.heap.size < ((w1.alloc (.cells Tryd.zeroCells90 90)).setCells w1.heap.size 0 Z).heap.size) :=
        ⟨World.rangeAt_setCells_same _ _ _ _ (by simpa using ht1), below_setCells hb1.size _ _ _ (hb1.alloc hb1.size _), by
          have := (below_setCells (Nat.le_refl (w1.alloc (Obj.cells Tryd.zeroCells90 90)).heap.size) ([] : List Value) 0 _ (Below.refl _ (w1.alloc (Obj.cells Tryd.zeroCells90 90)))).size
          have h2 : ∀ (vs : List Value) (o : Nat) (x : World), (x.setCells w1.heap.size o vs).heap.size = x.heap.size := by
            intro vs
            induction vs with
            | nil => intro o x; rfl
            | cons v r ih => intro o x; rw [World.setCells, ih]; simp [World.setCell]
          rw [h2]; simp⟩
      clear ht1
      generalize ((w1.alloc (.cells Tryd.zeroCells90 90)).setCells w1.heap.size 0 Z) = W2 at HS ⊢
      obtain ⟨hR2, hB2, hlt2⟩ := HS.out
      clear HS
      have u90 := Tryd.underlying90
      have i90 : (Tryd.prog.info? 90).map (·.size) = some Z.length := by rw [HLZ.out]; exact size90
      have hBw2 : Below w.heap.size w W2 := hB.trans (hB2.mono (Nat.le_of_lt hN))
      have hJ2 := hJ.below hBw2 hj
      have hD2 := hD.below hBw2 hd
      have hdev2 := hJ2.dev
      have hj2 : j < W2.heap.size := hJ2.lt
      have hd2 : d < W2.heap.size := hD2.lt
      have HD2 : Hid (Dev W2 d bn n) := hD2
      clear hD2 hJ2
      obtain ⟨sa, c, hsafe⟩ := HD2.out.safe
      have HSF : Hid (W2.cell? ⟨d, 0, none⟩ = some (.slice sa n c)) := hsafe
      clear hsafe
      have mkS : ∀ W, Below W2.heap.size W2 W → Below W2.heap.size W2 W ∧ W.rangeAt w1.heap.size 0 Z ∧ W.cell? ⟨j, 0, none⟩ = some (.pointer (some ⟨d, 0, none⟩)) := fun W h => ⟨h, rangeAt_below h hlt2 hR2, (h.cell (p := ⟨j, 0, none⟩) hj2).trans hdev2⟩
      have hNW : w.heap.size < W2.heap.size := Nat.lt_of_lt_of_le hN hB2.size
      have hNW' : w.heap.size < W2.heap.size + 1 := by omega
      have hne2 : ¬ (W2.heap.size = w.heap.size) := by omega
      have hne3 : ¬ (w.heap.size = W2.heap.size) := by omega
      rw [← hB2.cell (p := ⟨w.heap.size, 0, none⟩) hN] at hy0
      rw [← hB2.cell (p := ⟨w.heap.size, 1, none⟩) hN] at hy1
      rw [← hB2.cell (p := ⟨w.heap.size, 2, none⟩) hN] at hy2
      rw [← hB2.cell (p := ⟨w.heap.size, 3, none⟩) hN] at hy3
      rw [← hB2.frozen (p := ⟨w.heap.size, 0, none⟩) hN] at hz0
      rw [← hB2.frozen (p := ⟨w.heap.size, 1, none⟩) hN] at hz1
      rw [← hB2.frozen (p := ⟨w.heap.size, 2, none⟩) hN] at hz2
      rw [← hB2.frozen (p := ⟨w.heap.size, 3, none⟩) hN] at hz3
      have h22 := Below.refl W2.heap.size W2
      have h22d : Below W2.heap.size W2 W2.drew := h22.drew
      have h22a : ∀ ob, Below W2.heap.size W2 (W2.alloc ob).drew := fun ob => (belowA h22 ob).drew
      go_region_held3 (fun W => Below W2.heap.size W2 W ∧ W.rangeAt w1.heap.size 0 Z ∧ W.cell? ⟨j, 0, none⟩ = some (.pointer (some ⟨d, 0, none⟩)))
        ((go_split_ands; refine mkS _ ?_; first | assumption | (refine Below.drew ?_; assumption) | (exact belowT (by assumption) hbm) | (exact belowA (by assumption) _) | (exact belowA (belowT h22d hbm) _) | (exact (belowA h22 _).drew) | (exact belowT (h22a _) hbm) | (exact Below.setCell (Below.setCell (belowT (h22a _) hbm) (p := ⟨W2.heap.size, 0, none⟩) (Nat.le_refl _) _) (p := ⟨W2.heap.size, 1, none⟩) (Nat.le_refl _) _) | (exact Below.setCell (Below.setCell (by assumption) (p := ⟨_, 0, none⟩) hbm.size _) (p := ⟨_, 1, none⟩) hbm.size _)))
        ((go_split_ands; first | (go_at_call 7; refine (sectors_any d _ sa n c ((Below.cell (by assumption) (p := ⟨d, 0, none⟩) hd2).trans HSF.out)).mono ?_; rintro e w' ⟨rfl, rfl⟩) | (go_at_call 23; refine (MZ.out _ _ _).mono ?_; rintro e w' ⟨rfl, hbm⟩; have hNw := ltT hNW (by assumption) hbm; have hq0 := fun h => hbm.cell (p := ⟨W2.heap.size, 0, none⟩) h; have hq1 := fun h => hbm.cell (p := ⟨W2.heap.size, 1, none⟩) h; have hq2 := fun h => hbm.frozen (p := ⟨W2.heap.size, 0, none⟩) h; have hq3 := fun h => hbm.frozen (p := ⟨W2.heap.size, 1, none⟩) h; have hv0 := cellT hNW (by assumption) hbm hy0; have hv1 := cellT hNW (by assumption) hbm hy1; have hv2 := cellT hNW (by assumption) hbm hy2; have hv3 := cellT hNW (by assumption) hbm hy3; have hu0 := frozenT hNW (by assumption) hbm hz0; have hu1 := frozenT hNW (by assumption) hbm hz1; have hu2 := frozenT hNW (by assumption) hbm hz2; have hu3 := frozenT hNW (by assumption) hbm hz3; have hnw1 := Nat.ne_of_lt hNw; have hnw2 := Nat.ne_of_gt hNw)))
      all_goals
        rename_i hH
        have HBF := hB2.trans (hH.1.mono hB2.size)
        have HBF' : Hid (Below wr.heap.size wr _) := HBF
        clear HBF hH
        have hk01 : k = 0 ∨ k = 1 := by omega
        have tF : ∀ (WF : World) (i : Nat), i + 1 < 4 → Below wr.heap.size wr WF → WF.there w.heap.size i 2 := fun WF i hi4 hbF o ho => by
          rw [hbF.cell (p := ⟨w.heap.size, i + o, none⟩) hN, hbF.frozen (p := ⟨w.heap.size, i + o, none⟩) hN]
          have := HREL.out.2.2.1 (i + o) (by omega)
          rwa [Nat.zero_add] at this
        rcases hk01 with rfl | rfl
        · go_wp2_with (first | (refine wpList_store_mid rfl 58 _ _ rfl w.heap.size 0 #[.int .u64 0, .int .i64 2] (by go_simp) (by go_simp) (tF _ 0 (by omega) HBF'.out) size58 rfl ?_))
          have hre := re_gen 0 (by omega) HREL.out.1 hN HREL.out.2.2.1 HBF'.out
          try rw [set2 _ _ _ _ _ hNw] at hre
          obtain ⟨_, _, _, h4, h5, h6, h7⟩ := HREL.out
          exact ⟨⟨1, by omega, by go_num, hre.1, hre.2.1, hre.2.2.1, hre.2.2.2.2.1, (hre.2.2.2.1 2 (by omega) (by omega)).trans h5, fun _ => hre.2.2.2.2.2, fun h => by omega⟩, by simp [intOf]⟩
        · go_wp2_with (first | (refine wpList_store_mid rfl 58 _ _ rfl w.heap.size 2 #[.int .u64 0, .int .i64 2] (by go_simp) (by go_simp) (tF _ 2 (by omega) HBF'.out) size58 rfl ?_))
          have hre := re_gen 2 (by omega) HREL.out.1 hN HREL.out.2.2.1 HBF'.out
          try rw [set2 _ _ _ _ _ hNw] at hre
          obtain ⟨_, _, _, h4, h5, h6, h7⟩ := HREL.out
          exact ⟨⟨2, by omega, by go_num, hre.1, hre.2.1, hre.2.2.1, (hre.2.2.2.1 0 (by omega) (by omega)).trans h4, hre.2.2.2.2.1, fun _ => (hre.2.2.2.1 1 (by omega) (by omega)).trans (h6 (by omega)), fun _ => hre.2.2.2.2.2⟩, by simp [intOf]⟩
    · have hi : ¬ ((k : Int) < 2) := by omega
      have hd1 := hc1 (by omega)
      have hd3 := hc3 (by omega)
      clear hc1 hc3
      go_wp2_with fail
      refine (newest_zero _).mono ?_
      rintro e w1 ⟨rfl, hb1⟩
      have hB1 : Below w.heap.size w w1 := hB.trans (hb1.mono (Nat.le_of_lt hN))
      have hj1 : j < w1.heap.size := Nat.lt_of_lt_of_le hj hB1.size
      have hv1 := (hB1.cell (p := ⟨j, 1, none⟩) hj).trans hx1
      have hv2 := (hB1.cell (p := ⟨j, 2, none⟩) hj).trans hx2
      have hu1 := (hB1.frozen (p := ⟨j, 1, none⟩) hj).trans hf1
      have hu2 := (hB1.frozen (p := ⟨j, 2, none⟩) hj).trans hf2
      have hn1 := Nat.ne_of_lt hj1
      have hn2 := Nat.ne_of_gt hj1
      go_wp2
      go_ret
      refine ⟨rfl, w1.alloc (.cells #[.int .u64 0, .int .i64 2] 58), hB1.alloc hB1.size _, ?_⟩
      exact (set2 w1 _ 1 _ _ hj1).symm
end Go.Proofs.YtbhbcdocklimiaaDoor
