import Derived.Test.YtjmgafdlldglmaaGreatDoorJOpen
import Derived.Test.YtjmgafdlldglmaaGreatDoorNew
import Derived.Test.YtjmgafdlldglmaaGreatDoorTell
import Derived.Test.YtjmgafdlldglmaaGreatDoorCat
namespace Go.Proofs.YtjmgafdlldglmaaGreatDoor
open Go.RowKit
set_option maxRecDepth 100000
set_option linter.unusedVariables false

theorem info65 : (Tryz.prog.info? 66).map (fun i => i.bytes) = some 24 := by kernel_rfl
set_option maxHeartbeats 1000000 in
theorem snew_any (w : World) : Calls Tryz.prog 12 #[.int .i64 2] w fun e w' => ∃ c, e = .returned (.chan (some c)) ∧ Below w.heap.size w w' := by
  obtain ⟨i, hi, hb⟩ := Option.map_eq_some_iff.1 info65
  have hmk : ∀ W, (Instr.makeChan 41 (.int .i64 2)).run Tryz.prog W = .ok (.chan (some W.heap.size)) (W.alloc (.chan 2 #[] false 0 0 false)) := fun W => Conc.run_makeChan (w := W) Tryz.underlying41 hi .i64 2 (by omega) (by rw [hb]; omega)
  go_enter Tryz.func12, Tryz.ntmps12
  go_wp2
  go_ret
  exact ⟨_, rfl, (Below.refl _ _).alloc (Nat.le_refl _) _⟩

set_option maxHeartbeats 1000000 in
theorem open_small (d bn n : Nat) (q : Int) (w : World) (hD : Dev w d bn n) (hn : n < 16) :
    Calls Tryz.prog 4 #[.pointer (some ⟨d, 0, none⟩), .int .i64 q] w fun e w' => e = .returned (.tuple #[.pointer none, .iface 30 (.int .i64 12)]) ∧ w = w' := by
  obtain ⟨sa, c, hs⟩ := hD.safe
  have hi : (n : Int) < 16 := by omega
  go_enter Tryz.func4, Tryz.ntmps4
  go_wp2_with (go_at_call 7; refine (sectors_any d _ sa n c hs).mono ?_; rintro e w' ⟨rfl, rfl⟩)
  go_ret2
  exact ⟨rfl, rfl⟩

set_option maxHeartbeats 1000000 in
theorem open_blank (d bn n : Nat) (q : Int) (w : World) (hD : Dev w d bn n) (hBl : Blank w bn n) (hn : 16 ≤ n) :
    Calls Tryz.prog 4 #[.pointer (some ⟨d, 0, none⟩), .int .i64 q] w fun e w' => ∃ a, e = .returned (.tuple #[.pointer (some ⟨a, 0, none⟩), .nilIface]) ∧ Below w.heap.size w w' := by
  obtain ⟨sa, c, hs⟩ := hD.safe
  have hi : ¬ ((n : Int) < 16) := by omega
  have hd := hD.lt
  have hbn := hBl.lt (by omega)
  go_enter Tryz.func4, Tryz.ntmps4
  go_wp2_with (first
    | (go_at_call 7; refine (sectors_any d _ sa n c hs).mono ?_; rintro e w' ⟨rfl, rfl⟩)
    | (go_at_call 8; refine (cnew_any _).mono ?_; rintro e w1 ⟨cb, rfl, hb1, hc1⟩)
    | (go_at_call 9; refine (jopen_any d bn n 10 _ _ (hD.below hb1 hd) (hBl.below hb1 hbn) (by omega)).mono ?_; rintro e w2 ⟨jb, rfl, hb2⟩)
    | (go_at_call 11; refine (forget_none cb _ (hc1.below hb2)).mono ?_; rintro e w4 ⟨rfl, hb4⟩)
    | (go_at_call 12; refine (snew_any _).mono ?_; rintro e w3 ⟨sb, rfl, hb3⟩))
  all_goals
    have hbw' := hb1.trans (hb2.mono hb1.size)
    have hbw := hbw'.trans (hb4.mono hbw'.size)
    have hbw3 := hbw.trans (hb3.mono hbw.size)
    go_ret2
    exact ⟨⟨_, rfl⟩, hbw3.alloc hbw3.size _⟩

theorem laid_below {w w' : World} {v : Value} (h : w.cell? ⟨0, 0, none⟩ = some v) (hb : Below w.heap.size w w') : w'.cell? ⟨0, 0, none⟩ = some v := by
  rw [hb.cell (p := ⟨0, 0, none⟩) (World.block_lt_of_cell? w _ h)]; exact h

theorem small_num (s : Int) : ∃ k : Nat, k < 16 ∧ wrap64 ((IntKind.u64.wrap s).tmod 16) = k := by
  have h0 : 0 ≤ IntKind.u64.wrap s := by
    simp [IntKind.wrap, IntKind.signed, IntKind.bits]
    omega
  have h1 : (IntKind.u64.wrap s).tmod 16 = IntKind.u64.wrap s % 16 := Int.tmod_eq_emod_of_nonneg h0
  refine ⟨(IntKind.u64.wrap s % 16).toNat, by omega, ?_⟩
  rw [h1]
  generalize IntKind.u64.wrap s = u at h0
  have h2 : 0 ≤ u % 16 ∧ u % 16 < 16 := by omega
  have h3 : wrap64 (u % 16) = u % 16 := by unfold wrap64; omega
  rw [h3]; omega

set_option maxHeartbeats 2000000 in
/-- **Smalls** is true. -/
theorem smalls_any (s q : Int) (w : World) (hg : w.cell? ⟨0, 0, none⟩ = some (.iface 145 (.agg #[.pointer (some ⟨1, 25, none⟩)]))) :
    Calls Tryz.prog 3 #[.int .i64 s, .int .i64 q] w fun e w' => e = .returned (.bool true) ∧ Below w.heap.size w w' := by
  obtain ⟨k, hk, he⟩ := small_num s
  go_enter Tryz.func3, Tryz.ntmps3
  go_wp2_with fail
  rw [he]
  refine (newDevice_any k (by omega) _).mono ?_
  rintro e w1 ⟨d1, bn1, rfl, hD1, hBl1, hb1⟩
  go_wp2_with fail
  refine (open_small d1 bn1 k q _ hD1 hk).mono ?_
  rintro e w' ⟨rfl, rfl⟩
  go_wp2_with fail
  refine (newDevice_any 16 (by omega) _).mono ?_
  rintro e w2 ⟨d2, bn2, rfl, hD2, hBl2, hb2⟩
  go_wp2_with fail
  refine (open_blank d2 bn2 16 q _ hD2 hBl2 (by omega)).mono ?_
  rintro e w3 ⟨a, rfl, hb3⟩
  have hbw2 := hb1.trans (hb2.mono hb1.size)
  have hbw3 := hbw2.trans (hb3.mono hbw2.size)
  have hg3 := laid_below hg hbw3
  go_wp2_with fail
  refine (tell_errno 12 _ hg3).mono ?_
  rintro e w4 ⟨rfl, hb4⟩
  have hbw4 := hbw3.trans (hb4.mono hbw3.size)
  go_wp2_with fail
  refine (tell_nil _).mono ?_
  rintro e w5 ⟨rfl, hb5⟩
  go_wp2
  go_ret
  exact ⟨rfl, hbw4.trans (hb5.mono hbw4.size)⟩
#print axioms smalls_any
end Go.Proofs.YtjmgafdlldglmaaGreatDoor
