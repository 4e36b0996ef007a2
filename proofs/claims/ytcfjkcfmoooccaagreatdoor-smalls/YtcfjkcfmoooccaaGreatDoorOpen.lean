import Derived.Test.YtcfjkcfmoooccaaGreatDoorSOpen
import Derived.Test.YtcfjkcfmoooccaaGreatDoorNew
import Derived.Test.YtcfjkcfmoooccaaGreatDoorTell
import Derived.Test.YtcfjkcfmoooccaaGreatDoorForget
namespace Go.Proofs.YtcfjkcfmoooccaaGreatDoor
open Go.RowKit
set_option maxRecDepth 100000
set_option linter.unusedVariables false

theorem info65 : (Tryz.prog.info? 35).map (fun i => i.bytes) = some 24 := by kernel_rfl
set_option maxHeartbeats 1000000 in
theorem snew_any (w : World) : Calls Tryz.prog 12 #[.int .i64 2] w fun e w' => ∃ c, e = .returned (.chan (some c)) ∧ Below w.heap.size w w' := by
  obtain ⟨i, hi, hb⟩ := Option.map_eq_some_iff.1 info65
  have hmk : ∀ W, (Instr.makeChan 42 (.int .i64 2)).run Tryz.prog W = .ok (.chan (some W.heap.size)) (W.alloc (.chan 2 #[] false 0 0 false)) := fun W => Conc.run_makeChan (w := W) Tryz.underlying42 hi .i64 2 (by omega) (by rw [hb]; omega)
  go_enter Tryz.func12, Tryz.ntmps12
  go_wp2
  go_ret
  exact ⟨_, rfl, (Below.refl _ _).alloc (Nat.le_refl _) _⟩

set_option maxHeartbeats 1000000 in
theorem open_small (d bn n : Nat) (q : Int) (w : World) (hD : Dev w d bn n) (hn : n < 16) :
    Calls Tryz.prog 4 #[.pointer (some ⟨d, 0, none⟩), .int .i64 q] w fun e w' => e = .returned (.tuple #[.pointer none, .iface 30 (.int .i64 12)]) ∧ w = w' := by
  obtain ⟨sa, c, hs⟩ := hD.safe
  have hi : (n : Int) < 16 := by omega
  go_enter Tryz.func4, Tryz.ntmps4
  go_wp2_with (go_at_call 7; refine (sectors_any d _ sa n c hs).mono ?_; rintro e w' ⟨rfl, rfl⟩)
  go_ret2
  exact ⟨rfl, rfl⟩

set_option maxHeartbeats 1000000 in
theorem accountOf16 (d bn : Nat) (w : World) (hD : Dev w d bn 16) :
    Calls Tryz.prog 13 #[.pointer (some ⟨d, 0, none⟩)] w fun e w' => e = .returned (.agg #[.int .i64 (-1488), .int .i64 0]) ∧ Below w.heap.size w w' := by
  have hB0 : Below w.heap.size w (w.alloc (.cells #[.int .i64 0, .int .i64 0] 45)) := (Below.refl _ _).alloc (Nat.le_refl _) _
  obtain ⟨sa, c, hs⟩ := (hD.below hB0 hD.lt).safe
  have hbu : ∀ (x : Int) (w : World), (Instr.build 45 #[(0, .int .i64 x)]).run Tryz.prog w = .ok (.agg #[.int .i64 x, .int .i64 0]) w := fun x w => run_build w 45 _ _ (by kernel_rfl)
  go_enter Tryz.func13, Tryz.ntmps13
  go_wp2_with (go_at_call 7; refine (sectors_any d _ sa 16 c hs).mono ?_; rintro e w' ⟨rfl, rfl⟩)
  exact bodyPost_ret (v := .agg #[.int .i64 (-1488), .int .i64 0]) (by simp [results, Tryz.results13, go_sem]) rfl ⟨rfl, (Below.refl _ _).alloc (Nat.le_refl _) _⟩

set_option maxHeartbeats 2000000 in
theorem open_blank (d bn : Nat) (q : Int) (w : World) (hD : Dev w d bn 16) (hBl : Blank w bn 16) :
    Calls Tryz.prog 4 #[.pointer (some ⟨d, 0, none⟩), .int .i64 q] w fun e w' => ∃ a, e = .returned (.tuple #[.pointer (some ⟨a, 0, none⟩), .nilIface]) ∧ Below w.heap.size w w' := by
  obtain ⟨sa, c, hs⟩ := hD.safe
  have hd := hD.lt
  have hbn := hBl.lt (by omega)
  go_enter Tryz.func4, Tryz.ntmps4
  go_wp2_with (go_at_call 7; refine (sectors_any d _ sa 16 c hs).mono ?_; rintro e w' ⟨rfl, rfl⟩)
  refine (sopen_none d bn _ hD hBl).mono ?_
  rintro e w1 ⟨j, rfl, hb1⟩
  go_wp2_with fail
  refine (cnew_any _).mono ?_
  rintro e w2 ⟨cb, rfl, hb2, hc2, hcb⟩
  have hB2 := hb1.trans (hb2.mono hb1.size)
  go_wp2_with fail
  refine (apply_none cb _).mono ?_
  rintro e w3 ⟨rfl, hb3⟩
  have hc3 := hc2.below hb3
  have hB3 := hB2.trans (hb3.mono hB2.size)
  go_wp2_with fail
  refine (forget_none w.heap.size cb _ hc3 (Nat.le_trans hb1.size hcb)).mono ?_
  rintro e w4 ⟨rfl, hb4, hc4⟩
  have hB4 := hB3.trans hb4
  go_wp2_with fail
  refine (snew_any _).mono ?_
  rintro e w5 ⟨sb, rfl, hb5⟩
  have hc5 := hc4.below hb5
  have hB5 := hB4.trans (hb5.mono hB4.size)
  go_wp2_with fail
  refine (accountOf16 d bn _ (hD.below hB5 hd)).mono ?_
  rintro e w6 ⟨rfl, hb6⟩
  have hc6 := hc5.below hb6
  have hB6 := hB5.trans (hb6.mono hB5.size)
  have hbu : ∀ (x : Int) (w : World), (Instr.build 48 #[(0, .pointer (some ⟨j, 0, none⟩)), (1, .pointer (some ⟨cb, 0, none⟩)), (2, .chan (some sb)), (3, .agg #[.int .i64 (-1488), .int .i64 0]), (4, .int .i64 x)]).run Tryz.prog w = .ok (.agg #[.pointer (some ⟨j, 0, none⟩), .pointer (some ⟨cb, 0, none⟩), .chan (some sb), .int .i64 (-1488), .int .i64 0, .int .i64 x]) w := fun x w => run_build w 48 _ _ (by kernel_rfl)
  go_wp2_with fail
  all_goals
    refine (begin_none w6.heap.size cb _ (hc6.below ((Below.refl _ _).alloc (Nat.le_refl _) _)) (by rw [cell_of_row _ _ _ _ _ _ (heap_alloc_new w6 _)]; rfl) (frozen_of_row _ _ _ _ _ (heap_alloc_new w6 _))).mono ?_
    rintro e w7 ⟨rfl, hb7⟩
    go_wp2
    go_ret2
    exact ⟨_, rfl, (hB6.alloc hB6.size _).trans (hb7.mono (by have := hB6.size; simp; omega))⟩

theorem laid_below {w w' : World} {v : Value} (h : w.cell? ⟨0, 0, none⟩ = some v) (hb : Below w.heap.size w w') : w'.cell? ⟨0, 0, none⟩ = some v := by
  rw [hb.cell (p := ⟨0, 0, none⟩) (World.block_lt_of_cell? w _ h)]; exact h

theorem small_num (s : Int) : ∃ k : Nat, k < 16 ∧ wrap64 ((IntKind.u64.wrap s).tmod 16) = k := by
  have h0 : 0 ≤ IntKind.u64.wrap s := by
    simp [IntKind.wrap, IntKind.signed, IntKind.bits]
    omega
  have h1 : (IntKind.u64.wrap s).tmod 16 = IntKind.u64.wrap s % 16 := Int.tmod_eq_emod_of_nonneg h0
  refine ⟨(IntKind.u64.wrap s % 16).toNat, by omega, ?_⟩
  rw [h1]
  generalize IntKind.u64.wrap s = u at h0
  have h2 : 0 ≤ u % 16 ∧ u % 16 < 16 := by omega
  have h3 : wrap64 (u % 16) = u % 16 := by unfold wrap64; omega
  rw [h3]; omega

set_option maxHeartbeats 2000000 in
/-- **Smalls** is true. -/
theorem smalls_any (s q : Int) (w : World) (hg : w.cell? ⟨0, 0, none⟩ = some (.iface 162 (.agg #[.pointer (some ⟨1, 25, none⟩)]))) :
    Calls Tryz.prog 3 #[.int .i64 s, .int .i64 q] w fun e w' => e = .returned (.bool true) ∧ Below w.heap.size w w' := by
  obtain ⟨k, hk, he⟩ := small_num s
  go_enter Tryz.func3, Tryz.ntmps3
  go_wp2_with fail
  rw [he]
  refine (newDevice_any k (by omega) _).mono ?_
  rintro e w1 ⟨d1, bn1, rfl, hD1, hBl1, hb1⟩
  go_wp2_with fail
  refine (open_small d1 bn1 k q _ hD1 hk).mono ?_
  rintro e w' ⟨rfl, rfl⟩
  go_wp2_with fail
  refine (newDevice_any 16 (by omega) _).mono ?_
  rintro e w2 ⟨d2, bn2, rfl, hD2, hBl2, hb2⟩
  go_wp2_with fail
  refine (open_blank d2 bn2 q _ hD2 hBl2).mono ?_
  rintro e w3 ⟨a, rfl, hb3⟩
  have hbw2 := hb1.trans (hb2.mono hb1.size)
  have hbw3 := hbw2.trans (hb3.mono hbw2.size)
  have hg3 := laid_below hg hbw3
  go_wp2_with fail
  refine (tell_errno 12 _ hg3).mono ?_
  rintro e w4 ⟨rfl, hb4⟩
  have hbw4 := hbw3.trans (hb4.mono hbw3.size)
  go_wp2_with fail
  refine (tell_nil _).mono ?_
  rintro e w5 ⟨rfl, hb5⟩
  go_wp2
  go_ret
  exact ⟨rfl, hbw4.trans (hb5.mono hbw4.size)⟩
#print axioms smalls_any
end Go.Proofs.YtcfjkcfmoooccaaGreatDoor
