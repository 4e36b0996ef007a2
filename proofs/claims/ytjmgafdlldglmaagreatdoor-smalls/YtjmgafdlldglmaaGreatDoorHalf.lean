import Derived.Test.YtjmgafdlldglmaaGreatDoorMark
namespace Go.Proofs.YtjmgafdlldglmaaGreatDoor
open Go.RowKit
set_option maxRecDepth 100000
set_option linter.unusedVariables false

theorem half_num (n : Nat) (h2 : 2 ≤ n) (hn : n ≤ 100000) : wrap64 ((wrap64 ((n : Int) - 2)).tdiv 2) = ((n - 2) / 2 : Nat) := by
  have h1 : wrap64 ((n : Int) - 2) = ((n - 2 : Nat) : Int) := by unfold wrap64; omega
  rw [h1, Int.tdiv_eq_ediv_of_nonneg (by omega)]
  unfold wrap64; omega

set_option maxHeartbeats 400000 in
theorem size_any (j d bn n : Nat) (w : World) (hJ : Jrn w j d) (hD : Dev w d bn n) (h2 : 2 ≤ n) :
    Calls Tryz.prog 52 #[.pointer (some ⟨j, 0, none⟩)] w fun e w' => e = .returned (.int .i64 ((n - 2) / 2 : Nat)) ∧ w = w' := by
  obtain ⟨sa, c, hs⟩ := hD.safe
  have hq := half_num n h2 hD.small
  have hdev := hJ.dev
  go_enter Tryz.func52, Tryz.ntmps52
  go_wp2_with fail
  refine (sectors_any d _ sa n c hs).mono ?_
  rintro e w' ⟨rfl, rfl⟩
  go_wp2
  go_ret
  exact ⟨by show Ending.returned (.int .i64 (wrap64 ((wrap64 ((n : Int) - 2)).tdiv 2))) = _; rw [hq], rfl⟩
set_option maxHeartbeats 400000 in
theorem begin_zero (j d bn n : Nat) (w : World) (hJ : Jrn w j d) (hD : Dev w d bn n) (h2 : 2 ≤ n) :
    Calls Tryz.prog 32 #[.pointer (some ⟨j, 0, none⟩), .int .i64 0] w fun e w' => e = .returned (.int .i64 2) ∧ w = w' := by
  go_enter Tryz.func32, Tryz.ntmps32
  go_wp2_with fail
  refine (size_any j d bn n _ hJ hD h2).mono ?_
  rintro e w' ⟨rfl, rfl⟩
  go_wp2
  go_ret
  exact ⟨rfl, rfl⟩
set_option maxHeartbeats 400000 in
theorem limit_zero (j d bn n : Nat) (w : World) (hJ : Jrn w j d) (hD : Dev w d bn n) (h2 : 2 ≤ n) (hh : w.cell? ⟨j, 2, none⟩ = some (.int .i64 0)) :
    Calls Tryz.prog 53 #[.pointer (some ⟨j, 0, none⟩)] w fun e w' => e = .returned (.int .i64 (2 + (n - 2) / 2 : Nat)) ∧ w = w' := by
  have hsm := hD.small
  go_enter Tryz.func53, Tryz.ntmps53
  go_wp2_with fail
  refine (begin_zero j d bn n _ hJ hD h2).mono ?_
  rintro e w' ⟨rfl, rfl⟩
  go_wp2_with fail
  refine (size_any j d bn n _ hJ hD h2).mono ?_
  rintro e w' ⟨rfl, rfl⟩
  go_wp2
  go_ret
  exact ⟨by congr 2, rfl⟩
theorem within_num (n : Nat) (hn : n ≤ 100000) : 2 ≤ IntKind.i64.wrap (2 + ((n - 2 : Nat) : Int) / 2) := by
  have : IntKind.i64.wrap (2 + ((n - 2 : Nat) : Int) / 2) = 2 + ((n - 2 : Nat) : Int) / 2 := by
    simp [IntKind.wrap, IntKind.signed, IntKind.bits]; omega
  omega
set_option maxHeartbeats 1000000 in
theorem isWithin_zero (j d bn n : Nat) (w : World) (hJ : Jrn w j d) (hD : Dev w d bn n) (h2 : 2 ≤ n) :
    Calls Tryz.prog 28 #[.pointer (some ⟨j, 0, none⟩), .agg #[.int .u64 0, .int .i64 0, .int .i64 2]] w fun e w' => e = .returned (.bool true) ∧ Below w.heap.size w w' := by
  have hB : Below w.heap.size w (w.alloc (.cells #[.int .u64 0, .int .i64 0, .int .i64 2] 59)) := (Below.refl _ _).alloc (Nat.le_refl _) _
  have hj := hJ.lt
  have hd := hD.lt
  have hc1 : (w.alloc (.cells #[.int .u64 0, .int .i64 0, .int .i64 2] 59)).cell? ⟨w.heap.size, 1, none⟩ = some (.int .i64 0) := by go_simp
  have hc2 : (w.alloc (.cells #[.int .u64 0, .int .i64 0, .int .i64 2] 59)).cell? ⟨w.heap.size, 2, none⟩ = some (.int .i64 2) := by go_simp
  have hsm := hD.small
  have HJ : Hid (Jrn w j d) := hJ
  have HD : Hid (Dev w d bn n) := hD
  clear hJ hD
  go_enter Tryz.func28, Tryz.ntmps28
  go_wp2_with fail
  generalize w.alloc (.cells #[.int .u64 0, .int .i64 0, .int .i64 2] 59) = W1 at hB hc1 hc2 ⊢
  refine (begin_zero j d bn n _ (HJ.out.below hB hj) (HD.out.below hB hd) h2).mono ?_
  rintro e w' ⟨rfl, rfl⟩
  go_wp2_with fail
  go_region_held3 (fun W => W.cell? ⟨w.heap.size, 1, none⟩ = some (.int .i64 0) ∧ W.cell? ⟨w.heap.size, 2, none⟩ = some (.int .i64 2) ∧ Below w.heap.size w W)
    ((go_split_ands; refine ⟨?_, ?_, ?_⟩ <;> first | assumption | (simp; assumption) | (refine Below.drew ?_; assumption)))
    ((go_split_ands; go_at_call 52; refine (size_any j d bn n _ (HJ.out.below (by assumption) hj) (HD.out.below (by assumption) hd) h2).mono ?_; rintro e w' ⟨rfl, rfl⟩))
  all_goals
    rename_i hH
    go_wp2
    go_ret
    exact ⟨ret_bool (decide_eq_true (within_num n hsm)), hH.2.2⟩
end Go.Proofs.YtjmgafdlldglmaaGreatDoor
