import Derived.Test.YtcfjkcfmoooccaaGreatDoorDev
namespace Go.Proofs.YtcfjkcfmoooccaaGreatDoor
open Go.RowKit
set_option maxRecDepth 100000
set_option linter.unusedVariables false

/-! The layout of a device of 16 sectors: width 2, 62 entries, tables of one sector each, the first page at 4. -/
set_option maxHeartbeats 400000 in
theorem width16 (w : World) : Calls Tryz.prog 63 #[.agg #[.int .i64 16]] w fun e w' => e = .returned (.int .i64 2) ∧ Below w.heap.size w w' := by
  go_enter Tryz.func63, Tryz.ntmps63
  go_wp2
  go_ret
  exact ⟨rfl, (Below.refl _ _).alloc (Nat.le_refl _) _⟩
set_option maxHeartbeats 400000 in
theorem entries16 (w : World) : Calls Tryz.prog 38 #[.agg #[.int .i64 16]] w fun e w' => e = .returned (.int .i64 62) ∧ Below w.heap.size w w' := by
  go_enter Tryz.func38, Tryz.ntmps38
  go_wp2_with fail
  refine (width16 _).mono ?_
  rintro e w1 ⟨rfl, hb1⟩
  go_wp2
  go_ret
  exact ⟨rfl, ((Below.refl _ _).alloc (Nat.le_refl _) _).trans (hb1.mono (by simp))⟩
set_option maxHeartbeats 400000 in
theorem ceil14 (w : World) : Calls Tryz.prog 81 #[.int .i64 14, .int .i64 64] w fun e w' => e = .returned (.int .i64 1) ∧ w = w' := by
  go_enter Tryz.func81, Tryz.ntmps81
  go_wp2
  go_ret
  exact ⟨rfl, rfl⟩

theorem box57 (w : World) : (w.alloc (.cells #[.int .i64 16] 57)).cell? ⟨w.heap.size, 0, none⟩ = some (.int .i64 16) := by go_simp

set_option maxHeartbeats 1000000 in
theorem tableSize16 (w : World) : Calls Tryz.prog 61 #[.agg #[.int .i64 16]] w fun e w' => e = .returned (.int .i64 1) ∧ Below w.heap.size w w' := by
  have hB : Below w.heap.size w (w.alloc (.cells #[.int .i64 16] 57)) := (Below.refl _ _).alloc (Nat.le_refl _) _
  have hc := box57 w
  have hlt : w.heap.size < (w.alloc (.cells #[.int .i64 16] 57)).heap.size := by simp
  go_enter Tryz.func61, Tryz.ntmps61
  go_wp2_with fail
  generalize w.alloc (.cells #[.int .i64 16] 57) = W1 at hB hc hlt ⊢
  go_region_held3 (fun W => W.cell? ⟨w.heap.size, 0, none⟩ = some (.int .i64 16) ∧ Below w.heap.size w W ∧ w.heap.size < W.heap.size)
    ((go_split_ands; refine ⟨?_, ?_, ?_⟩ <;> first | assumption | (simp; assumption) | (refine Below.drew ?_; assumption) | (exact (hb.cell (p := ⟨w.heap.size, _, none⟩) (by assumption)).trans (by assumption)) | (exact Below.trans (by assumption) (hb.mono (Nat.le_of_lt (by assumption)))) | (exact Nat.lt_of_lt_of_le (by assumption) hb.size)))
    ((first | (go_split_ands; go_at_call 38; refine (entries16 _).mono ?_; rintro e w' ⟨rfl, hb⟩) | (go_at_call 81; refine (ceil14 _).mono ?_; rintro e w' ⟨rfl, rfl⟩)))
  all_goals
    rename_i hH
    go_wp2
    go_ret
    exact ⟨rfl, hH.2.1⟩
set_option maxHeartbeats 400000 in
theorem firstPage16 (w : World) : Calls Tryz.prog 41 #[.agg #[.int .i64 16]] w fun e w' => e = .returned (.int .i64 4) ∧ Below w.heap.size w w' := by
  go_enter Tryz.func41, Tryz.ntmps41
  go_wp2_with fail
  refine (tableSize16 _).mono ?_
  rintro e w1 ⟨rfl, hb1⟩
  go_wp2
  go_ret
  exact ⟨rfl, ((Below.refl _ _).alloc (Nat.le_refl _) _).trans (hb1.mono (by simp))⟩
set_option maxHeartbeats 400000 in
theorem tableAt16 (w : World) : Calls Tryz.prog 36 #[.agg #[.int .i64 16], .int .u64 0] w fun e w' => e = .returned (.int .i64 2) ∧ Below w.heap.size w w' := by
  go_enter Tryz.func36, Tryz.ntmps36
  go_wp2_with fail
  refine (tableSize16 _).mono ?_
  rintro e w1 ⟨rfl, hb1⟩
  go_wp2
  go_ret
  exact ⟨rfl, ((Below.refl _ _).alloc (Nat.le_refl _) _).trans (hb1.mono (by simp))⟩
set_option maxHeartbeats 1000000 in
theorem pages16 (w : World) : Calls Tryz.prog 59 #[.agg #[.int .i64 16]] w fun e w' => e = .returned (.int .i64 12) ∧ Below w.heap.size w w' := by
  have hB : Below w.heap.size w (w.alloc (.cells #[.int .i64 16] 57)) := (Below.refl _ _).alloc (Nat.le_refl _) _
  have hc := box57 w
  have hlt : w.heap.size < (w.alloc (.cells #[.int .i64 16] 57)).heap.size := by simp
  go_enter Tryz.func59, Tryz.ntmps59
  go_wp2_with fail
  generalize w.alloc (.cells #[.int .i64 16] 57) = W1 at hB hc hlt ⊢
  go_region_held3 (fun W => W.cell? ⟨w.heap.size, 0, none⟩ = some (.int .i64 16) ∧ Below w.heap.size w W ∧ w.heap.size < W.heap.size)
    ((go_split_ands; refine ⟨?_, ?_, ?_⟩ <;> first | assumption | (simp; assumption) | (refine Below.drew ?_; assumption) | (exact (hb.cell (p := ⟨w.heap.size, _, none⟩) (by assumption)).trans (by assumption)) | (exact Below.trans (by assumption) (hb.mono (Nat.le_of_lt (by assumption)))) | (exact Nat.lt_of_lt_of_le (by assumption) hb.size)))
    ((go_split_ands; go_at_call 41; refine (firstPage16 _).mono ?_; rintro e w' ⟨rfl, hb⟩))
  all_goals
    rename_i hH
    go_wp2
    go_ret
    exact ⟨rfl, hH.2.1⟩
set_option maxHeartbeats 400000 in
theorem mostPages16 (w : World) : Calls Tryz.prog 32 #[.agg #[.int .i64 16]] w fun e w' => e = .returned (.int .i64 10) ∧ Below w.heap.size w w' := by
  go_enter Tryz.func32, Tryz.ntmps32
  go_wp2_with fail
  refine (pages16 _).mono ?_
  rintro e w1 ⟨rfl, hb1⟩
  go_wp2
  go_ret
  exact ⟨rfl, ((Below.refl _ _).alloc (Nat.le_refl _) _).trans (hb1.mono (by simp))⟩
end Go.Proofs.YtcfjkcfmoooccaaGreatDoor
