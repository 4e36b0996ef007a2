import Derived.Test.YtcfjkcfmoooccaaGreatDoorFind
import Derived.Test.YtcfjkcfmoooccaaGreatDoorSort
import Derived.Maps.Own
import Derived.Laws.IdiomRangeMap
namespace Go.Proofs.YtcfjkcfmoooccaaGreatDoor
open Go.RowKit
set_option maxRecDepth 100000
set_option linter.unusedVariables false

set_option maxHeartbeats 2000000 in
/-- readTable of a store without pages. -/
theorem readTable_none (j d : Nat) (w : World) (hJ : Sto w j d) :
    Calls Tryz.prog 17 #[.pointer (some ⟨j, 0, none⟩)] w fun e w' => e = .returned (.tuple #[.slice none 0 0, .nilIface]) ∧ Below w.heap.size w w' := by
  have hmm := @run_makeMap Tryz.prog
  have hj := hJ.lt
  have hB0 : Below w.heap.size w (w.alloc (.map #[] 0)) := (Below.refl _ _).alloc (Nat.le_refl _) _
  have hJ0 := hJ.below hB0 hj
  have h1 := hJ0.lay
  have h2 := hJ0.turn
  have h3 := hJ0.count
  go_enter Tryz.func17, Tryz.ntmps17
  go_wp2_with fail
  generalize w.alloc (.map #[] 0) = W1 at hB0 hJ0 h1 h2 h3 ⊢
  go_region_held3 (fun W => W.cell? ⟨j, 1, none⟩ = some (.int .i64 16) ∧ W.cell? ⟨j, 2, none⟩ = some (.int .u64 0) ∧ W.cell? ⟨j, 3, none⟩ = some (.int .i64 0) ∧ Below w.heap.size w W)
    ((go_split_ands; refine ⟨?_, ?_, ?_, ?_⟩ <;> first | assumption | (simp; assumption) | (refine Below.drew ?_; assumption) | (exact (hb.cell (p := ⟨j, _, none⟩) (Nat.lt_of_lt_of_le hj (Below.size (by assumption)))).trans (by assumption)) | (exact Below.trans (by assumption) (hb.mono (Below.size (by assumption))))))
    ((go_split_ands; go_at_call 36; refine (tableAt16 _).mono ?_; rintro e w' ⟨rfl, hb⟩))
  all_goals
    rename_i hH
    obtain ⟨_, _, h3', hBe⟩ := hH
    go_wp2_with fail
    refine wp_loop_rounds 1 ?_
    rw [rounds_succ]
    go_wp2
    go_ret2
    exact ⟨rfl, hBe⟩
end Go.Proofs.YtcfjkcfmoooccaaGreatDoor
