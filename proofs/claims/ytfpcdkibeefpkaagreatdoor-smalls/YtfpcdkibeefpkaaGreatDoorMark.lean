import Derived.Test.YtfpcdkibeefpkaaGreatDoorEq
import Derived.Test.YtfpcdkibeefpkaaGreatDoorRead
import Derived.Test.YtfpcdkibeefpkaaGreatDoorLay
import Derived.RegionTactic
namespace Go.Proofs.YtfpcdkibeefpkaaGreatDoor
open Go.RowKit
set_option maxRecDepth 100000
set_option linter.unusedVariables false

def zero128 : List Int := List.replicate 128 0
theorem zero128_length : zero128.length = 128 := List.length_replicate
theorem zeros90' : Tryz.zeroCells107 = (byts zero128).toArray := by kernel_rfl
theorem build90 (w : World) : (Instr.build 107 #[]).run Tryz.prog w = .ok (.agg Tryz.zeroCells107) w := run_build w 107 _ _ (by kernel_rfl)
theorem build60m (w : World) : (Instr.build 60 #[]).run Tryz.prog w = .ok (.agg #[.int .u64 0, .int .i64 0]) w := run_build w 60 _ _ (by kernel_rfl)

set_option maxHeartbeats 1000000 in
theorem markOf_zero (k : Int) (w : World) :
    Calls Tryz.prog 31 #[.int .i64 k, .agg (byts zero128).toArray] w fun e w' => e = .returned (.tuple #[.agg #[.int .u64 0, .int .i64 0], .bool true]) ∧ Below w.heap.size w w' := by
  have hr : (w.alloc (.cells (byts zero128).toArray 107)).rangeAt w.heap.size 0 (byts zero128) := fun j v hv => by
    rw [Nat.zero_add, cell_of_row _ _ _ _ _ _ (heap_alloc_new w (.cells (byts zero128).toArray 107))]
    simpa using hv
  have hbu := build90
  have hbm := build60m
  have heq : ∀ W, (Op.equalIn 10000 107 (.agg (byts zero128).toArray) (.agg Tryz.zeroCells107)).run Tryz.prog W = .ok true W := fun W => by
    rw [zeros90', equal_byts 107 128 Tryz.underlying107 _ _ zero128_length zero128_length]; simp
  have HL : Hid ((byts zero128).length = 128) := by rw [byts_length]; exact zero128_length
  generalize byts zero128 = Z at hr heq HL ⊢
  go_enter Tryz.func31, Tryz.ntmps31
  go_wp2_with (first
    | (refine wpList_load_mid rfl 107 _ rfl w.heap.size 0 (by go_simp) Z _ (World.rangeAt_alloc hr _) Tryz.underlying107 rfl (by rw [HL.out]; exact size90) ?_))
  exact bodyPost_ret (v := .tuple #[.agg #[.int .u64 0, .int .i64 0], .bool true]) (by simp [results, Tryz.results31, go_sem]) rfl ⟨rfl, (((Below.refl _ _).alloc (Nat.le_refl _) _).alloc (by simp) _)⟩

set_option maxHeartbeats 1000000 in
theorem newest_zero (w : World) :
    Calls Tryz.prog 34 #[.agg #[.int .u64 0, .int .i64 0], .agg #[.int .u64 0, .int .i64 0]] w fun e w' => e = .returned (.tuple #[.agg #[.int .u64 0, .int .i64 0], .bool true]) ∧ Below w.heap.size w w' := by
  go_enter Tryz.func34, Tryz.ntmps34
  go_wp2
  go_region
  all_goals
    go_wp2
    exact bodyPost_ret (v := .tuple #[.agg #[.int .u64 0, .int .i64 0], .bool true]) (by simp [results, Tryz.results34, go_sem]) rfl ⟨rfl, (((((Below.refl _ _).alloc (Nat.le_refl _) _).alloc (by simp) _).alloc (by simp; omega) _).drew)⟩
end Go.Proofs.YtfpcdkibeefpkaaGreatDoor
