import Derived.Test.YtcfjkcfmoooccaaGreatDoorEq
import Derived.Test.YtcfjkcfmoooccaaGreatDoorRead
import Derived.Test.YtcfjkcfmoooccaaGreatDoorLay
import Derived.RegionTactic
namespace Go.Proofs.YtcfjkcfmoooccaaGreatDoor
open Go.RowKit
set_option maxRecDepth 100000
set_option linter.unusedVariables false

def zero128 : List Int := List.replicate 128 0
theorem zero128_length : zero128.length = 128 := List.length_replicate
theorem zeros90' : Tryz.zeroCells113 = (byts zero128).toArray := by kernel_rfl
theorem build90 (w : World) : (Instr.build 113 #[]).run Tryz.prog w = .ok (.agg Tryz.zeroCells113) w := run_build w 113 _ _ (by kernel_rfl)
theorem build60m (w : World) : (Instr.build 60 #[]).run Tryz.prog w = .ok (.agg #[.int .u64 0, .int .i64 0]) w := run_build w 60 _ _ (by kernel_rfl)

set_option maxHeartbeats 1000000 in
theorem markOf_zero (k : Int) (w : World) :
    Calls Tryz.prog 31 #[.int .i64 k, .agg (byts zero128).toArray] w fun e w' => e = .returned (.tuple #[.agg #[.int .u64 0, .int .i64 0], .bool true]) ∧ Below w.heap.size w w' := by
  have hr : (w.alloc (.cells (byts zero128).toArray 113)).rangeAt w.heap.size 0 (byts zero128) := fun j v hv => by
    rw [Nat.zero_add, cell_of_row _ _ _ _ _ _ (heap_alloc_new w (.cells (byts zero128).toArray 113))]
    simpa using hv
  have hbu := build90
  have hbm := build60m
  have heq : ∀ W, (Op.equalIn 10000 113 (.agg (byts zero128).toArray) (.agg Tryz.zeroCells113)).run Tryz.prog W = .ok true W := fun W => by
    rw [zeros90', equal_byts 113 128 Tryz.underlying113 _ _ zero128_length zero128_length]; simp
  have HL : Hid ((byts zero128).length = 128) := by rw [byts_length]; exact zero128_length
  generalize byts zero128 = Z at hr heq HL ⊢
  go_enter Tryz.func31, Tryz.ntmps31
  go_wp2_with (first
    | (refine wpList_load_mid rfl 113 _ rfl w.heap.size 0 (by go_simp) Z _ (World.rangeAt_alloc hr _) Tryz.underlying113 rfl (by rw [HL.out]; exact size90) ?_))
  exact bodyPost_ret (v := .tuple #[.agg #[.int .u64 0, .int .i64 0], .bool true]) (by simp [results, Tryz.results31, go_sem]) rfl ⟨rfl, (((Below.refl _ _).alloc (Nat.le_refl _) _).alloc (by simp) _)⟩

set_option maxHeartbeats 400000 in
/-- The turn behind none. -/
theorem next_zero (w : World) : Calls Tryz.prog 60 #[.agg #[.int .u64 0, .int .i64 0]] w fun e w' => e = .returned (.int .u64 1) ∧ Below w.heap.size w w' := by
  go_enter Tryz.func60, Tryz.ntmps60
  go_wp2
  go_ret
  exact ⟨rfl, (Below.refl _ _).alloc (Nat.le_refl _) _⟩

theorem box60 (w : World) : (w.alloc (.cells #[.int .u64 0, .int .i64 0] 60)).cell? ⟨w.heap.size, 0, none⟩ = some (.int .u64 0) ∧ (w.alloc (.cells #[.int .u64 0, .int .i64 0] 60)).cell? ⟨w.heap.size, 1, none⟩ = some (.int .i64 0) := ⟨by go_simp, by go_simp⟩

theorem twice_self {W : World} {c : Nat} (h0 : W.cell? ⟨c, 0, none⟩ = some (.int .u64 0)) (h1 : W.cell? ⟨c, 1, none⟩ = some (.int .i64 0)) : (W.setCell ⟨c, 0, none⟩ (.int .u64 0)).setCell ⟨c, 1, none⟩ (.int .i64 0) = W := by
  rw [setCell_self h0, setCell_self h1]

/-- Three marks, none each, in the blocks n, n + 1, n + 1 + 1. -/
structure Three (n : Nat) (w W : World) : Prop where
  a0 : W.cell? ⟨n, 0, none⟩ = some (.int .u64 0)
  a1 : W.cell? ⟨n, 1, none⟩ = some (.int .i64 0)
  b0 : W.cell? ⟨n + 1, 0, none⟩ = some (.int .u64 0)
  b1 : W.cell? ⟨n + 1, 1, none⟩ = some (.int .i64 0)
  c0 : W.cell? ⟨n + 1 + 1, 0, none⟩ = some (.int .u64 0)
  c1 : W.cell? ⟨n + 1 + 1, 1, none⟩ = some (.int .i64 0)
  f0 : W.frozen? ⟨n + 1 + 1, 0, none⟩ = false
  f1 : W.frozen? ⟨n + 1 + 1, 1, none⟩ = false
  low : Below n w W
  size : n + 1 + 1 < W.heap.size
theorem Three.below {n : Nat} {w W W' : World} (h : Three n w W) (hb : Below W.heap.size W W') : Three n w W' := by
  obtain ⟨a0, a1, b0, b1, c0, c1, f0, f1, hB, hz⟩ := h
  refine ⟨?_, ?_, ?_, ?_, ?_, ?_, ?_, ?_, hB.trans (hb.mono (by omega)), Nat.lt_of_lt_of_le hz hb.size⟩
  · exact (hb.cell (p := ⟨n, 0, none⟩) (by show n < _; omega)).trans a0
  · exact (hb.cell (p := ⟨n, 1, none⟩) (by show n < _; omega)).trans a1
  · exact (hb.cell (p := ⟨n + 1, 0, none⟩) (by show n + 1 < _; omega)).trans b0
  · exact (hb.cell (p := ⟨n + 1, 1, none⟩) (by show n + 1 < _; omega)).trans b1
  · exact (hb.cell (p := ⟨n + 1 + 1, 0, none⟩) hz).trans c0
  · exact (hb.cell (p := ⟨n + 1 + 1, 1, none⟩) hz).trans c1
  · exact (hb.frozen (p := ⟨n + 1 + 1, 0, none⟩) hz).trans f0
  · exact (hb.frozen (p := ⟨n + 1 + 1, 1, none⟩) hz).trans f1
theorem Three.drew {n : Nat} {w W : World} (h : Three n w W) : Three n w W.drew :=
  ⟨by simpa using h.a0, by simpa using h.a1, by simpa using h.b0, by simpa using h.b1, by simpa using h.c0, by simpa using h.c1, by simpa using h.f0, by simpa using h.f1, h.low.drew, by simpa using h.size⟩
theorem Three.store {n : Nat} {w W : World} (h : Three n w W) : Three n w ((W.setCell ⟨n + 1 + 1, 0, none⟩ (.int .u64 0)).setCell ⟨n + 1 + 1, 1, none⟩ (.int .i64 0)) := by
  rw [twice_self h.c0 h.c1]; exact h

theorem Three.all {n : Nat} {w W : World} (h : Three n w W) : W.cell? ⟨n, 0, none⟩ = some (.int .u64 0) ∧ W.cell? ⟨n, 1, none⟩ = some (.int .i64 0) ∧ W.cell? ⟨n + 1, 0, none⟩ = some (.int .u64 0) ∧ W.cell? ⟨n + 1, 1, none⟩ = some (.int .i64 0) ∧ W.cell? ⟨n + 1 + 1, 0, none⟩ = some (.int .u64 0) ∧ W.cell? ⟨n + 1 + 1, 1, none⟩ = some (.int .i64 0) ∧ W.frozen? ⟨n + 1 + 1, 0, none⟩ = false ∧ W.frozen? ⟨n + 1 + 1, 1, none⟩ = false ∧ Three n w W :=
  ⟨h.a0, h.a1, h.b0, h.b1, h.c0, h.c1, h.f0, h.f1, h⟩

set_option maxHeartbeats 2000000 in
theorem newest_zero (w : World) :
    Calls Tryz.prog 34 #[.agg #[.int .u64 0, .int .i64 0], .agg #[.int .u64 0, .int .i64 0]] w fun e w' => e = .returned (.tuple #[.agg #[.int .u64 0, .int .i64 0], .bool true]) ∧ Below w.heap.size w w' := by
  go_enter Tryz.func34, Tryz.ntmps34
  go_wp2_with fail
  have hT : Three w.heap.size w (((w.alloc (.cells #[.int .u64 0, .int .i64 0] 60)).alloc (.cells #[.int .u64 0, .int .i64 0] 60)).alloc (.cells #[.int .u64 0, .int .i64 0] 60)) := by
    refine ⟨?_, ?_, ?_, ?_, ?_, ?_, ?_, ?_, (((Below.refl _ _).alloc (Nat.le_refl _) _).alloc (by simp) _).alloc (by simp; omega) _, by simp⟩ <;> go_simp
  generalize ((w.alloc (.cells #[.int .u64 0, .int .i64 0] 60)).alloc (.cells #[.int .u64 0, .int .i64 0] 60)).alloc (.cells #[.int .u64 0, .int .i64 0] 60) = W at hT ⊢
  go_region_held3 (fun W => W.cell? ⟨w.heap.size, 0, none⟩ = some (.int .u64 0) ∧ W.cell? ⟨w.heap.size, 1, none⟩ = some (.int .i64 0) ∧ W.cell? ⟨w.heap.size + 1, 0, none⟩ = some (.int .u64 0) ∧ W.cell? ⟨w.heap.size + 1, 1, none⟩ = some (.int .i64 0) ∧ W.cell? ⟨w.heap.size + 1 + 1, 0, none⟩ = some (.int .u64 0) ∧ W.cell? ⟨w.heap.size + 1 + 1, 1, none⟩ = some (.int .i64 0) ∧ W.frozen? ⟨w.heap.size + 1 + 1, 0, none⟩ = false ∧ W.frozen? ⟨w.heap.size + 1 + 1, 1, none⟩ = false ∧ Three w.heap.size w W)
    ((go_split_ands; refine Three.all ?_; first | exact Three.drew (by assumption) | exact Three.below (by assumption) hb))
    ((go_split_ands; go_at_call 60; refine (next_zero _).mono ?_; rintro e w' ⟨rfl, hb⟩))
  all_goals
    rename_i hH
    have hT1 := hH.2.2.2.2.2.2.2.2
    clear hT hH
    go_wp2_with fail
    go_region_held3 (fun W => W.cell? ⟨w.heap.size, 0, none⟩ = some (.int .u64 0) ∧ W.cell? ⟨w.heap.size, 1, none⟩ = some (.int .i64 0) ∧ W.cell? ⟨w.heap.size + 1, 0, none⟩ = some (.int .u64 0) ∧ W.cell? ⟨w.heap.size + 1, 1, none⟩ = some (.int .i64 0) ∧ W.cell? ⟨w.heap.size + 1 + 1, 0, none⟩ = some (.int .u64 0) ∧ W.cell? ⟨w.heap.size + 1 + 1, 1, none⟩ = some (.int .i64 0) ∧ W.frozen? ⟨w.heap.size + 1 + 1, 0, none⟩ = false ∧ W.frozen? ⟨w.heap.size + 1 + 1, 1, none⟩ = false ∧ Three w.heap.size w W)
      ((go_split_ands; refine Three.all ?_; first | exact Three.drew (by assumption) | exact Three.below (by assumption) hb | exact Three.store (by assumption)))
      ((go_split_ands; go_at_call 60; refine (next_zero _).mono ?_; rintro e w' ⟨rfl, hb⟩))
    all_goals
      rename_i hH
      have hT2 := hH.2.2.2.2.2.2.2.2
      have hc0 := hT2.c0
      have hc1 := hT2.c1
      have hl := hT2.low
      clear hT1 hH hT2
      go_wp2_with fail
      exact bodyPost_ret (v := .tuple #[.agg #[.int .u64 0, .int .i64 0], .bool true]) (by simp [results, Tryz.results34, go_sem, hc0, hc1]) rfl ⟨rfl, hl⟩
end Go.Proofs.YtcfjkcfmoooccaaGreatDoor
