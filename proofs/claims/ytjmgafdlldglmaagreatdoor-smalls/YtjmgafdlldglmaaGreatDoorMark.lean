import Derived.Test.YtjmgafdlldglmaaGreatDoorSec
import Derived.Test.YtjmgafdlldglmaaGreatDoorJrn
import Derived.RegionTactic
namespace Go.Proofs.YtjmgafdlldglmaaGreatDoor
open Go.RowKit
set_option maxRecDepth 100000
set_option linter.unusedVariables false

def zero128 : List Int := List.replicate 128 0
theorem zero128_length : zero128.length = 128 := List.length_replicate
theorem zeros90' : Tryz.zeroCells101 = (byts zero128).toArray := by kernel_rfl
theorem build90 (w : World) : (Instr.build 101 #[]).run Tryz.prog w = .ok (.agg Tryz.zeroCells101) w := run_build w 101 _ _ (by kernel_rfl)
theorem build59m (a : Int) (w : World) : (Instr.build 59 #[(2, .int .i64 a)]).run Tryz.prog w = .ok (.agg #[.int .u64 0, .int .i64 0, .int .i64 a]) w := run_build w 59 _ _ (by kernel_rfl)

set_option maxHeartbeats 1000000 in
theorem markOf_zero (k : Int) (w : World) :
    Calls Tryz.prog 27 #[.int .i64 k, .agg (byts zero128).toArray] w fun e w' => e = .returned (.tuple #[.agg #[.int .u64 0, .int .i64 0, .int .i64 2], .bool true]) ∧ Below w.heap.size w w' := by
  have hr : (w.alloc (.cells (byts zero128).toArray 101)).rangeAt w.heap.size 0 (byts zero128) := fun j v hv => by
    rw [Nat.zero_add, cell_of_row _ _ _ _ _ _ (heap_alloc_new w (.cells (byts zero128).toArray 101))]
    simpa using hv
  have hbu := build90
  have hbm := build59m 2
  have heq : ∀ W, (Op.equalIn 10000 101 (.agg (byts zero128).toArray) (.agg Tryz.zeroCells101)).run Tryz.prog W = .ok true W := fun W => by
    rw [zeros90', equal_byts 101 128 Tryz.underlying101 _ _ zero128_length zero128_length]; simp
  have HL : Hid ((byts zero128).length = 128) := by rw [byts_length]; exact zero128_length
  generalize byts zero128 = Z at hr heq HL ⊢
  go_enter Tryz.func27, Tryz.ntmps27
  go_wp2_with (first
    | (refine wpList_load_mid rfl 101 _ rfl w.heap.size 0 (by go_simp) Z _ (World.rangeAt_alloc hr _) Tryz.underlying101 rfl (by rw [HL.out]; exact size90) ?_))
  exact bodyPost_ret (v := .tuple #[.agg #[.int .u64 0, .int .i64 0, .int .i64 2], .bool true]) (by simp [results, Tryz.results27, go_sem]) rfl ⟨rfl, (((Below.refl _ _).alloc (Nat.le_refl _) _).alloc (by simp) _)⟩

theorem size58 : (Tryz.prog.info? 59).map (·.size) = some 3 := by kernel_rfl

set_option maxHeartbeats 1000000 in
theorem newest_zero (w : World) :
    Calls Tryz.prog 29 #[.agg #[.int .u64 0, .int .i64 0, .int .i64 2], .agg #[.int .u64 0, .int .i64 0, .int .i64 2]] w fun e w' => e = .returned (.tuple #[.agg #[.int .u64 0, .int .i64 0, .int .i64 2], .bool true]) ∧ Below w.heap.size w w' := by
  go_enter Tryz.func29, Tryz.ntmps29
  go_wp2
  have HS : Hid ((((w.alloc (.cells #[.int .u64 0, .int .i64 0, .int .i64 2] 59)).alloc (.cells #[.int .u64 0, .int .i64 0, .int .i64 2] 59)).alloc (.cells #[.int .u64 0, .int .i64 0, .int .i64 0] 59)).cell? ⟨w.heap.size, 0, none⟩ = some (.int .u64 0) ∧ (((w.alloc (.cells #[.int .u64 0, .int .i64 0, .int .i64 2] 59)).alloc (.cells #[.int .u64 0, .int .i64 0, .int .i64 2] 59)).alloc (.cells #[.int .u64 0, .int .i64 0, .int .i64 0] 59)).cell? ⟨w.heap.size, 1, none⟩ = some (.int .i64 0) ∧ (((w.alloc (.cells #[.int .u64 0, .int .i64 0, .int .i64 2] 59)).alloc (.cells #[.int .u64 0, .int .i64 0, .int .i64 2] 59)).alloc (.cells #[.int .u64 0, .int .i64 0, .int .i64 0] 59)).cell? ⟨w.heap.size, 2, none⟩ = some (.int .i64 2)
      ∧ (((w.alloc (.cells #[.int .u64 0, .int .i64 0, .int .i64 2] 59)).alloc (.cells #[.int .u64 0, .int .i64 0, .int .i64 2] 59)).alloc (.cells #[.int .u64 0, .int .i64 0, .int .i64 0] 59)).cell? ⟨w.heap.size + 1, 0, none⟩ = some (.int .u64 0) ∧ (((w.alloc (.cells #[.int .u64 0, .int .i64 0, .int .i64 2] 59)).alloc (.cells #[.int .u64 0, .int .i64 0, .int .i64 2] 59)).alloc (.cells #[.int .u64 0, .int .i64 0, .int .i64 0] 59)).there (w.heap.size + 2) 0 3
      ∧ Below w.heap.size w (((w.alloc (.cells #[.int .u64 0, .int .i64 0, .int .i64 2] 59)).alloc (.cells #[.int .u64 0, .int .i64 0, .int .i64 2] 59)).alloc (.cells #[.int .u64 0, .int .i64 0, .int .i64 0] 59))) :=
    ⟨by go_simp, by go_simp, by go_simp, by go_simp, by have := there_new ((w.alloc (.cells #[.int .u64 0, .int .i64 0, .int .i64 2] 59)).alloc (.cells #[.int .u64 0, .int .i64 0, .int .i64 2] 59)) #[Value.int .u64 0, Value.int .i64 0, Value.int .i64 0] 59; simpa using this, ((((Below.refl _ _).alloc (Nat.le_refl _) _).alloc (by simp) _).alloc (by simp; omega) _)⟩
  generalize (((w.alloc (.cells #[.int .u64 0, .int .i64 0, .int .i64 2] 59)).alloc (.cells #[.int .u64 0, .int .i64 0, .int .i64 2] 59)).alloc (.cells #[.int .u64 0, .int .i64 0, .int .i64 0] 59)) = W1 at HS ⊢
  obtain ⟨hc0, hc1, hc3, hc2, hT, hB⟩ := HS.out
  have hR3 : (((W1.setCell ⟨w.heap.size + 1 + 1, 0, none⟩ (.int .u64 0)).setCell ⟨w.heap.size + 1 + 1, 1, none⟩ (.int .i64 0)).setCell ⟨w.heap.size + 1 + 1, 2, none⟩ (.int .i64 2)).drew.rangeAt (w.heap.size + 1 + 1) 0 [.int .u64 0, .int .i64 0, .int .i64 2] := by
    rw [World.rangeAt_drew]
    exact World.rangeAt_setCells_same W1 (w.heap.size + 1 + 1) 0 [.int .u64 0, .int .i64 0, .int .i64 2] hT
  have HR3 := (show Hid ((((W1.setCell ⟨w.heap.size + 1 + 1, 0, none⟩ (.int .u64 0)).setCell ⟨w.heap.size + 1 + 1, 1, none⟩ (.int .i64 0)).setCell ⟨w.heap.size + 1 + 1, 2, none⟩ (.int .i64 2)).drew.rangeAt (w.heap.size + 1 + 1) 0 [.int .u64 0, .int .i64 0, .int .i64 2]) from hR3)
  clear hR3
  have t0 := hT 0 (by omega)
  have t1 := hT 1 (by omega)
  have t2 := hT 2 (by omega)
  obtain ⟨x0, hx0⟩ := Option.isSome_iff_exists.1 t0.1
  obtain ⟨x1, hx1⟩ := Option.isSome_iff_exists.1 t1.1
  obtain ⟨x2, hx2⟩ := Option.isSome_iff_exists.1 t2.1
  have hf0 := t0.2
  have hf1 := t1.2
  have hf2 := t2.2
  have hle2 : w.heap.size ≤ w.heap.size + 1 + 1 := by omega
  have hBs : Below w.heap.size w (((W1.setCell ⟨w.heap.size + 1 + 1, 0, none⟩ (.int .u64 0)).setCell ⟨w.heap.size + 1 + 1, 1, none⟩ (.int .i64 0)).setCell ⟨w.heap.size + 1 + 1, 2, none⟩ (.int .i64 2)).drew := (((hB.setCell (p := ⟨w.heap.size + 1 + 1, 0, none⟩) hle2 _).setCell (p := ⟨w.heap.size + 1 + 1, 1, none⟩) hle2 _).setCell (p := ⟨w.heap.size + 1 + 1, 2, none⟩) hle2 _).drew
  have hcs : ∀ b o v, b ≠ w.heap.size + 1 + 1 → W1.cell? ⟨b, o, none⟩ = some v → (((W1.setCell ⟨w.heap.size + 1 + 1, 0, none⟩ (.int .u64 0)).setCell ⟨w.heap.size + 1 + 1, 1, none⟩ (.int .i64 0)).setCell ⟨w.heap.size + 1 + 1, 2, none⟩ (.int .i64 2)).drew.cell? ⟨b, o, none⟩ = some v := fun b o v hb h => by
    rw [World.cell?_drew, World.cell?_setCell_other _ _ _ _ (fun e => hb (by injection e with e; exact e.symm)), World.cell?_setCell_other _ _ _ _ (fun e => hb (by injection e with e; exact e.symm)), World.cell?_setCell_other _ _ _ _ (fun e => hb (by injection e with e; exact e.symm))]; exact h
  have hk0 := hcs _ _ _ (by omega) hc0
  have hk1 := hcs _ _ _ (by omega) hc1
  have hk3 := hcs _ _ _ (by omega) hc3
  have hk2 := hcs _ _ _ (by omega) hc2
  clear t0 t1 t2 hT HS hcs
  go_region_held3 (fun W => W.cell? ⟨w.heap.size, 0, none⟩ = some (.int .u64 0) ∧ W.cell? ⟨w.heap.size, 1, none⟩ = some (.int .i64 0) ∧ W.cell? ⟨w.heap.size, 2, none⟩ = some (.int .i64 2) ∧ W.cell? ⟨w.heap.size + 1, 0, none⟩ = some (.int .u64 0) ∧ Below w.heap.size w W)
    ((go_split_ands; refine ⟨?_, ?_, ?_, ?_, ?_⟩ <;> first | assumption | (simp; assumption) | (refine Below.drew ?_; assumption)))
    (fail)
  all_goals
    rename_i hH
    go_wp2
    refine bodyPost_ret (v := .tuple #[.agg #[.int .u64 0, .int .i64 0, .int .i64 2], .bool true]) (results_cell_tmp_mid (cs := [.int .u64 0, .int .i64 0, .int .i64 2]) (by rfl) _ _ _ (w.heap.size + 1 + 1) 0 _ _ rfl rfl HR3.out Tryz.underlying59 rfl size58) rfl ⟨rfl, hH.2.2.2.2⟩
end Go.Proofs.YtjmgafdlldglmaaGreatDoor
