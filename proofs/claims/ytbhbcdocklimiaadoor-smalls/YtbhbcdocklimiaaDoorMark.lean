import Derived.Test.YtbhbcdocklimiaaDoorSec
import Derived.Test.YtbhbcdocklimiaaDoorJrn
import Derived.RegionTactic
namespace Go.Proofs.YtbhbcdocklimiaaDoor
open Go.RowKit
set_option maxRecDepth 100000
set_option linter.unusedVariables false

def zero128 : List Int := List.replicate 128 0
theorem zero128_length : zero128.length = 128 := List.length_replicate
theorem zeros90' : Tryd.zeroCells90 = (byts zero128).toArray := by kernel_rfl
theorem build90 (w : World) : (Instr.build 90 #[]).run Tryd.prog w = .ok (.agg Tryd.zeroCells90) w := run_build w 90 _ _ (by kernel_rfl)
theorem build58 (a b : Int) (w : World) : (Instr.build 58 #[(0, .int .u64 a), (1, .int .i64 b)]).run Tryd.prog w = .ok (.agg #[.int .u64 a, .int .i64 b]) w := run_build w 58 _ _ (by kernel_rfl)

set_option maxHeartbeats 1000000 in
theorem markOf_zero (k n : Int) (w : World) :
    Calls Tryd.prog 23 #[.int .i64 k, .agg (byts zero128).toArray, .int .i64 n] w fun e w' => e = .returned (.tuple #[.agg #[.int .u64 0, .int .i64 2], .bool true]) ∧ Below w.heap.size w w' := by
  have hr : (w.alloc (.cells (byts zero128).toArray 90)).rangeAt w.heap.size 0 (byts zero128) := fun j v hv => by
    rw [Nat.zero_add, cell_of_row _ _ _ _ _ _ (heap_alloc_new w (.cells (byts zero128).toArray 90))]
    simpa using hv
  have hbu := build90
  have hbm := build58 0 2
  have heq : ∀ W, (Op.equalIn 10000 90 (.agg (byts zero128).toArray) (.agg Tryd.zeroCells90)).run Tryd.prog W = .ok true W := fun W => by
    rw [zeros90', equal_byts 90 128 Tryd.underlying90 _ _ zero128_length zero128_length]; simp
  have HL : Hid ((byts zero128).length = 128) := by rw [byts_length]; exact zero128_length
  generalize byts zero128 = Z at hr heq HL ⊢
  go_enter Tryd.func23, Tryd.ntmps23
  go_wp2_with (first
    | (refine wpList_load_mid rfl 90 _ rfl w.heap.size 0 (by go_simp) Z _ (World.rangeAt_alloc hr _) Tryd.underlying90 rfl (by rw [HL.out]; exact size90) ?_))
  exact bodyPost_ret (v := .tuple #[.agg #[.int .u64 0, .int .i64 2], .bool true]) (by simp [results, Tryd.results23, go_sem]) rfl ⟨rfl, (((Below.refl _ _).alloc (Nat.le_refl _) _).alloc (by simp) _)⟩

theorem size58 : (Tryd.prog.info? 58).map (·.size) = some 2 := by kernel_rfl

set_option maxHeartbeats 1000000 in
theorem newest_zero (w : World) :
    Calls Tryd.prog 24 #[.agg #[.int .u64 0, .int .i64 2], .agg #[.int .u64 0, .int .i64 2]] w fun e w' => e = .returned (.tuple #[.agg #[.int .u64 0, .int .i64 2], .bool true]) ∧ Below w.heap.size w w' := by
  go_enter Tryd.func24, Tryd.ntmps24
  go_wp2
  have HS : Hid ((((w.alloc (.cells #[.int .u64 0, .int .i64 2] 58)).alloc (.cells #[.int .u64 0, .int .i64 2] 58)).alloc (.cells #[.int .u64 0, .int .i64 0] 58)).cell? ⟨w.heap.size, 0, none⟩ = some (.int .u64 0) ∧ (((w.alloc (.cells #[.int .u64 0, .int .i64 2] 58)).alloc (.cells #[.int .u64 0, .int .i64 2] 58)).alloc (.cells #[.int .u64 0, .int .i64 0] 58)).cell? ⟨w.heap.size, 1, none⟩ = some (.int .i64 2)
      ∧ (((w.alloc (.cells #[.int .u64 0, .int .i64 2] 58)).alloc (.cells #[.int .u64 0, .int .i64 2] 58)).alloc (.cells #[.int .u64 0, .int .i64 0] 58)).cell? ⟨w.heap.size + 1, 0, none⟩ = some (.int .u64 0) ∧ (((w.alloc (.cells #[.int .u64 0, .int .i64 2] 58)).alloc (.cells #[.int .u64 0, .int .i64 2] 58)).alloc (.cells #[.int .u64 0, .int .i64 0] 58)).there (w.heap.size + 2) 0 2
      ∧ Below w.heap.size w (((w.alloc (.cells #[.int .u64 0, .int .i64 2] 58)).alloc (.cells #[.int .u64 0, .int .i64 2] 58)).alloc (.cells #[.int .u64 0, .int .i64 0] 58))) :=
    ⟨by go_simp, by go_simp, by go_simp, by have := there_new ((w.alloc (.cells #[.int .u64 0, .int .i64 2] 58)).alloc (.cells #[.int .u64 0, .int .i64 2] 58)) #[Value.int .u64 0, Value.int .i64 0] 58; simpa using this, ((((Below.refl _ _).alloc (Nat.le_refl _) _).alloc (by simp) _).alloc (by simp; omega) _)⟩
  generalize (((w.alloc (.cells #[.int .u64 0, .int .i64 2] 58)).alloc (.cells #[.int .u64 0, .int .i64 2] 58)).alloc (.cells #[.int .u64 0, .int .i64 0] 58)) = W1 at HS ⊢
  obtain ⟨hc0, hc1, hc2, hT, hB⟩ := HS.out
  have hR3 : ((W1.setCell ⟨w.heap.size + 1 + 1, 0, none⟩ (.int .u64 0)).setCell ⟨w.heap.size + 1 + 1, 1, none⟩ (.int .i64 2)).drew.rangeAt (w.heap.size + 1 + 1) 0 [.int .u64 0, .int .i64 2] := by
    rw [World.rangeAt_drew]
    exact World.rangeAt_setCells_same W1 (w.heap.size + 1 + 1) 0 [.int .u64 0, .int .i64 2] hT
  have HR3 := (show Hid (((W1.setCell ⟨w.heap.size + 1 + 1, 0, none⟩ (.int .u64 0)).setCell ⟨w.heap.size + 1 + 1, 1, none⟩ (.int .i64 2)).drew.rangeAt (w.heap.size + 1 + 1) 0 [.int .u64 0, .int .i64 2]) from hR3)
  clear hR3
  have t0 := hT 0 (by omega)
  have t1 := hT 1 (by omega)
  obtain ⟨x0, hx0⟩ := Option.isSome_iff_exists.1 t0.1
  obtain ⟨x1, hx1⟩ := Option.isSome_iff_exists.1 t1.1
  have hf0 := t0.2
  have hf1 := t1.2
  have hle2 : w.heap.size ≤ w.heap.size + 1 + 1 := by omega
  have hBs : Below w.heap.size w ((W1.setCell ⟨w.heap.size + 1 + 1, 0, none⟩ (.int .u64 0)).setCell ⟨w.heap.size + 1 + 1, 1, none⟩ (.int .i64 2)).drew := ((hB.setCell (p := ⟨w.heap.size + 1 + 1, 0, none⟩) hle2 _).setCell (p := ⟨w.heap.size + 1 + 1, 1, none⟩) hle2 _).drew
  have hcs : ∀ b o v, b ≠ w.heap.size + 1 + 1 → W1.cell? ⟨b, o, none⟩ = some v → ((W1.setCell ⟨w.heap.size + 1 + 1, 0, none⟩ (.int .u64 0)).setCell ⟨w.heap.size + 1 + 1, 1, none⟩ (.int .i64 2)).drew.cell? ⟨b, o, none⟩ = some v := fun b o v hb h => by
    rw [World.cell?_drew, World.cell?_setCell_other _ _ _ _ (fun e => hb (by injection e with e; exact e.symm)), World.cell?_setCell_other _ _ _ _ (fun e => hb (by injection e with e; exact e.symm))]; exact h
  have hk0 := hcs _ _ _ (by omega) hc0
  have hk1 := hcs _ _ _ (by omega) hc1
  have hk2 := hcs _ _ _ (by omega) hc2
  clear t0 t1 hT HS hcs
  go_region_held3 (fun W => W.cell? ⟨w.heap.size, 0, none⟩ = some (.int .u64 0) ∧ W.cell? ⟨w.heap.size, 1, none⟩ = some (.int .i64 2) ∧ W.cell? ⟨w.heap.size + 1, 0, none⟩ = some (.int .u64 0) ∧ Below w.heap.size w W)
    ((go_split_ands; refine ⟨?_, ?_, ?_, ?_⟩ <;> first | assumption | (simp; assumption) | (refine Below.drew ?_; assumption) | (rw [World.cell?_setCell_other _ _ _ _ (by simp; omega), World.cell?_setCell_other _ _ _ _ (by simp; omega)]; assumption) | (exact ((hB.setCell (p := ⟨w.heap.size + 1 + 1, 0, none⟩) hle2 _).setCell (p := ⟨w.heap.size + 1 + 1, 1, none⟩) hle2 _).drew)))
    (fail)
  all_goals
    rename_i hH
    go_wp2
    refine bodyPost_ret (v := .tuple #[.agg #[.int .u64 0, .int .i64 2], .bool true]) (results_cell_tmp_mid (cs := [.int .u64 0, .int .i64 2]) (by rfl) _ _ _ (w.heap.size + 1 + 1) 0 _ _ rfl rfl HR3.out Tryd.underlying58 rfl size58) rfl ⟨rfl, hH.2.2.2⟩
end Go.Proofs.YtbhbcdocklimiaaDoor
