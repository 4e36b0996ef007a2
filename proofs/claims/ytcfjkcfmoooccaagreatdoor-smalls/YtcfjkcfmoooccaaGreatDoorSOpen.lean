import Derived.Test.YtcfjkcfmoooccaaGreatDoorPages
namespace Go.Proofs.YtcfjkcfmoooccaaGreatDoor
open Go.RowKit
set_option maxRecDepth 100000
set_option linter.unusedVariables false

theorem build57 (n : Int) (w : World) : (Instr.build 57 #[(0, .int .i64 n)]).run Tryz.prog w = .ok (.agg #[.int .i64 n]) w := run_build w 57 _ _ (by kernel_rfl)
theorem build64 (d : Nat) (n : Int) (w : World) : (Instr.build 64 #[(0, .pointer (some ⟨d, 0, none⟩)), (1, .agg #[.int .i64 n])]).run Tryz.prog w = .ok (.agg #[.pointer (some ⟨d, 0, none⟩), .int .i64 n, .int .u64 0, .int .i64 0, .slice none 0 0, .slice none 0 0, .nilIface]) w := run_build w 64 _ _ (by kernel_rfl)

set_option maxHeartbeats 1000000 in
/-- **store.Open**, over a device of 16 sectors that is empty. -/
theorem sopen_none (d bn : Nat) (w : World) (hD : Dev w d bn 16) (hBl : Blank w bn 16) :
    Calls Tryz.prog 8 #[.pointer (some ⟨d, 0, none⟩)] w fun e w' => ∃ j, e = .returned (.tuple #[.pointer (some ⟨j, 0, none⟩), .slice none 0 0, .nilIface]) ∧ Below w.heap.size w w' := by
  obtain ⟨sa, c, hs⟩ := hD.safe
  have hd := hD.lt
  have hbn := hBl.lt (by omega)
  have hb5 := build57
  have hb6 := build64
  have hB0 : Below w.heap.size w (w.alloc (.cells #[.pointer (some ⟨d, 0, none⟩), .int .i64 16, .int .u64 0, .int .i64 0, .slice none 0 0, .slice none 0 0, .nilIface] 64)) := (Below.refl _ _).alloc (Nat.le_refl _) _
  have hh := heap_alloc_new w (.cells #[.pointer (some ⟨d, 0, none⟩), .int .i64 16, .int .u64 0, .int .i64 0, .slice none 0 0, .slice none 0 0, .nilIface] 64)
  have hJ : Sto (w.alloc (.cells #[.pointer (some ⟨d, 0, none⟩), .int .i64 16, .int .u64 0, .int .i64 0, .slice none 0 0, .slice none 0 0, .nilIface] 64)) w.heap.size d := by
    refine ⟨?_, ?_, ?_, ?_, ?_, fun i => frozen_of_row _ _ _ _ _ hh⟩ <;> rw [cell_of_row _ _ _ _ _ _ hh] <;> rfl
  have hc5 : (w.alloc (.cells #[.pointer (some ⟨d, 0, none⟩), .int .i64 16, .int .u64 0, .int .i64 0, .slice none 0 0, .slice none 0 0, .nilIface] 64)).cell? ⟨w.heap.size, 5, none⟩ = some (.slice none 0 0) := by rw [cell_of_row _ _ _ _ _ _ hh]; rfl
  clear hh
  go_enter Tryz.func8, Tryz.ntmps8
  go_wp2_with (go_at_call 7; refine (sectors_any d _ sa 16 c hs).mono ?_; rintro e w' ⟨rfl, rfl⟩)
  have hz : w.heap.size < (w.alloc (.cells #[.pointer (some ⟨d, 0, none⟩), .int .i64 16, .int .u64 0, .int .i64 0, .slice none 0 0, .slice none 0 0, .nilIface] 64)).heap.size := by simp
  generalize w.alloc (.cells #[.pointer (some ⟨d, 0, none⟩), .int .i64 16, .int .u64 0, .int .i64 0, .slice none 0 0, .slice none 0 0, .nilIface] 64) = W0 at hB0 hJ hc5 hz ⊢
  refine (findMark_none w.heap.size d bn _ hJ (hD.below hB0 hd) (hBl.below hB0 hbn)).mono ?_
  rintro e w1 ⟨rfl, hb1⟩
  have hJ1 := hJ.below hb1 hz
  go_wp2_with fail
  refine (readTable_none w.heap.size d _ hJ1).mono ?_
  rintro e w2 ⟨rfl, hb2⟩
  have hz1 : w.heap.size < w1.heap.size := hJ1.lt
  have hJ2 := hJ1.below hb2 hz1
  have hc2 : w2.cell? ⟨w.heap.size, 5, none⟩ = some (.slice none 0 0) := (hb2.cell (p := ⟨w.heap.size, 5, none⟩) hz1).trans ((hb1.cell (p := ⟨w.heap.size, 5, none⟩) hz).trans hc5)
  go_wp2_with fail
  refine (readPages_none w.heap.size w.heap.size d _ hJ2 (Nat.le_refl _) hc2).mono ?_
  rintro e w3 ⟨rfl, hb3⟩
  go_wp2
  go_ret3
  exact ⟨_, rfl, ((hB0.trans (hb1.mono (Nat.le_of_lt hz))).trans (hb2.mono (Nat.le_of_lt hz1))).trans hb3⟩
end Go.Proofs.YtcfjkcfmoooccaaGreatDoor
