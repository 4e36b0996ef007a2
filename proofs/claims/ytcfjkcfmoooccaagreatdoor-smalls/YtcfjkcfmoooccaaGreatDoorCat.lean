import Derived.Test.YtcfjkcfmoooccaaGreatDoorDev
import Derived.Maps.Own
import Derived.Laws.IdiomRangeMap
namespace Go.Proofs.YtcfjkcfmoooccaaGreatDoor
open Go.RowKit
set_option maxRecDepth 100000
set_option linter.unusedVariables false

/-- A map that has nothing, in cell i of block c. -/
def NoMap (w : World) (c i : Nat) : Prop := ∃ m k, w.cell? ⟨c, i, none⟩ = some (.map (some m)) ∧ w.heap[m]? = some (.map #[] k)
theorem lt_of_heap {w : World} {m : Nat} {o : Obj} (h : w.heap[m]? = some o) : m < w.heap.size := (Array.getElem?_eq_some_iff.1 h).1
theorem NoMap.below {w w' : World} {c i : Nat} (h : NoMap w c i) (hc : c < w.heap.size) (hb : Below w.heap.size w w') : NoMap w' c i := by
  obtain ⟨m, k, h1, h2⟩ := h
  exact ⟨m, k, (hb.cell (p := ⟨c, i, none⟩) hc).trans h1, (hb.block m (lt_of_heap h2)).trans h2⟩

/-- A catalog that has nothing: its cells: files 0, tags 1, chunks 2, known 3, ids 4, lowest 5 and 6, prunes 7, bytes 8, tagBytes 9. -/
structure Cat0 (w : World) (c : Nat) : Prop where
  files : NoMap w c 0
  chunks : NoMap w c 2
  known : NoMap w c 3
  bytes : w.cell? ⟨c, 8, none⟩ = some (.int .i64 0)
  free : w.frozen? ⟨c, 3, none⟩ = false
  block : ∀ m k, w.heap[m]? = some (.map #[] k) → m ≠ c

theorem Cat0.lt {w : World} {c : Nat} (h : Cat0 w c) : c < w.heap.size := World.block_lt_of_cell? w _ h.bytes
theorem Cat0.below {w w' : World} {c : Nat} (h : Cat0 w c) (hb : Below w.heap.size w w') : Cat0 w' c := by
  have hc := h.lt
  refine ⟨h.files.below hc hb, h.chunks.below hc hb, h.known.below hc hb, (hb.cell (p := ⟨c, 8, none⟩) hc).trans h.bytes, (hb.frozen (p := ⟨c, 3, none⟩) hc).trans h.free, ?_⟩
  rintro m k hm rfl
  exact h.block m k ((hb.block m hc).symm.trans hm) rfl
theorem NoMap.set {w : World} {c i : Nat} (h : NoMap w c i) (hi : i ≠ 3) (hB : ∀ m k, w.heap[m]? = some (.map #[] k) → m ≠ c) (v : Value) : NoMap (w.setCell ⟨c, 3, none⟩ v) c i := by
  obtain ⟨m, k, h1, h2⟩ := h
  exact ⟨m, k, by rw [World.cell?_setCell_other _ _ _ _ (by simp)]; exact h1, by rw [Below.heap_setCell _ _ _ _ (hB m k h2)]; exact h2⟩
theorem Cat0.set {w : World} {c M k : Nat} (h : Cat0 w c) (hM : w.heap[M]? = some (.map #[] k)) : Cat0 (w.setCell ⟨c, 3, none⟩ (.map (some M))) c := by
  obtain ⟨m3, k3, h3, _⟩ := h.known
  refine ⟨h.files.set (by omega) h.block _, h.chunks.set (by omega) h.block _, ⟨M, k, World.cell?_setCell_same _ _ _ h3, by rw [Below.heap_setCell _ _ _ _ (h.block M k hM)]; exact hM⟩, by rw [World.cell?_setCell_other _ _ _ _ (by simp)]; exact h.bytes, by rw [World.frozen?_setCell]; exact h.free, ?_⟩
  rintro m q hm rfl
  have hz : (w.setCell ⟨m, 3, none⟩ (.map (some M))).cell? ⟨m, 8, none⟩ = some (.int .i64 0) := by rw [World.cell?_setCell_other _ _ _ _ (by simp)]; exact h.bytes
  simp [World.cell?, hm] at hz

theorem run_next_empty (w : World) (ty : TypeId) (bm clock : Nat) (hb : w.heap[bm]? = some (.map #[] clock)) :
    (Instr.next (.pointer (some ⟨w.heap.size, 0, none⟩)) false ty).run Tryz.prog (w.alloc (.mapIter (some bm) clock #[] clock)) = .ok (.tuple #[.bool false]) (w.alloc (.mapIter (some bm) clock #[] clock)) := by
  rcases run_next_map (P := Tryz.prog) w ty bm clock clock #[] #[] clock hb (by simp) (Nat.le_refl _) with h | ⟨e, he, _⟩
  · exact h.2
  · simp [leftOf] at he

theorem build77 (a b c d e : Option Nat) (w : World) : (Instr.build 80 #[(0, .map a), (1, .map b), (2, .map c), (3, .map d), (4, .map e)]).run Tryz.prog w = .ok (.agg #[.map a, .map b, .map c, .map d, .map e, .int .u32 0, .int .u32 0, .slice none 0 0, .int .i64 0, .int .i64 0]) w := run_build w 80 _ _ (by kernel_rfl)

set_option maxHeartbeats 1000000 in
theorem cnew_any (w : World) : Calls Tryz.prog 9 #[] w fun e w' => ∃ c, e = .returned (.pointer (some ⟨c, 0, none⟩)) ∧ Below w.heap.size w w' ∧ Cat0 w' c ∧ w.heap.size ≤ c := by
  have hmm := @run_makeMap Tryz.prog
  have hbu := build77
  go_enter Tryz.func9, Tryz.ntmps9
  go_wp2
  go_ret
  refine ⟨_, rfl, ((((((Below.refl _ _).alloc (Nat.le_refl _) _).alloc (by simp) _).alloc (by simp; omega) _).alloc (by simp; omega) _).alloc (by simp; omega) _).alloc (by simp; omega) _, ?_, by omega⟩
  have z1 := heap_alloc_new w (.map #[] 0)
  have z3 := heap_alloc_new ((w.alloc (.map #[] 0)).alloc (.map #[] 0)) (.map #[] 0)
  have z5 := heap_alloc_new (((w.alloc (.map #[] 0)).alloc (.map #[] 0)).alloc (.map #[] 0)) (.map #[] 0)
  have z4 := heap_alloc_new (((((w.alloc (.map #[] 0)).alloc (.map #[] 0)).alloc (.map #[] 0)).alloc (.map #[] 0)).alloc (.map #[] 0)) (.cells #[.map (some w.heap.size), .map (some (w.heap.size + 1)), .map (some (w.heap.size + 1 + 1)), .map (some (w.heap.size + 1 + 1 + 1)), .map (some (w.heap.size + 1 + 1 + 1 + 1)), .int .u32 0, .int .u32 0, .slice none 0 0, .int .i64 0, .int .i64 0] 80)
  simp only [World.size_alloc] at z3 z4 z5
  refine ⟨⟨w.heap.size, 0, ?_, ?_⟩, ⟨w.heap.size + 1 + 1, 0, ?_, ?_⟩, ⟨w.heap.size + 1 + 1 + 1, 0, ?_, ?_⟩, ?_, frozen_of_row _ _ _ _ _ z4, ?_⟩
  · rw [cell_of_row _ _ _ _ _ _ z4]; rfl
  · rw [Below.heap_alloc _ _ _ (by simp; omega), Below.heap_alloc _ _ _ (by simp; omega), Below.heap_alloc _ _ _ (by simp; omega), Below.heap_alloc _ _ _ (by simp; omega), Below.heap_alloc _ _ _ (by simp)]; exact z1
  · rw [cell_of_row _ _ _ _ _ _ z4]; rfl
  · rw [Below.heap_alloc _ _ _ (by simp), Below.heap_alloc _ _ _ (by simp), Below.heap_alloc _ _ _ (by simp)]; exact z3
  · rw [cell_of_row _ _ _ _ _ _ z4]; rfl
  · rw [Below.heap_alloc _ _ _ (by simp), Below.heap_alloc _ _ _ (by simp)]; exact z5
  · rw [cell_of_row _ _ _ _ _ _ z4]; rfl
  · rintro m k hm rfl
    rw [z4] at hm
    simp at hm

set_option maxHeartbeats 400000 in
theorem bytes_none (c : Nat) (w : World) (hC : Cat0 w c) : Calls Tryz.prog 24 #[.pointer (some ⟨c, 0, none⟩)] w fun e w' => e = .returned (.int .i64 0) ∧ w = w' := by
  have h := hC.bytes
  go_enter Tryz.func24, Tryz.ntmps24
  go_wp2
  go_ret
  exact ⟨rfl, rfl⟩

set_option maxHeartbeats 1000000 in
theorem versions_none (c : Nat) (w : World) (hC : Cat0 w c) : Calls Tryz.prog 25 #[.pointer (some ⟨c, 0, none⟩)] w fun e w' => e = .returned (.int .i64 0) ∧ Below w.heap.size w w' := by
  obtain ⟨m, k, h1, h2⟩ := hC.files
  have hr := run_range_map (P := Tryz.prog) w 70 _ _ m #[] k Tryz.underlying70 h2
  have hx := fun ty => run_next_empty w ty m k h2
  go_enter Tryz.func25, Tryz.ntmps25
  go_wp2_with fail
  refine wp_loop_rounds 1 ?_
  rw [rounds_succ]
  go_wp2
  go_ret
  exact ⟨rfl, (Below.refl _ _).alloc (Nat.le_refl _) _⟩

set_option maxHeartbeats 1000000 in
/-- account.begin, over a catalog that has nothing: the sum stays what it is, 0. -/
theorem begin_none (a c : Nat) (w : World) (hC : Cat0 w c) (h4 : w.cell? ⟨a, 4, none⟩ = some (.int .i64 0)) (hf : w.frozen? ⟨a, 4, none⟩ = false) :
    Calls Tryz.prog 14 #[.pointer (some ⟨a, 3, none⟩), .pointer (some ⟨c, 0, none⟩)] w fun e w' => e = .returned (.tuple #[]) ∧ Below w.heap.size w w' := by
  have ha := World.block_lt_of_cell? w _ h4
  go_enter Tryz.func14, Tryz.ntmps14
  go_wp2_with fail
  refine (bytes_none c _ hC).mono ?_
  rintro e w' ⟨rfl, rfl⟩
  go_wp2_with fail
  refine (versions_none c _ hC).mono ?_
  rintro e w1 ⟨rfl, hb1⟩
  have h4' := (hb1.cell (p := ⟨a, 4, none⟩) ha).trans h4
  have hf' := (hb1.frozen (p := ⟨a, 4, none⟩) ha).trans hf
  have hs := setCell_self h4'
  go_wp2
  refine bodyPost_end (results_none rfl _ _ _) rfl ⟨rfl, ?_⟩
  first | exact hb1 | (rw [hs]; exact hb1)
end Go.Proofs.YtcfjkcfmoooccaaGreatDoor
