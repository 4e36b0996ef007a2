import Derived.Test.YtjmgafdlldglmaaGreatDoorNext
import Derived.Maps.Own
import Derived.Laws.IdiomRangeMap
namespace Go.Proofs.YtjmgafdlldglmaaGreatDoor
open Go.RowKit
set_option maxRecDepth 100000
set_option linter.unusedVariables false

/-- A catalog that has nothing. -/
structure Cat0 (w : World) (c : Nat) : Prop where
  files : ∃ m k, w.cell? ⟨c, 0, none⟩ = some (.map (some m)) ∧ w.heap[m]? = some (.map #[] k)
  known : ∃ m k, w.cell? ⟨c, 3, none⟩ = some (.map (some m)) ∧ w.heap[m]? = some (.map #[] k)

theorem lt_of_heap {w : World} {m : Nat} {o : Obj} (h : w.heap[m]? = some o) : m < w.heap.size := (Array.getElem?_eq_some_iff.1 h).1
theorem Cat0.lt {w : World} {c : Nat} (h : Cat0 w c) : c < w.heap.size := by obtain ⟨m, k, h1, _⟩ := h.files; exact World.block_lt_of_cell? w _ h1
theorem Cat0.below {w w' : World} {c : Nat} (h : Cat0 w c) (hb : Below w.heap.size w w') : Cat0 w' c := by
  have hc := h.lt
  refine ⟨?_, ?_⟩
  · obtain ⟨m, k, h1, h2⟩ := h.files
    exact ⟨m, k, (hb.cell (p := ⟨c, 0, none⟩) hc).trans h1, (hb.block m (lt_of_heap h2)).trans h2⟩
  · obtain ⟨m, k, h1, h2⟩ := h.known
    exact ⟨m, k, (hb.cell (p := ⟨c, 3, none⟩) hc).trans h1, (hb.block m (lt_of_heap h2)).trans h2⟩

theorem run_next_empty (w : World) (ty : TypeId) (bm clock : Nat) (hb : w.heap[bm]? = some (.map #[] clock)) :
    (Instr.next (.pointer (some ⟨w.heap.size, 0, none⟩)) false ty).run Tryz.prog (w.alloc (.mapIter (some bm) clock #[] clock)) = .ok (.tuple #[.bool false]) (w.alloc (.mapIter (some bm) clock #[] clock)) := by
  rcases run_next_map (P := Tryz.prog) w ty bm clock clock #[] #[] clock hb (by simp) (Nat.le_refl _) with h | ⟨e, he, _⟩
  · exact h.2
  · simp [leftOf] at he

set_option maxHeartbeats 1000000 in
theorem cnew_any (w : World) : Calls Tryz.prog 8 #[] w fun e w' => ∃ c, e = .returned (.pointer (some ⟨c, 0, none⟩)) ∧ Below w.heap.size w w' ∧ Cat0 w' c := by
  have hmm := @run_makeMap Tryz.prog
  go_enter Tryz.func8, Tryz.ntmps8
  go_wp2
  go_ret
  refine ⟨_, rfl, ((((Below.refl _ _).alloc (Nat.le_refl _) _).alloc (by simp) _).alloc (by simp; omega) _).alloc (by simp; omega) _, ?_⟩
  have z1 := heap_alloc_new w (.map #[] 0)
  have z3 := heap_alloc_new ((w.alloc (.map #[] 0)).alloc (.map #[] 0)) (.map #[] 0)
  have z4 := heap_alloc_new (((w.alloc (.map #[] 0)).alloc (.map #[] 0)).alloc (.map #[] 0)) (.cells #[.map (some w.heap.size), .map (some (w.heap.size + 1)), .slice none 0 0, .map (some (w.heap.size + 1 + 1)), .int .i64 0] 56)
  simp only [World.size_alloc] at z3 z4
  refine ⟨⟨w.heap.size, 0, ?_, ?_⟩, ⟨w.heap.size + 1 + 1, 0, ?_, ?_⟩⟩
  · rw [cell_of_row _ _ _ _ _ _ z4]; rfl
  · rw [Below.heap_alloc _ _ _ (by simp; omega), Below.heap_alloc _ _ _ (by simp; omega), Below.heap_alloc _ _ _ (by simp)]; exact z1
  · rw [cell_of_row _ _ _ _ _ _ z4]; rfl
  · rw [Below.heap_alloc _ _ _ (by simp)]; exact z3

set_option maxHeartbeats 1000000 in
theorem live_none (c : Nat) (w : World) (hC : Cat0 w c) : Calls Tryz.prog 19 #[.pointer (some ⟨c, 0, none⟩)] w fun e w' => ∃ m, e = .returned (.map (some m)) ∧ Below w.heap.size w w' := by
  have hmm := @run_makeMap Tryz.prog
  have hc := hC.lt
  obtain ⟨m, k, h1, h2⟩ := hC.files
  have hm := lt_of_heap h2
  have h2' : (w.alloc (.map #[] 0)).heap[m]? = some (.map #[] k) := by rw [heap_alloc_old w _ hm]; exact h2
  have hr := run_range_map (P := Tryz.prog) (w.alloc (.map #[] 0)) 51 _ _ m #[] k Tryz.underlying51 h2'
  have hx := fun ty => run_next_empty (w.alloc (.map #[] 0)) ty m k h2'
  simp only [World.size_alloc] at hr hx
  go_enter Tryz.func19, Tryz.ntmps19
  go_wp2_with fail
  refine wp_loop_rounds 1 ?_
  rw [rounds_succ]
  go_wp2
  go_ret
  exact ⟨_, rfl, ((Below.refl _ _).alloc (Nat.le_refl _) _).alloc (by simp) _⟩

set_option maxHeartbeats 1000000 in
theorem forget_none (c : Nat) (w : World) (hC : Cat0 w c) : Calls Tryz.prog 11 #[.pointer (some ⟨c, 0, none⟩)] w fun e w' => e = .returned (.tuple #[]) ∧ Below w.heap.size w w' := by
  have hc := hC.lt
  go_enter Tryz.func11, Tryz.ntmps11
  go_wp2_with fail
  refine (live_none c w hC).mono ?_
  rintro e w1 ⟨b, rfl, hb1⟩
  obtain ⟨m, k, h1, h2⟩ := (hC.below hb1).known
  have hm := lt_of_heap h2
  have hc1 := Nat.lt_of_lt_of_le hc hb1.size
  have hn1 := Nat.ne_of_lt hc1
  have h2' : (w1.alloc (.cells #[.map (some b)] 76)).heap[m]? = some (.map #[] k) := by rw [heap_alloc_old w1 _ hm]; exact h2
  have hr := run_range_map (P := Tryz.prog) (w1.alloc (.cells #[.map (some b)] 76)) 53 _ _ m #[] k Tryz.underlying53 h2'
  have hx := fun ty => run_next_empty (w1.alloc (.cells #[.map (some b)] 76)) ty m k h2'
  simp only [World.size_alloc] at hr hx
  go_wp2_with fail
  refine wp_loop_rounds 1 ?_
  rw [rounds_succ]
  go_wp2
  refine bodyPost_end (results_none rfl _ _ _) rfl ⟨rfl, ?_⟩
  exact (hb1.alloc hb1.size _).alloc (by have := hb1.size; simp; omega) _
end Go.Proofs.YtjmgafdlldglmaaGreatDoor
