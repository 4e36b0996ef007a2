import Derived.RangeFuncNested
import Derived.RangeFuncBox
import Derived.RangeFuncLeaves
import Derived.Shelf.Abstract
import Derived.OwnWalkIn
import Derived.TacticsInMore
import Derived.LoopNIn
import Derived.LoopIn
import Derived.Test.YtcfjkcfmoooccaaGreatDoorCat
namespace Go.Proofs.YtcfjkcfmoooccaaGreatDoor
open Go.RowKit Go.Shelf
set_option maxRecDepth 100000
set_option linter.unusedVariables false
attribute [local go_sem] Oper.semAt_some

/-- A RANGE OVER A FUNCTION THAT NEVER CALLS yield: no round. -/
theorem wpIn_rangeFunc_idle {F : Fence} {P : Program} {n : Nat} {g : Operand} {ps : Array Tmp} {assign body : Code} {Q : Exit → Act → World → Prop} {a : Act} {w : World}
    (hro : F.round = none) (h1 : 1 ≤ n) {gf : Nat} {lb : Array Value} (hg : a.eval g = .func (.func gf) #[] lb) (hFg : F.fn gf) (eg : ∀ args w, (callFunc gf args).run P w = .ok (.enter gf args) w) (R : World → Prop)
    (hcall : ∀ rec : Loop, CallsIn F (n - 1) P gf (#[.func (.yield (w.heap.size + 1)) #[] #[]] ++ lb) ((w.alloc (.deferred (some []))).alloc (.loop rec)) fun e W => (∃ v, e = .returned v) ∧ R W ∧ W.heap[w.heap.size + 1]? = ((w.alloc (.deferred (some []))).alloc (.loop rec)).heap[w.heap.size + 1]? ∧ W.heap[w.heap.size]? = ((w.alloc (.deferred (some []))).alloc (.loop rec)).heap[w.heap.size]?)
    (hdone : ∀ (W : World) (o : Obj), R W → W.heap[w.heap.size]? = some (.deferred (some [])) → w.heap.size + 1 < W.heap.size → Q .normal { a with defers := { target := .collected w.heap.size, args := #[] } :: a.defers } (W.putObj (w.heap.size + 1) o)) :
    (Code.rangeFunc g ps assign body).wpIn F n P Q a w := by
  refine wpIn_rangeFunc ?_
  intro fn hfn
  rw [hro]
  obtain ⟨rec, hrec⟩ : ∃ rec : Loop, rec = { state := .ready, pending := none, fn, tmps := a.tmps, params := ps, assign, body, defers := w.heap.size } := ⟨_, rfl⟩
  have hst : rec.state ≠ .busy := by rw [hrec]; simp
  have hpe : rec.pending = none := by rw [hrec]
  obtain ⟨W1, hW1⟩ : ∃ W1, (w.alloc (.deferred (some []))).alloc (.loop rec) = W1 := ⟨_, rfl⟩
  have hL1 : W1.heap[w.heap.size + 1]? = some (.loop rec) := by
    rw [← hW1]; have := World.alloc_heap_new (w.alloc (.deferred (some []))) (.loop rec); rwa [World.size_alloc] at this
  have hK1 : W1.heap[w.heap.size]? = some (.deferred (some [])) := by
    rw [← hW1]; exact (Below.heap_alloc _ _ _ (by simp)).trans (World.alloc_heap_new w _)
  have hc := hcall rec
  rw [hW1] at hc
  refine ⟨w.heap.size + 1, [{ target := .collected w.heap.size, args := #[] }], W1, { target := .fn (.func gf) lb, args := #[.func (.yield (w.heap.size + 1)) #[] #[]] }, W1, gf,
    #[.func (.yield (w.heap.size + 1)) #[] #[]] ++ lb, W1, ?_, ?_, ?_, ?_, fun _ => h1, ?_⟩
  · rw [← hW1, hrec]; exact run_enterLoop_outer _ _ _ _ _
  · simp only [resolve, hg]
    simp [go_sem]
  · intro f' hf'; simp [Target.leads] at hf'; subst hf'; exact hFg
  · simp [invoke, go_sem, eg]
  · refine hc.mono ?_
    rintro e W ⟨⟨v, rfl⟩, hR, hB1, hB0⟩
    have e1 : W.heap[w.heap.size + 1]? = some (.loop rec) := hB1.trans hL1
    have e0 : W.heap[w.heap.size]? = some (.deferred (some [])) := hB0.trans hK1
    have hend := run_endLoop (P := P) e1 hst
    rw [hpe] at hend
    exact ⟨none, _, hend, hdone _ _ hR e0 (Array.getElem?_eq_some_iff.1 e1).1⟩


theorem below_putObj {n : Nat} {w W : World} (h : Below n w W) {l : Nat} (o : Obj) (hl : n ≤ l) : Below n w (W.putObj l o) :=
  ⟨h.os, h.tape, h.output, by have := h.size; simpa [World.putObj] using this, fun k hk => (World.putObj_heap_other (by omega)).trans (h.block k hk)⟩
theorem cell_putObj {W : World} {l b i : Nat} (o : Obj) (_ : Nat) (h : b ≠ l) : (W.putObj l o).cell? ⟨b, i, none⟩ = W.cell? ⟨b, i, none⟩ := by
  simp only [World.cell?, World.putObj_heap_other h]


set_option maxHeartbeats 1000000 in
theorem all1_none (l B : Nat) (w : World) (h : w.cell? ⟨B, 0, none⟩ = some (.slice none 0 0)) :
    Calls Tryz.prog 45 #[.func (.yield l) #[] #[], .pointer (some ⟨B, 0, none⟩)] w fun e w' => e = .returned (.tuple #[]) ∧ w = w' := by
  go_enter Tryz.func45, Tryz.ntmps45
  go_wp2_with fail
  refine wp_loop_rounds 1 ?_
  rw [rounds_succ]
  go_wp2
  refine bodyPost_end (results_none rfl _ _ _) rfl ⟨rfl, rfl⟩
set_option maxHeartbeats 400000 in
theorem all_none (w : World) :
    Calls Tryz.prog 19 #[.slice none 0 0] w fun e w' => e = .returned (.func (.func 45) #[] #[.pointer (some ⟨w.heap.size, 0, none⟩)]) ∧ w' = w.alloc (.cells #[.slice none 0 0] 35) := by
  go_enter Tryz.func19, Tryz.ntmps19
  go_wp2
  go_ret
  exact ⟨rfl, rfl⟩

set_option maxHeartbeats 1000000 in
theorem unused1_none (l B B2 c : Nat) (w : World) (h : w.cell? ⟨B, 0, none⟩ = some (.pointer (some ⟨c, 0, none⟩))) (hC : Cat0 w c) :
    Calls Tryz.prog 51 #[.func (.yield l) #[] #[], .pointer (some ⟨B, 0, none⟩), .pointer (some ⟨B2, 0, none⟩)] w fun e w' => e = .returned (.tuple #[]) ∧ Below w.heap.size w w' := by
  obtain ⟨m, k, h1, h2⟩ := hC.chunks
  have hr := run_range_map (P := Tryz.prog) w 72 _ _ m #[] k Tryz.underlying72 h2
  have hx := fun ty => run_next_empty w ty m k h2
  go_enter Tryz.func51, Tryz.ntmps51
  go_wp2_with fail
  refine wp_loop_rounds 1 ?_
  rw [rounds_succ]
  go_wp2
  refine bodyPost_end (results_none rfl _ _ _) rfl ⟨rfl, (Below.refl _ _).alloc (Nat.le_refl _) _⟩

set_option maxHeartbeats 1000000 in
theorem unused_none (c : Nat) (w : World) (hC : Cat0 w c) :
    Calls Tryz.prog 22 #[.pointer (some ⟨c, 0, none⟩)] w fun e w' => ∃ B B2, e = .returned (.func (.func 51) #[] #[.pointer (some ⟨B, 0, none⟩), .pointer (some ⟨B2, 0, none⟩)]) ∧ Below w.heap.size w w' ∧ w'.cell? ⟨B, 0, none⟩ = some (.pointer (some ⟨c, 0, none⟩)) := by
  have hmm := @run_makeMap Tryz.prog
  have hc := hC.lt
  obtain ⟨m, k, h1, h2⟩ := hC.files
  have hm := lt_of_heap h2
  have h2' : (((w.alloc (.cells #[.pointer (some ⟨c, 0, none⟩)] 38)).alloc (.map #[] 0)).alloc (.cells #[.map (some (w.heap.size + 1))] 153)).heap[m]? = some (.map #[] k) := by
    rw [Below.heap_alloc _ _ _ (by simp; omega), Below.heap_alloc _ _ _ (by simp; omega), Below.heap_alloc _ _ _ hm]; exact h2
  have hr := run_range_map (P := Tryz.prog) (((w.alloc (.cells #[.pointer (some ⟨c, 0, none⟩)] 38)).alloc (.map #[] 0)).alloc (.cells #[.map (some (w.heap.size + 1))] 153)) 70 _ _ m #[] k Tryz.underlying70 h2'
  have hx := fun ty => run_next_empty (((w.alloc (.cells #[.pointer (some ⟨c, 0, none⟩)] 38)).alloc (.map #[] 0)).alloc (.cells #[.map (some (w.heap.size + 1))] 153)) ty m k h2'
  have hcW : (((w.alloc (.cells #[.pointer (some ⟨c, 0, none⟩)] 38)).alloc (.map #[] 0)).alloc (.cells #[.map (some (w.heap.size + 1))] 153)).cell? ⟨c, 0, none⟩ = some (.map (some m)) := by
    rw [World.cell?_alloc_lt _ _ _ (by show c < _; simp; omega), World.cell?_alloc_lt _ _ _ (by show c < _; simp; omega), World.cell?_alloc_lt _ _ _ hc]; exact h1
  simp only [World.size_alloc] at hr hx
  go_enter Tryz.func22, Tryz.ntmps22
  go_wp2_with fail
  refine wp_loop_rounds 1 ?_
  rw [rounds_succ]
  go_wp2
  go_ret
  exact ⟨_, _, rfl, ((((Below.refl _ _).alloc (Nat.le_refl _) _).alloc (by simp) _).alloc (by simp; omega) _).alloc (by simp; omega) _, by go_simp⟩
end Go.Proofs.YtcfjkcfmoooccaaGreatDoor
