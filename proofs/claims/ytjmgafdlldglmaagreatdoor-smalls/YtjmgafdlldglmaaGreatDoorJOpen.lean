import Derived.RangeFuncNested
import Derived.RangeFuncBox
import Derived.RangeFuncLeaves
import Derived.Shelf.Abstract
import Derived.OwnWalkIn
import Derived.TacticsInMore
import Derived.LoopNIn
import Derived.LoopIn
import Derived.Test.YtjmgafdlldglmaaGreatDoorNext
namespace Go.Proofs.YtjmgafdlldglmaaGreatDoor
open Go.RowKit Go.Shelf
set_option maxRecDepth 100000
set_option linter.unusedVariables false
attribute [local go_sem] Oper.semAt_some

theorem cell_set5 {W : World} {j b o : Nat} {v : Value} (x : Value) (h : W.cell? ⟨b, o, none⟩ = some v) (hb : b ≠ j ∨ o ≠ 5) : (W.setCell ⟨j, 5, none⟩ x).cell? ⟨b, o, none⟩ = some v := by
  rw [World.cell?_setCell_other _ _ _ _ (fun e => by injection e with e1 e2; rcases hb with hb | hb <;> simp_all)]; exact h
theorem Jrn.set5 {W : World} {j d : Nat} (h : Jrn W j d) (x : Value) : Jrn (W.setCell ⟨j, 5, none⟩ x) j d :=
  ⟨cell_set5 x h.dev (.inr (by decide)), cell_set5 x h.fault (.inr (by decide)), by rw [World.frozen?_setCell]; exact h.free⟩
theorem Dev.set5 {W : World} {j d bn n : Nat} (h : Dev W d bn n) (hdj : d ≠ j) (x : Value) : Dev (W.setCell ⟨j, 5, none⟩ x) d bn n :=
  ⟨h.small, cell_set5 x h.wait (.inl hdj), by obtain ⟨sa, c, h⟩ := h.safe; exact ⟨sa, c, cell_set5 x h (.inl hdj)⟩, by obtain ⟨c, h⟩ := h.now; exact ⟨c, cell_set5 x h (.inl hdj)⟩⟩
theorem Blank.set5 {W : World} {j bn n : Nat} (h : Blank W bn n) (hbj : bn ≠ j) (x : Value) : Blank (W.setCell ⟨j, 5, none⟩ x) bn n := fun k hk i v hv => cell_set5 x (h k hk i v hv) (.inl hbj)
theorem Jrn.drew {W : World} {j d : Nat} (h : Jrn W j d) : Jrn W.drew j d := ⟨by simpa using h.dev, by simpa using h.fault, by simpa using h.free⟩
theorem Dev.drew {W : World} {d bn n : Nat} (h : Dev W d bn n) : Dev W.drew d bn n := ⟨h.small, by simpa using h.wait, by simpa using h.safe, by simpa using h.now⟩

set_option maxHeartbeats 2000000 in
theorem changes1_none (l B j d bn n : Nat) (w : World) (t1 x3 : Value) (hBj : w.cell? ⟨B, 0, none⟩ = some (.pointer (some ⟨j, 0, none⟩))) (hne : B ≠ j) (hJ : Jrn w j d) (hD : Dev w d bn n) (hdj : d ≠ j) (hBl : Blank w bn n) (hbj : bn ≠ j) (hn : 4 ≤ n)
    (h1 : w.cell? ⟨j, 1, none⟩ = some t1) (hh : w.cell? ⟨j, 2, none⟩ = some (.int .i64 0)) (h2 : w.cell? ⟨j, 3, none⟩ = some (.int .i64 2)) (h3 : w.cell? ⟨j, 5, none⟩ = some x3) (hf3 : w.frozen? ⟨j, 5, none⟩ = false) :
    Calls Tryz.prog 31 #[.func (.yield l) #[] #[], .pointer (some ⟨B, 0, none⟩)] w fun e w' => e = .returned (.tuple #[]) ∧ Below w.heap.size (w.setCell ⟨j, 5, none⟩ (.int .i64 2)) w' := by
  have hj := hJ.lt
  have hbn := hBl.lt (by omega)
  have g1 := cell_set5 (.int .i64 2) h1 (.inr (by decide) : j ≠ j ∨ 1 ≠ 5)
  have gh := cell_set5 (.int .i64 2) hh (.inr (by decide) : j ≠ j ∨ 2 ≠ 5)
  have g2 := cell_set5 (.int .i64 2) h2 (.inr (by decide) : j ≠ j ∨ 3 ≠ 5)
  have g3 : (w.setCell ⟨j, 5, none⟩ (.int .i64 2)).cell? ⟨j, 5, none⟩ = some (.int .i64 2) := World.cell?_setCell_same _ _ _ h3
  have gB := cell_set5 (.int .i64 2) hBj (.inl hne)
  have hsz : (w.setCell ⟨j, 5, none⟩ (.int .i64 2)).heap.size = w.heap.size := by simp [World.setCell]
  have HN : Hid (∀ W, Below w.heap.size (w.setCell ⟨j, 5, none⟩ (.int .i64 2)) W → Calls Tryz.prog 33 #[.pointer (some ⟨j, 0, none⟩), .slice none 0 0, .int .u64 1] W fun e w' => e = .returned (.tuple #[.slice none 0 0, .int .u64 0, .nilIface]) ∧ Below W.heap.size W w') := fun W hW =>
    next_none j d bn n W t1 ((hJ.set5 _).below hW hj) ((hD.set5 hdj _).below hW hD.lt) ((hBl.set5 hbj _).below hW hbn) hn ((hW.cell (p := ⟨j, 1, none⟩) hj).trans g1) ((hW.cell (p := ⟨j, 2, none⟩) hj).trans gh) ((hW.cell (p := ⟨j, 3, none⟩) hj).trans g2) ((hW.cell (p := ⟨j, 5, none⟩) hj).trans g3)
  have HJ : Hid (Jrn w j d) := hJ
  have HD : Hid (Dev w d bn n) := hD
  clear g1 g2 gh hBl hD hJ
  go_enter Tryz.func31, Tryz.ntmps31
  go_wp2_with fail
  go_region_held3 (fun W => W.cell? ⟨B, 0, none⟩ = some (.pointer (some ⟨j, 0, none⟩)) ∧ W.cell? ⟨j, 2, none⟩ = some (.int .i64 0) ∧ Jrn W j d ∧ Dev W d bn n)
    ((go_split_ands; refine ⟨?_, ?_, ?_, ?_⟩ <;> first | assumption | (simp; assumption) | (exact HJ.out.drew) | (exact HD.out.drew) | (exact HJ.out.drew.set5 _) | (exact HD.out.drew.set5 hdj _) | (exact (cell_set5 _ (by assumption) (.inl hne))) | (exact cell_set5 _ (by assumption) (.inr (by decide)))))
    ((go_split_ands; go_at_call 32; refine (begin_zero j d bn n _ (by assumption) (by assumption) (by omega)).mono ?_; rintro e w' ⟨rfl, rfl⟩))
  have h00 : Below w.heap.size (w.setCell ⟨j, 5, none⟩ (.int .i64 2)) (w.setCell ⟨j, 5, none⟩ (.int .i64 2)).drew := (Below.refl _ _).drew
  have gB' : (w.setCell ⟨j, 5, none⟩ (.int .i64 2)).drew.cell? ⟨B, 0, none⟩ = some (.pointer (some ⟨j, 0, none⟩)) := by rw [World.cell?_drew]; exact gB
  have hsz' : (w.setCell ⟨j, 5, none⟩ (.int .i64 2)).drew.heap.size = w.heap.size := by simp [World.setCell]
  generalize hW0 : (w.setCell ⟨j, 5, none⟩ (.int .i64 2)).drew = W0 at *
  clear hW0
  go_wp2_with fail
  refine wp_loop_rounds 1 ?_
  rw [rounds_succ]
  go_wp2_with fail
  go_region_held3 (fun W => Below w.heap.size (w.setCell ⟨j, 5, none⟩ (.int .i64 2)) W ∧ W.cell? ⟨B, 0, none⟩ = some (.pointer (some ⟨j, 0, none⟩)))
    ((go_split_ands; refine ⟨?_, ?_⟩ <;> first | assumption | (simp; assumption) | (refine Below.drew ?_; assumption) | (exact Below.trans (Below.drew (by assumption)) (hb.mono (Nat.le_of_eq (by simpa using hsz'.symm)))) | (exact Below.trans (by assumption) (hb.mono (Nat.le_of_eq (by simpa using hsz'.symm)))) | (exact (hb.cell (p := ⟨B, 0, none⟩) (World.block_lt_of_cell? _ _ (by assumption))).trans (by assumption))))
    ((go_split_ands; go_at_call 33; refine (HN.out _ (by assumption)).mono ?_; rintro e w' ⟨rfl, hb⟩))
  all_goals
    rename_i hH
    go_wp2
    refine bodyPost_ret (results_none rfl _ _ _) rfl ⟨rfl, hH.1⟩

/-- A RANGE OVER A FUNCTION THAT NEVER CALLS yield: no round. -/
theorem wpIn_rangeFunc_idle {F : Fence} {P : Program} {n : Nat} {g : Operand} {ps : Array Tmp} {assign body : Code} {Q : Exit → Act → World → Prop} {a : Act} {w : World}
    (hro : F.round = none) (h1 : 1 ≤ n) {gf : Nat} {lb : Array Value} (hg : a.eval g = .func (.func gf) #[] lb) (hFg : F.fn gf) (eg : ∀ args w, (callFunc gf args).run P w = .ok (.enter gf args) w) (R : World → Prop)
    (hcall : ∀ rec : Loop, CallsIn F (n - 1) P gf (#[.func (.yield (w.heap.size + 1)) #[] #[]] ++ lb) ((w.alloc (.deferred (some []))).alloc (.loop rec)) fun e W => (∃ v, e = .returned v) ∧ R W ∧ W.heap[w.heap.size + 1]? = ((w.alloc (.deferred (some []))).alloc (.loop rec)).heap[w.heap.size + 1]? ∧ W.heap[w.heap.size]? = ((w.alloc (.deferred (some []))).alloc (.loop rec)).heap[w.heap.size]?)
    (hdone : ∀ (W : World) (o : Obj), R W → W.heap[w.heap.size]? = some (.deferred (some [])) → w.heap.size + 1 < W.heap.size → Q .normal { a with defers := { target := .collected w.heap.size, args := #[] } :: a.defers } (W.putObj (w.heap.size + 1) o)) :
    (Code.rangeFunc g ps assign body).wpIn F n P Q a w := by
  refine wpIn_rangeFunc ?_
  intro fn hfn
  rw [hro]
  obtain ⟨rec, hrec⟩ : ∃ rec : Loop, rec = { state := .ready, pending := none, fn, tmps := a.tmps, params := ps, assign, body, defers := w.heap.size } := ⟨_, rfl⟩
  have hst : rec.state ≠ .busy := by rw [hrec]; simp
  have hpe : rec.pending = none := by rw [hrec]
  obtain ⟨W1, hW1⟩ : ∃ W1, (w.alloc (.deferred (some []))).alloc (.loop rec) = W1 := ⟨_, rfl⟩
  have hL1 : W1.heap[w.heap.size + 1]? = some (.loop rec) := by
    rw [← hW1]; have := World.alloc_heap_new (w.alloc (.deferred (some []))) (.loop rec); rwa [World.size_alloc] at this
  have hK1 : W1.heap[w.heap.size]? = some (.deferred (some [])) := by
    rw [← hW1]; exact (Below.heap_alloc _ _ _ (by simp)).trans (World.alloc_heap_new w _)
  have hc := hcall rec
  rw [hW1] at hc
  refine ⟨w.heap.size + 1, [{ target := .collected w.heap.size, args := #[] }], W1, { target := .fn (.func gf) lb, args := #[.func (.yield (w.heap.size + 1)) #[] #[]] }, W1, gf,
    #[.func (.yield (w.heap.size + 1)) #[] #[]] ++ lb, W1, ?_, ?_, ?_, ?_, fun _ => h1, ?_⟩
  · rw [← hW1, hrec]; exact run_enterLoop_outer _ _ _ _ _
  · simp only [resolve, hg]
    simp [go_sem]
  · intro f' hf'; simp [Target.leads] at hf'; subst hf'; exact hFg
  · simp [invoke, go_sem, eg]
  · refine hc.mono ?_
    rintro e W ⟨⟨v, rfl⟩, hR, hB1, hB0⟩
    have e1 : W.heap[w.heap.size + 1]? = some (.loop rec) := hB1.trans hL1
    have e0 : W.heap[w.heap.size]? = some (.deferred (some [])) := hB0.trans hK1
    have hend := run_endLoop (P := P) e1 hst
    rw [hpe] at hend
    exact ⟨none, _, hend, hdone _ _ hR e0 (Array.getElem?_eq_some_iff.1 e1).1⟩

set_option maxHeartbeats 400000 in
theorem changes_any (j : Nat) (w : World) :
    Calls Tryz.prog 15 #[.pointer (some ⟨j, 0, none⟩)] w fun e w' => e = .returned (.func (.func 31) #[] #[.pointer (some ⟨w.heap.size, 0, none⟩)]) ∧ w.alloc (.cells #[.pointer (some ⟨j, 0, none⟩)] 36) = w' := by
  go_enter Tryz.func15, Tryz.ntmps15
  go_wp2
  go_ret
  exact ⟨rfl, rfl⟩

theorem below_putObj {n : Nat} {w W : World} (h : Below n w W) {l : Nat} (o : Obj) (hl : n ≤ l) : Below n w (W.putObj l o) :=
  ⟨h.os, h.tape, h.output, by have := h.size; simpa [World.putObj] using this, fun k hk => (World.putObj_heap_other (by omega)).trans (h.block k hk)⟩
theorem cell_putObj {W : World} {l b i : Nat} (o : Obj) (_ : Nat) (h : b ≠ l) : (W.putObj l o).cell? ⟨b, i, none⟩ = W.cell? ⟨b, i, none⟩ := by
  simp only [World.cell?, World.putObj_heap_other h]

theorem build60 (d : Nat) (w : World) : (Instr.build 61 #[(0, .pointer (some ⟨d, 0, none⟩))]).run Tryz.prog w = .ok (.agg #[.pointer (some ⟨d, 0, none⟩), .int .u64 0, .int .i64 0, .int .i64 0, .int .i64 0, .int .i64 0, .bool false, .nilIface]) w := run_build w 61 _ _ (by kernel_rfl)

set_option maxHeartbeats 2000000 in
theorem jopen_in (d bn n g : Nat) (lb : Array Value) (w : World) (hD : Dev w d bn n) (hBl : Blank w bn n) (hn : 4 ≤ n) :
    CallsIn Fence.wide 3 Tryz.prog 9 #[.pointer (some ⟨d, 0, none⟩), .func (.func g) lb #[]] w fun e w' => ∃ j, e = .returned (.tuple #[.pointer (some ⟨j, 0, none⟩), .nilIface]) ∧ Below w.heap.size w w' := by
  have hd := hD.lt
  have hbn := hBl.lt (by omega)
  have hbu := build60 d
  refine callsIn_of_wp_marks Tryz.func9 rfl trivial ?_ rfl
  simp only [Tryz.ntmps9, List.size_toArray, List.length_cons, List.length_nil, Nat.reduceAdd, Nat.reduceSub, Array.replicate_succ, Array.replicate_zero, List.push_toArray, List.append_toArray, List.nil_append, List.cons_append]
  gi_wp2_with fail
  obtain ⟨W3, hW3⟩ : ∃ W3, ((((w.alloc (.cells #[.func (.func g) lb #[]] 39)).alloc (.cells #[.pointer none] 36)).alloc (.cells #[.nilIface] 25)).alloc (.cells #[.pointer (some ⟨d, 0, none⟩), .int .u64 0, .int .i64 0, .int .i64 0, .int .i64 0, .int .i64 0, .bool false, .nilIface] 61)) = W3 := ⟨_, rfl⟩
  have hB3 : Below w.heap.size w W3 := by rw [← hW3]; exact ((((Below.refl _ _).alloc (Nat.le_refl _) _).alloc (by simp) _).alloc (by simp; omega) _).alloc (by simp; omega) _
  have hz3 : W3.heap.size = w.heap.size + 1 + 1 + 1 + 1 := by rw [← hW3]; simp
  have hh : W3.heap[w.heap.size + 1 + 1 + 1]? = some (.cells #[.pointer (some ⟨d, 0, none⟩), .int .u64 0, .int .i64 0, .int .i64 0, .int .i64 0, .int .i64 0, .bool false, .nilIface] 61 (0, 0)) := by
    rw [← hW3]
    have := heap_alloc_new (((w.alloc (.cells #[.func (.func g) lb #[]] 39)).alloc (.cells #[.pointer none] 36)).alloc (.cells #[.nilIface] 25)) (.cells #[.pointer (some ⟨d, 0, none⟩), .int .u64 0, .int .i64 0, .int .i64 0, .int .i64 0, .int .i64 0, .bool false, .nilIface] 61)
    simpa using this
  have hh1 : W3.heap[w.heap.size + 1]? = some (.cells #[.pointer none] 36 (0, 0)) := by
    rw [← hW3, Below.heap_alloc _ _ _ (by simp), Below.heap_alloc _ _ _ (by simp)]
    have := heap_alloc_new (w.alloc (.cells #[.func (.func g) lb #[]] 39)) (.cells #[.pointer none] 36)
    simpa using this
  have hh2 : W3.heap[w.heap.size + 1 + 1]? = some (.cells #[.nilIface] 25 (0, 0)) := by
    rw [← hW3, Below.heap_alloc _ _ _ (by simp)]
    have := heap_alloc_new ((w.alloc (.cells #[.func (.func g) lb #[]] 39)).alloc (.cells #[.pointer none] 36)) (.cells #[.nilIface] 25)
    simpa using this
  rw [hW3]
  clear hW3
  obtain ⟨j, hj⟩ : ∃ j, w.heap.size + 1 + 1 + 1 = j := ⟨_, rfl⟩
  rw [hj] at hh hz3 ⊢
  have HJ : Hid (w.heap.size + 1 + 1 + 1 = j) := hj
  have hcj : ∀ i v, (#[.pointer (some ⟨d, 0, none⟩), .int .u64 0, .int .i64 0, .int .i64 0, .int .i64 0, .int .i64 0, .bool false, .nilIface] : Array Value)[i]? = some v → W3.cell? ⟨j, i, none⟩ = some v := fun i v h => by rw [cell_of_row _ _ _ _ _ _ hh]; exact h
  have hJ3 : Jrn W3 j d := ⟨hcj 0 _ rfl, hcj 7 _ rfl, frozen_of_row _ _ _ _ _ hh⟩
  have hD3 := hD.below hB3 hd
  have hBl3 := hBl.below hB3 hbn
  have hTj : W3.there j 1 3 := fun i hi => by
    refine ⟨?_, frozen_of_row _ _ _ _ _ hh⟩
    rcases i with _ | _ | _ | i
    · rw [hcj 1 _ rfl]; rfl
    · rw [hcj 2 _ rfl]; rfl
    · rw [hcj 3 _ rfl]; rfl
    · omega
  have hF := find_round j d bn n W3 hJ3 hD3 hBl3 (by omega) hTj
  refine ⟨trivial, ?_⟩
  refine (callsIn_wide.2 hF).mono ?_
  rintro e w1 ⟨rfl, W1, hb1, rfl⟩
  have hjl : w.heap.size ≤ j := by omega
  have hj1 : j < W1.heap.size := by have := hb1.size; omega
  obtain ⟨w1, hw1⟩ : ∃ w1, W1.setCells j 1 [.int .u64 0, .int .i64 0, .int .i64 2] = w1 := ⟨_, rfl⟩
  rw [hw1]
  have hj3 : j < W3.heap.size := by omega
  have hTj1 : W1.there j 1 3 := there_below hb1 hj3 hTj
  have hRj : w1.rangeAt j 1 [.int .u64 0, .int .i64 0, .int .i64 2] := by rw [← hw1]; exact World.rangeAt_setCells_same _ _ _ _ hTj1
  have oth : ∀ b o, (b ≠ j ∨ o = 0 ∨ 4 ≤ o) → b < W3.heap.size → w1.cell? ⟨b, o, none⟩ = W3.cell? ⟨b, o, none⟩ := fun b o hb hlt => by
    rw [← hw1]
    simp only [World.setCells]
    rw [World.cell?_setCell_other _ _ _ _ (fun e => by injection e; omega), World.cell?_setCell_other _ _ _ _ (fun e => by injection e; omega), World.cell?_setCell_other _ _ _ _ (fun e => by injection e; omega), hb1.cell (p := ⟨b, o, none⟩) hlt]
  have frz : ∀ b o, b < W3.heap.size → w1.frozen? ⟨b, o, none⟩ = W3.frozen? ⟨b, o, none⟩ := fun b o hlt => by
    rw [← hw1]
    simp only [World.setCells]
    rw [World.frozen?_setCell, World.frozen?_setCell, World.frozen?_setCell, hb1.frozen (p := ⟨b, o, none⟩) hlt]
  have hBw1 : Below w.heap.size w w1 := by rw [← hw1]; exact below_setCells hjl _ _ _ (hB3.trans (hb1.mono (by omega)))
  have hz1 : W3.heap.size ≤ w1.heap.size := by rw [← hw1, size_setCells]; exact hb1.size
  have hJ1 : Jrn w1 j d := ⟨(oth j 0 (.inr (.inl rfl)) hj3).trans hJ3.dev, (oth j 7 (.inr (.inr (by decide))) hj3).trans hJ3.fault, (frz j 7 hj3).trans hJ3.free⟩
  have c1 : w1.cell? ⟨j, 1, none⟩ = some (.int .u64 0) := hRj 0 _ rfl
  have ch : w1.cell? ⟨j, 2, none⟩ = some (.int .i64 0) := hRj 1 _ rfl
  have c2 : w1.cell? ⟨j, 3, none⟩ = some (.int .i64 2) := hRj 2 _ rfl
  have c6 : w1.cell? ⟨j, 4, none⟩ = some (.int .i64 0) := (oth j 4 (.inr (.inr (by decide))) hj3).trans (hcj 4 _ rfl)
  have f6 : w1.frozen? ⟨j, 4, none⟩ = false := (frz j 4 hj3).trans (frozen_of_row _ _ _ _ _ hh)
  have c3 : w1.cell? ⟨j, 5, none⟩ = some (.int .i64 0) := (oth j 5 (.inr (.inr (by decide))) hj3).trans (hcj 5 _ rfl)
  have f3 : w1.frozen? ⟨j, 5, none⟩ = false := (frz j 5 hj3).trans (frozen_of_row _ _ _ _ _ hh)
  have c4 : w1.cell? ⟨w.heap.size + 1, 0, none⟩ = some (.pointer none) := (oth _ _ (.inl (by omega)) (by omega)).trans (by rw [cell_of_row _ _ _ _ _ _ hh1]; rfl)
  have f4 : w1.frozen? ⟨w.heap.size + 1, 0, none⟩ = false := (frz _ _ (by omega)).trans (frozen_of_row _ _ _ _ _ hh1)
  have c5 : w1.cell? ⟨w.heap.size + 1 + 1, 0, none⟩ = some .nilIface := (oth _ _ (.inl (by omega)) (by omega)).trans (by rw [cell_of_row _ _ _ _ _ _ hh2]; rfl)
  have f5 : w1.frozen? ⟨w.heap.size + 1 + 1, 0, none⟩ = false := (frz _ _ (by omega)).trans (frozen_of_row _ _ _ _ _ hh2)
  clear hw1 oth frz hcj hh hh1 hh2 hF hTj hTj1 hRj
  gi_wp2_with (refine ⟨trivial, ?_⟩; gi_at_call 15; refine (callsIn_wide.2 (changes_any j _)).mono ?_; rintro e w' ⟨rfl, rfl⟩)
  obtain ⟨W2, hW2⟩ : ∃ W2, w1.alloc (.cells #[.pointer (some ⟨j, 0, none⟩)] 36) = W2 := ⟨_, rfl⟩
  have hz2 : W2.heap.size = w1.heap.size + 1 := by rw [← hW2]; simp
  have hB2 : Below w1.heap.size w1 W2 := by rw [← hW2]; exact (Below.refl _ _).alloc (Nat.le_refl _) _
  have cB : W2.cell? ⟨w1.heap.size, 0, none⟩ = some (.pointer (some ⟨j, 0, none⟩)) := by rw [← hW2, cell_of_row _ _ _ _ _ _ (heap_alloc_new w1 _)]; rfl
  rw [hW2]
  clear hW2
  refine wpIn_rangeFunc_idle rfl (by omega) (gf := 31) (lb := #[.pointer (some ⟨w1.heap.size, 0, none⟩)]) rfl trivial (enters_of Tryz.func31 (by kernel_rfl) rfl)
    (fun W => Below w.heap.size w W ∧ W.cell? ⟨w.heap.size + 1, 0, none⟩ = some (.pointer none) ∧ W.frozen? ⟨w.heap.size + 1, 0, none⟩ = false ∧ W.cell? ⟨w.heap.size + 1 + 1, 0, none⟩ = some .nilIface ∧ W.frozen? ⟨w.heap.size + 1 + 1, 0, none⟩ = false ∧ W.cell? ⟨j, 5, none⟩ = some (.int .i64 2) ∧ W.cell? ⟨j, 4, none⟩ = some (.int .i64 0) ∧ W.frozen? ⟨j, 4, none⟩ = false) ?call ?done
  case call =>
    intro rec
    obtain ⟨X, hX⟩ : ∃ X, (W2.alloc (.deferred (some []))).alloc (.loop rec) = X := ⟨_, rfl⟩
    have hXz : X.heap.size = w1.heap.size + 1 + 1 + 1 := by rw [← hX]; simp [hz2]
    have hX2 : Below W2.heap.size W2 X := by rw [← hX]; exact ((Below.refl _ _).alloc (Nat.le_refl _) _).alloc (by simp) _
    have hX1 : Below w1.heap.size w1 X := hB2.trans (hX2.mono (by omega))
    have hjw : j < w1.heap.size := by omega
    rw [hX]
    refine (callsIn_wide.2 (changes1_none (W2.heap.size + 1) w1.heap.size j d bn n X _ _ ((hX2.cell (p := ⟨w1.heap.size, 0, none⟩) (by simp [hz2])).trans cB) (by omega) (hJ1.below hX1 hjw) ((hD.below hBw1 hd).below hX1 (by omega)) (by omega) ((hBl.below hBw1 hbn).below hX1 (by omega)) (by omega) hn
      ((hX1.cell (p := ⟨j, 1, none⟩) hjw).trans c1) ((hX1.cell (p := ⟨j, 2, none⟩) hjw).trans ch) ((hX1.cell (p := ⟨j, 3, none⟩) hjw).trans c2) ((hX1.cell (p := ⟨j, 5, none⟩) hjw).trans c3) ((hX1.frozen (p := ⟨j, 5, none⟩) hjw).trans f3))).mono ?_
    rintro e W ⟨rfl, hb⟩
    have hcell : ∀ b o, b ≠ j → b < w1.heap.size → W.cell? ⟨b, o, none⟩ = w1.cell? ⟨b, o, none⟩ := fun b o hb' hlt => by
      rw [hb.cell (p := ⟨b, o, none⟩) (by show b < _; omega), World.cell?_setCell_other _ _ _ _ (fun e => by injection e with e1; exact hb' e1.symm), hX1.cell (p := ⟨b, o, none⟩) hlt]
    have hfrz : ∀ b o, b < w1.heap.size → W.frozen? ⟨b, o, none⟩ = w1.frozen? ⟨b, o, none⟩ := fun b o hlt => by
      rw [hb.frozen (p := ⟨b, o, none⟩) (by show b < _; omega), World.frozen?_setCell, hX1.frozen (p := ⟨b, o, none⟩) hlt]
    have hjX : j < X.heap.size := by omega
    have hc5 : W.cell? ⟨j, 5, none⟩ = some (.int .i64 2) := by
      rw [hb.cell (p := ⟨j, 5, none⟩) hjX, World.cell?_setCell_same _ _ _ ((hX1.cell (p := ⟨j, 5, none⟩) hjw).trans c3)]
    have hc4 : W.cell? ⟨j, 4, none⟩ = some (.int .i64 0) := by
      rw [hb.cell (p := ⟨j, 4, none⟩) hjX, World.cell?_setCell_other _ _ _ _ (by simp), hX1.cell (p := ⟨j, 4, none⟩) hjw]; exact c6
    refine ⟨⟨_, rfl⟩, ⟨((hBw1.trans (hX1.mono (by omega))).setCell (p := ⟨j, 5, none⟩) hjl _).trans (hb.mono (by omega)), (hcell _ _ (by omega) (by omega)).trans c4, (hfrz _ _ (by omega)).trans f4, (hcell _ _ (by omega) (by omega)).trans c5, (hfrz _ _ (by omega)).trans f5, hc5, hc4, (hfrz _ _ (by omega)).trans f6⟩, ?_, ?_⟩
    · rw [hb.block _ (by omega), Below.heap_setCell _ _ _ _ (by show _ ≠ j; omega)]
    · rw [hb.block _ (by omega), Below.heap_setCell _ _ _ _ (by show _ ≠ j; omega)]
  case done =>
    rintro W o ⟨hBW, d4, e4, d5, e5, q5, q4, r4⟩ hK hlt
    obtain ⟨Y, hY⟩ : ∃ Y, W.putObj (W2.heap.size + 1) o = Y := ⟨_, rfl⟩
    have hhp : ∀ k, k ≠ W2.heap.size + 1 → Y.heap[k]? = W.heap[k]? := fun k hk => by rw [← hY]; exact World.putObj_heap_other hk
    have y4 : Y.cell? ⟨w.heap.size + 1, 0, none⟩ = some (.pointer none) := by simp only [World.cell?, hhp (w.heap.size + 1) (by omega)]; exact d4
    have y5 : Y.cell? ⟨w.heap.size + 1 + 1, 0, none⟩ = some .nilIface := by simp only [World.cell?, hhp (w.heap.size + 1 + 1) (by omega)]; exact d5
    have z4 : Y.frozen? ⟨w.heap.size + 1, 0, none⟩ = false := by simp only [World.frozen?, hhp (w.heap.size + 1) (by omega)]; exact e4
    have z5 : Y.frozen? ⟨w.heap.size + 1 + 1, 0, none⟩ = false := by simp only [World.frozen?, hhp (w.heap.size + 1 + 1) (by omega)]; exact e5
    have hKY : Y.heap[W2.heap.size]? = some (.deferred (some [])) := (hhp _ (by omega)).trans hK
    have y6 : Y.cell? ⟨j, 5, none⟩ = some (.int .i64 2) := by simp only [World.cell?, hhp j (by omega)]; exact q5
    have y7 : Y.cell? ⟨j, 4, none⟩ = some (.int .i64 0) := by simp only [World.cell?, hhp j (by omega)]; exact q4
    have z7 : Y.frozen? ⟨j, 4, none⟩ = false := by simp only [World.frozen?, hhp j (by omega)]; exact r4
    have hBY0 : Below w.heap.size w Y := by rw [← hY]; exact below_putObj hBW _ (by omega)
    have nj1 : j ≠ w.heap.size + 1 := by omega
    have nj2 : j ≠ w.heap.size + 1 + 1 := by omega
    have nj3 : j ≠ W2.heap.size := by omega
    rw [hY]
    gi_wp2
    have hBY : Below w.heap.size w (Y.setCell ⟨j, 4, none⟩ (.int .i64 2)) := hBY0.setCell (p := ⟨j, 4, none⟩) hjl _
    have y4' : (Y.setCell ⟨j, 4, none⟩ (.int .i64 2)).cell? ⟨w.heap.size + 1, 0, none⟩ = some (.pointer none) := by rw [World.cell?_setCell_other _ _ _ _ (fun e => by injection e; omega)]; exact y4
    have y5' : (Y.setCell ⟨j, 4, none⟩ (.int .i64 2)).cell? ⟨w.heap.size + 1 + 1, 0, none⟩ = some .nilIface := by rw [World.cell?_setCell_other _ _ _ _ (fun e => by injection e; omega)]; exact y5
    have hKY' : (Y.setCell ⟨j, 4, none⟩ (.int .i64 2)).heap[W2.heap.size]? = some (.deferred (some [])) := by rw [Below.heap_setCell _ _ _ _ (by show _ ≠ j; omega)]; exact hKY
    clear y4 y5 y6 y7 z4 z5 z7 hKY hY hhp hBY0
    generalize Y.setCell ⟨j, 4, none⟩ (.int .i64 2) = Y' at hBY y4' y5' hKY' ⊢
    have hKZ : ((Y'.setCell ⟨w.heap.size + 1, 0, none⟩ (.pointer (some ⟨j, 0, none⟩))).setCell ⟨w.heap.size + 1 + 1, 0, none⟩ .nilIface).heap[W2.heap.size]? = some (.deferred (some [])) := by
      rw [Below.heap_setCell _ _ _ _ (by show _ ≠ w.heap.size + 1 + 1; omega), Below.heap_setCell _ _ _ _ (by show _ ≠ w.heap.size + 1; omega)]; exact hKY'
    refine ⟨by simp, .inl ⟨_, _, rfl, run_takeDeferred hKZ, ?_⟩⟩
    have hBZ : Below w.heap.size w (((Y'.setCell ⟨w.heap.size + 1, 0, none⟩ (.pointer (some ⟨j, 0, none⟩))).setCell ⟨w.heap.size + 1 + 1, 0, none⟩ .nilIface).putObj W2.heap.size (.deferred none)) :=
      below_putObj ((hBY.setCell (p := ⟨w.heap.size + 1, 0, none⟩) (Nat.le_succ _) _).setCell (p := ⟨w.heap.size + 1 + 1, 0, none⟩) (by show _ ≤ w.heap.size + 1 + 1; omega) _) _ (by omega)
    have v4 : (((Y'.setCell ⟨w.heap.size + 1, 0, none⟩ (.pointer (some ⟨j, 0, none⟩))).setCell ⟨w.heap.size + 1 + 1, 0, none⟩ .nilIface).putObj W2.heap.size (.deferred none)).cell? ⟨w.heap.size + 1, 0, none⟩ = some (.pointer (some ⟨j, 0, none⟩)) := by
      rw [cell_putObj _ 0 (by show _ ≠ _; omega), World.cell?_setCell_other _ _ _ _ (by simp), World.cell?_setCell_same _ _ _ y4']
    have v5 : (((Y'.setCell ⟨w.heap.size + 1, 0, none⟩ (.pointer (some ⟨j, 0, none⟩))).setCell ⟨w.heap.size + 1 + 1, 0, none⟩ .nilIface).putObj W2.heap.size (.deferred none)).cell? ⟨w.heap.size + 1 + 1, 0, none⟩ = some .nilIface := by
      have hy : (Y'.setCell ⟨w.heap.size + 1, 0, none⟩ (.pointer (some ⟨j, 0, none⟩))).cell? ⟨w.heap.size + 1 + 1, 0, none⟩ = some .nilIface := by rw [World.cell?_setCell_other _ _ _ _ (by simp)]; exact y5'
      rw [cell_putObj _ 0 (by show _ ≠ _; omega), World.cell?_setCell_same _ _ _ hy]
    generalize (((Y'.setCell ⟨w.heap.size + 1, 0, none⟩ (.pointer (some ⟨j, 0, none⟩))).setCell ⟨w.heap.size + 1 + 1, 0, none⟩ .nilIface).putObj W2.heap.size (.deferred none)) = Z at hBZ v4 v5 ⊢
    refine ⟨.tuple #[.pointer (some ⟨j, 0, none⟩), .nilIface], ?_, j, rfl, hBZ⟩
    have a36 := Tryz.isAgg36
    have a25 := Tryz.isAgg25
    simp [results, Tryz.results9, go_sem, v4, v5, loadVar, a36, a25]

/-- **journal.Open**, over a device that is empty. -/
theorem jopen_any (d bn n g : Nat) (lb : Array Value) (w : World) (hD : Dev w d bn n) (hBl : Blank w bn n) (hn : 4 ≤ n) :
    Calls Tryz.prog 9 #[.pointer (some ⟨d, 0, none⟩), .func (.func g) lb #[]] w fun e w' => ∃ j, e = .returned (.tuple #[.pointer (some ⟨j, 0, none⟩), .nilIface]) ∧ Below w.heap.size w w' :=
  (callsIn_wide (n := 3)).1 (jopen_in d bn n g lb w hD hBl hn)
end Go.Proofs.YtjmgafdlldglmaaGreatDoor
