import Derived.Test.YtcfjkcfmoooccaaGreatDoorIdle
namespace Go.Proofs.YtcfjkcfmoooccaaGreatDoor
open Go.RowKit Go.Shelf
set_option maxRecDepth 100000
set_option linter.unusedVariables false
attribute [local go_sem] Oper.semAt_some

theorem Cat0.of {w w' : World} {c : Nat} (h : Cat0 w c) (hc : w'.heap[c]? = w.heap[c]?) (hm : ∀ (m k : Nat), w.heap[m]? = some (Obj.map #[] k) → w'.heap[m]? = w.heap[m]?) : Cat0 w' c := by
  have hN : ∀ i, NoMap w c i → NoMap w' c i := fun i h => by
    obtain ⟨m, k, h1, h2⟩ := h
    exact ⟨m, k, (World.cell?_of_block (a := ⟨c, i, none⟩) hc).trans h1, (hm m k h2).trans h2⟩
  refine ⟨hN _ h.files, hN _ h.chunks, hN _ h.known, (World.cell?_of_block (a := ⟨c, 8, none⟩) hc).trans h.bytes, (World.frozen?_of_block (a := ⟨c, 3, none⟩) hc).trans h.free, ?_⟩
  rintro m k hx rfl
  exact h.block m k (hc.symm.trans hx) rfl
theorem Cat0.put {w : World} {c l : Nat} {x o : Obj} (h : Cat0 w c) (hl : l ≠ c) (hx : w.heap[l]? = some x) (hn : ∀ k, x ≠ Obj.map #[] k) : Cat0 (w.putObj l o) c :=
  h.of (World.putObj_heap_other (Ne.symm hl)) fun m k hm => World.putObj_heap_other fun e => hn k (by subst e; rw [hx] at hm; exact Option.some.inj hm)

set_option maxHeartbeats 1000000 in
/-- **sift**, of a catalog that has nothing: the map of those that are known is a new one, that has nothing too. -/
theorem sift_none (n c : Nat) (w : World) (hC : Cat0 w c) (hn : n ≤ c) :
    Calls Tryz.prog 23 #[.pointer (some ⟨c, 0, none⟩)] w fun e w' => e = .returned (.tuple #[]) ∧ Below n w w' ∧ Cat0 w' c ∧ ∀ b, b < w.heap.size → b ≠ c → w'.heap[b]? = w.heap[b]? := by
  have hmm := @run_makeMap Tryz.prog
  have hc := hC.lt
  obtain ⟨m, k, h1, h2⟩ := hC.known
  have hf := hC.free
  have hm := lt_of_heap h2
  have hB : Below w.heap.size w ((w.alloc (.cells #[.pointer (some ⟨c, 0, none⟩)] 38)).alloc (.map #[] 0)) := ((Below.refl _ _).alloc (Nat.le_refl _) _).alloc (by simp) _
  have hM := heap_alloc_new (w.alloc (.cells #[.pointer (some ⟨c, 0, none⟩)] 38)) (.map #[] 0)
  have h2' : ((w.alloc (.cells #[.pointer (some ⟨c, 0, none⟩)] 38)).alloc (.map #[] 0)).heap[m]? = some (.map #[] k) := (hB.block m hm).trans h2
  have hr := run_range_map (P := Tryz.prog) ((w.alloc (.cells #[.pointer (some ⟨c, 0, none⟩)] 38)).alloc (.map #[] 0)) 73 _ _ m #[] k Tryz.underlying73 h2'
  have hx := fun ty => run_next_empty ((w.alloc (.cells #[.pointer (some ⟨c, 0, none⟩)] 38)).alloc (.map #[] 0)) ty m k h2'
  have hz : ((w.alloc (.cells #[.pointer (some ⟨c, 0, none⟩)] 38)).alloc (.map #[] 0)).heap.size = w.heap.size + 1 + 1 := by simp
  have hB2 := hB.alloc (by omega) (.mapIter (some m) k #[] k)
  have hf2 := (hB2.frozen (p := ⟨c, 3, none⟩) hc).trans hf
  have hc2 := (hB2.cell (p := ⟨c, 3, none⟩) hc).trans h1
  simp only [World.size_alloc] at hM hr hx
  go_enter Tryz.func23, Tryz.ntmps23
  go_wp2_with fail
  refine wp_loop_rounds 1 ?_
  rw [rounds_succ]
  go_wp2
  have hM2 : (((w.alloc (.cells #[.pointer (some ⟨c, 0, none⟩)] 38)).alloc (.map #[] 0)).alloc (.mapIter (some m) k #[] k)).heap[w.heap.size + 1]? = some (.map #[] 0) := by rw [Below.heap_alloc _ _ _ (by omega)]; exact hM
  refine bodyPost_end (results_none rfl _ _ _) rfl ⟨rfl, (hB2.mono (by omega)).setCell (p := ⟨c, 3, none⟩) hn _, (hC.below hB2).set hM2, fun b hb hbc => by rw [Below.heap_setCell _ _ _ _ hbc]; exact hB2.block b hb⟩

set_option maxHeartbeats 2000000 in
theorem forget_in (n c : Nat) (w : World) (hC : Cat0 w c) (hn : n ≤ c) :
    CallsIn Fence.wide 3 Tryz.prog 11 #[.pointer (some ⟨c, 0, none⟩)] w fun e w' => e = .returned (.tuple #[]) ∧ Below n w w' ∧ Cat0 w' c := by
  have hc := hC.lt
  refine callsIn_of_wp_marks Tryz.func11 rfl trivial ?_ rfl
  simp only [Tryz.ntmps11, List.size_toArray, List.length_cons, List.length_nil, Nat.reduceAdd, Nat.reduceSub, Array.replicate_succ, Array.replicate_zero, List.push_toArray, List.append_toArray, List.nil_append, List.cons_append]
  gi_wp2_with fail
  refine ⟨trivial, ?_⟩
  refine (callsIn_wide.2 (unused_none c w hC)).mono ?_
  rintro e W2 ⟨B, B2, rfl, hB2, hcB⟩
  have hC2 := hC.below hB2
  have hz2 := hB2.size
  gi_wp2_with fail
  refine wpIn_rangeFunc_idle rfl (by omega) (gf := 51) (lb := #[.pointer (some ⟨B, 0, none⟩), .pointer (some ⟨B2, 0, none⟩)]) rfl trivial (enters_of Tryz.func51 (by kernel_rfl) rfl)
    (fun W => Below w.heap.size w W) ?call ?done
  case call =>
    intro rec
    obtain ⟨X, hX⟩ : ∃ X, (W2.alloc (.deferred (some []))).alloc (.loop rec) = X := ⟨_, rfl⟩
    have hX2 : Below W2.heap.size W2 X := by rw [← hX]; exact ((Below.refl _ _).alloc (Nat.le_refl _) _).alloc (by simp) _
    have hXz : X.heap.size = W2.heap.size + 1 + 1 := by rw [← hX]; simp
    rw [hX]
    refine (callsIn_wide.2 (unused1_none (W2.heap.size + 1) B B2 c X ((hX2.cell (p := ⟨B, 0, none⟩) (World.block_lt_of_cell? W2 _ hcB)).trans hcB) (hC2.below hX2))).mono ?_
    rintro e W ⟨rfl, hb⟩
    exact ⟨⟨_, rfl⟩, (hB2.trans (hX2.mono hB2.size)).trans (hb.mono (by omega)), hb.block _ (by omega), hb.block _ (by omega)⟩
  case done =>
    rintro W o hBW hK hlt
    have hBY : Below w.heap.size w (W.putObj (W2.heap.size + 1) o) := below_putObj hBW _ (by omega)
    have hKY : (W.putObj (W2.heap.size + 1) o).heap[W2.heap.size]? = some (.deferred (some [])) := (World.putObj_heap_other (by omega)).trans hK
    generalize W.putObj (W2.heap.size + 1) o = Y at hBY hKY ⊢
    gi_wp2_with fail
    refine ⟨trivial, ?_⟩
    refine (callsIn_wide.2 (sift_none n c Y (hC.below hBY) hn)).mono ?_
    rintro e Y1 ⟨rfl, hb1, hC1, ho1⟩
    have hK1 : Y1.heap[W2.heap.size]? = some (.deferred (some [])) := (ho1 _ (lt_of_heap hKY) (by omega)).trans hKY
    gi_wp2
    refine ⟨by simp, .inl ⟨_, _, rfl, run_takeDeferred hK1, ?_⟩⟩
    refine ⟨.tuple #[], by simp [results, Tryz.results11], rfl, below_putObj ((hBY.mono (by omega)).trans hb1) _ (by omega), hC1.put (by omega) hK1 (fun k h => nomatch h)⟩

/-- **Forget**, of a catalog that has nothing. -/
theorem forget_none (n c : Nat) (w : World) (hC : Cat0 w c) (hn : n ≤ c) : Calls Tryz.prog 11 #[.pointer (some ⟨c, 0, none⟩)] w fun e w' => e = .returned (.tuple #[]) ∧ Below n w w' ∧ Cat0 w' c :=
  (callsIn_wide (n := 3)).1 (forget_in n c w hC hn)

set_option maxHeartbeats 2000000 in
theorem apply_in (c : Nat) (w : World) :
    CallsIn Fence.wide 3 Tryz.prog 10 #[.pointer (some ⟨c, 0, none⟩), .int .i64 0, .slice none 0 0] w fun e w' => e = .returned .nilIface ∧ Below w.heap.size w w' := by
  refine callsIn_of_wp_marks Tryz.func10 rfl trivial ?_ rfl
  simp only [Tryz.ntmps10, List.size_toArray, List.length_cons, List.length_nil, Nat.reduceAdd, Nat.reduceSub, Array.replicate_succ, Array.replicate_zero, List.push_toArray, List.append_toArray, List.nil_append, List.cons_append]
  gi_wp2_with fail
  obtain ⟨W3, hW3⟩ : ∃ W3, (((w.alloc (.cells #[.pointer (some ⟨c, 0, none⟩)] 38)).alloc (.cells #[.int .i64 0] 3)).alloc (.cells #[.nilIface] 25)) = W3 := ⟨_, rfl⟩
  have hB3 : Below w.heap.size w W3 := by rw [← hW3]; exact (((Below.refl _ _).alloc (Nat.le_refl _) _).alloc (by simp) _).alloc (by simp; omega) _
  have hz3 : W3.heap.size = w.heap.size + 1 + 1 + 1 := by rw [← hW3]; simp
  have hh3 : W3.heap[w.heap.size + 1 + 1]? = some (.cells #[.nilIface] 25 (0, 0)) := by
    rw [← hW3]
    have := heap_alloc_new ((w.alloc (.cells #[.pointer (some ⟨c, 0, none⟩)] 38)).alloc (.cells #[.int .i64 0] 3)) (.cells #[.nilIface] 25)
    simpa using this
  rw [hW3]
  clear hW3
  refine ⟨trivial, ?_⟩
  refine (callsIn_wide.2 (all_none W3)).mono ?_
  rintro e W2 ⟨rfl, hW2⟩
  have hz2 : W2.heap.size = W3.heap.size + 1 := by rw [hW2]; simp
  have hb2 : Below W3.heap.size W3 W2 := by rw [hW2]; exact (Below.refl _ _).alloc (Nat.le_refl _) _
  have hcB : W2.cell? ⟨w.heap.size + 1 + 1 + 1, 0, none⟩ = some (.slice none 0 0) := by rw [← hz3, hW2, cell_of_row _ _ _ _ _ _ (heap_alloc_new W3 _)]; rfl
  have hB2 : Below w.heap.size w W2 := hB3.trans (hb2.mono (by omega))
  have hh2 : W2.heap[w.heap.size + 1 + 1]? = some (.cells #[.nilIface] 25 (0, 0)) := (hb2.block _ (by omega)).trans hh3
  clear hW2
  gi_wp2_with fail
  refine wpIn_rangeFunc_idle rfl (by omega) (gf := 45) (lb := #[.pointer (some ⟨w.heap.size + 1 + 1 + 1, 0, none⟩)]) rfl trivial (enters_of Tryz.func45 (by kernel_rfl) rfl)
    (fun W => Below w.heap.size w W ∧ W.heap[w.heap.size + 1 + 1]? = some (.cells #[.nilIface] 25 (0, 0))) ?call ?done
  case call =>
    intro rec
    obtain ⟨X, hX⟩ : ∃ X, (W2.alloc (.deferred (some []))).alloc (.loop rec) = X := ⟨_, rfl⟩
    have hX2 : Below W2.heap.size W2 X := by rw [← hX]; exact ((Below.refl _ _).alloc (Nat.le_refl _) _).alloc (by simp) _
    rw [hX]
    refine (callsIn_wide.2 (all1_none (W2.heap.size + 1) (w.heap.size + 1 + 1 + 1) X ((hX2.cell (p := ⟨w.heap.size + 1 + 1 + 1, 0, none⟩) (by show w.heap.size + 1 + 1 + 1 < _; omega)).trans hcB))).mono ?_
    rintro e W ⟨rfl, rfl⟩
    exact ⟨⟨_, rfl⟩, ⟨hB2.trans (hX2.mono hB2.size), (hX2.block _ (by omega)).trans hh2⟩, rfl, rfl⟩
  case done =>
    rintro W o ⟨hBW, hh⟩ hK hlt
    have hBY : Below w.heap.size w (W.putObj (W2.heap.size + 1) o) := below_putObj hBW _ (by omega)
    have hKY : (W.putObj (W2.heap.size + 1) o).heap[W2.heap.size]? = some (.deferred (some [])) := (World.putObj_heap_other (by omega)).trans hK
    have hhY : (W.putObj (W2.heap.size + 1) o).heap[w.heap.size + 1 + 1]? = some (.cells #[.nilIface] 25 (0, 0)) := (World.putObj_heap_other (by omega)).trans hh
    generalize W.putObj (W2.heap.size + 1) o = Y at hBY hKY hhY ⊢
    have hcY : Y.cell? ⟨w.heap.size + 1 + 1, 0, none⟩ = some .nilIface := by rw [cell_of_row _ _ _ _ _ _ hhY]; rfl
    have hfY : Y.frozen? ⟨w.heap.size + 1 + 1, 0, none⟩ = false := frozen_of_row _ _ _ _ _ hhY
    have hsY := setCell_self hcY
    gi_wp2
    have hvY : (Y.putObj W2.heap.size (.deferred none)).cell? ⟨w.heap.size + 1 + 1, 0, none⟩ = some .nilIface := by rw [cell_putObj _ 0 (by omega)]; exact hcY
    refine ⟨by simp, .inl ⟨_, _, rfl, run_takeDeferred hKY, ?_⟩⟩
    refine ⟨.nilIface, ?_, rfl, below_putObj hBY _ hB2.size⟩
    have a25 := Tryz.isAgg25
    simp [results, Tryz.results10, go_sem, hvY, loadVar, a25]

/-- **Apply**, of no records. -/
theorem apply_none (c : Nat) (w : World) : Calls Tryz.prog 10 #[.pointer (some ⟨c, 0, none⟩), .int .i64 0, .slice none 0 0] w fun e w' => e = .returned .nilIface ∧ Below w.heap.size w w' :=
  (callsIn_wide (n := 3)).1 (apply_in c w)
end Go.Proofs.YtcfjkcfmoooccaaGreatDoor
