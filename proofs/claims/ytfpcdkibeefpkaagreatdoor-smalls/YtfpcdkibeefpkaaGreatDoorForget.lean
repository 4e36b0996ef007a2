import Derived.Test.YtfpcdkibeefpkaaGreatDoorIdle
namespace Go.Proofs.YtfpcdkibeefpkaaGreatDoor
open Go.RowKit Go.Shelf
set_option maxRecDepth 100000
set_option linter.unusedVariables false
attribute [local go_sem] Oper.semAt_some

set_option maxHeartbeats 2000000 in
theorem forget_in (c : Nat) (w : World) (hC : Cat0 w c) :
    CallsIn Fence.wide 3 Tryz.prog 11 #[.pointer (some ⟨c, 0, none⟩)] w fun e w' => e = .returned (.tuple #[]) ∧ Below w.heap.size w w' := by
  have hc := hC.lt
  have hB0 : Below w.heap.size w (w.alloc (.cells #[.pointer (some ⟨c, 0, none⟩)] 38)) := (Below.refl _ _).alloc (Nat.le_refl _) _
  have hC0 := hC.below hB0
  refine callsIn_of_wp_marks Tryz.func11 rfl trivial ?_ rfl
  simp only [Tryz.ntmps11, List.size_toArray, List.length_cons, List.length_nil, Nat.reduceAdd, Nat.reduceSub, Array.replicate_succ, Array.replicate_zero, List.push_toArray, List.append_toArray, List.nil_append, List.cons_append]
  gi_wp2_with fail
  generalize w.alloc (.cells #[.pointer (some ⟨c, 0, none⟩)] 38) = W0 at hB0 hC0 ⊢
  refine ⟨trivial, ?_⟩
  refine (callsIn_wide.2 (unused_none c W0 hC0)).mono ?_
  rintro e W2 ⟨B, B2, rfl, hb2, hcB⟩
  have hC2 := hC0.below hb2
  have hB2 : Below w.heap.size w W2 := hB0.trans (hb2.mono hB0.size)
  gi_wp2_with fail
  refine wpIn_rangeFunc_idle rfl (by omega) (gf := 51) (lb := #[.pointer (some ⟨B, 0, none⟩), .pointer (some ⟨B2, 0, none⟩)]) rfl trivial (enters_of Tryz.func51 (by kernel_rfl) rfl)
    (fun W => Below w.heap.size w W) ?call ?done
  case call =>
    intro rec
    obtain ⟨X, hX⟩ : ∃ X, (W2.alloc (.deferred (some []))).alloc (.loop rec) = X := ⟨_, rfl⟩
    have hX2 : Below W2.heap.size W2 X := by rw [← hX]; exact ((Below.refl _ _).alloc (Nat.le_refl _) _).alloc (by simp) _
    have hXz : X.heap.size = W2.heap.size + 1 + 1 := by rw [← hX]; simp
    rw [hX]
    refine (callsIn_wide.2 (unused1_none (W2.heap.size + 1) B B2 c X ((hX2.cell (p := ⟨B, 0, none⟩) (World.block_lt_of_cell? W2 _ hcB)).trans hcB) (hC2.below hX2))).mono ?_
    rintro e W ⟨rfl, hb⟩
    exact ⟨⟨_, rfl⟩, (hB2.trans (hX2.mono hB2.size)).trans (hb.mono (by have := hB2.size; omega)), hb.block _ (by omega), hb.block _ (by omega)⟩
  case done =>
    rintro W o hBW hK hlt
    have hBY : Below w.heap.size w (W.putObj (W2.heap.size + 1) o) := below_putObj hBW _ (by have := hB2.size; omega)
    have hKY : (W.putObj (W2.heap.size + 1) o).heap[W2.heap.size]? = some (.deferred (some [])) := (World.putObj_heap_other (by omega)).trans hK
    generalize W.putObj (W2.heap.size + 1) o = Y at hBY hKY ⊢
    gi_wp2
    refine ⟨by simp, .inl ⟨_, _, rfl, run_takeDeferred hKY, ?_⟩⟩
    exact ⟨.tuple #[], by simp [results, Tryz.results11], rfl, below_putObj hBY _ hB2.size⟩

/-- **Forget**, of a catalog that has nothing. -/
theorem forget_none (c : Nat) (w : World) (hC : Cat0 w c) : Calls Tryz.prog 11 #[.pointer (some ⟨c, 0, none⟩)] w fun e w' => e = .returned (.tuple #[]) ∧ Below w.heap.size w w' :=
  (callsIn_wide (n := 3)).1 (forget_in c w hC)

set_option maxHeartbeats 2000000 in
theorem apply_in (c : Nat) (w : World) :
    CallsIn Fence.wide 3 Tryz.prog 10 #[.pointer (some ⟨c, 0, none⟩), .int .i64 0, .slice none 0 0] w fun e w' => e = .returned .nilIface ∧ Below w.heap.size w w' := by
  refine callsIn_of_wp_marks Tryz.func10 rfl trivial ?_ rfl
  simp only [Tryz.ntmps10, List.size_toArray, List.length_cons, List.length_nil, Nat.reduceAdd, Nat.reduceSub, Array.replicate_succ, Array.replicate_zero, List.push_toArray, List.append_toArray, List.nil_append, List.cons_append]
  gi_wp2_with fail
  obtain ⟨W3, hW3⟩ : ∃ W3, (((w.alloc (.cells #[.pointer (some ⟨c, 0, none⟩)] 38)).alloc (.cells #[.int .i64 0] 3)).alloc (.cells #[.nilIface] 25)) = W3 := ⟨_, rfl⟩
  have hB3 : Below w.heap.size w W3 := by rw [← hW3]; exact (((Below.refl _ _).alloc (Nat.le_refl _) _).alloc (by simp) _).alloc (by simp; omega) _
  have hz3 : W3.heap.size = w.heap.size + 1 + 1 + 1 := by rw [← hW3]; simp
  have hh3 : W3.heap[w.heap.size + 1 + 1]? = some (.cells #[.nilIface] 25 (0, 0)) := by
    rw [← hW3]
    have := heap_alloc_new ((w.alloc (.cells #[.pointer (some ⟨c, 0, none⟩)] 38)).alloc (.cells #[.int .i64 0] 3)) (.cells #[.nilIface] 25)
    simpa using this
  rw [hW3]
  clear hW3
  refine ⟨trivial, ?_⟩
  refine (callsIn_wide.2 (all_none W3)).mono ?_
  rintro e W2 ⟨rfl, hW2⟩
  have hz2 : W2.heap.size = W3.heap.size + 1 := by rw [hW2]; simp
  have hb2 : Below W3.heap.size W3 W2 := by rw [hW2]; exact (Below.refl _ _).alloc (Nat.le_refl _) _
  have hcB : W2.cell? ⟨w.heap.size + 1 + 1 + 1, 0, none⟩ = some (.slice none 0 0) := by rw [← hz3, hW2, cell_of_row _ _ _ _ _ _ (heap_alloc_new W3 _)]; rfl
  have hB2 : Below w.heap.size w W2 := hB3.trans (hb2.mono (by omega))
  have hh2 : W2.heap[w.heap.size + 1 + 1]? = some (.cells #[.nilIface] 25 (0, 0)) := (hb2.block _ (by omega)).trans hh3
  clear hW2
  gi_wp2_with fail
  refine wpIn_rangeFunc_idle rfl (by omega) (gf := 45) (lb := #[.pointer (some ⟨w.heap.size + 1 + 1 + 1, 0, none⟩)]) rfl trivial (enters_of Tryz.func45 (by kernel_rfl) rfl)
    (fun W => Below w.heap.size w W ∧ W.heap[w.heap.size + 1 + 1]? = some (.cells #[.nilIface] 25 (0, 0))) ?call ?done
  case call =>
    intro rec
    obtain ⟨X, hX⟩ : ∃ X, (W2.alloc (.deferred (some []))).alloc (.loop rec) = X := ⟨_, rfl⟩
    have hX2 : Below W2.heap.size W2 X := by rw [← hX]; exact ((Below.refl _ _).alloc (Nat.le_refl _) _).alloc (by simp) _
    rw [hX]
    refine (callsIn_wide.2 (all1_none (W2.heap.size + 1) (w.heap.size + 1 + 1 + 1) X ((hX2.cell (p := ⟨w.heap.size + 1 + 1 + 1, 0, none⟩) (by show w.heap.size + 1 + 1 + 1 < _; omega)).trans hcB))).mono ?_
    rintro e W ⟨rfl, rfl⟩
    exact ⟨⟨_, rfl⟩, ⟨hB2.trans (hX2.mono hB2.size), (hX2.block _ (by omega)).trans hh2⟩, rfl, rfl⟩
  case done =>
    rintro W o ⟨hBW, hh⟩ hK hlt
    have hBY : Below w.heap.size w (W.putObj (W2.heap.size + 1) o) := below_putObj hBW _ (by omega)
    have hKY : (W.putObj (W2.heap.size + 1) o).heap[W2.heap.size]? = some (.deferred (some [])) := (World.putObj_heap_other (by omega)).trans hK
    have hhY : (W.putObj (W2.heap.size + 1) o).heap[w.heap.size + 1 + 1]? = some (.cells #[.nilIface] 25 (0, 0)) := (World.putObj_heap_other (by omega)).trans hh
    generalize W.putObj (W2.heap.size + 1) o = Y at hBY hKY hhY ⊢
    have hcY : Y.cell? ⟨w.heap.size + 1 + 1, 0, none⟩ = some .nilIface := by rw [cell_of_row _ _ _ _ _ _ hhY]; rfl
    have hfY : Y.frozen? ⟨w.heap.size + 1 + 1, 0, none⟩ = false := frozen_of_row _ _ _ _ _ hhY
    have hsY := setCell_self hcY
    gi_wp2
    have hvY : (Y.putObj W2.heap.size (.deferred none)).cell? ⟨w.heap.size + 1 + 1, 0, none⟩ = some .nilIface := by rw [cell_putObj _ 0 (by omega)]; exact hcY
    refine ⟨by simp, .inl ⟨_, _, rfl, run_takeDeferred hKY, ?_⟩⟩
    refine ⟨.nilIface, ?_, rfl, below_putObj hBY _ hB2.size⟩
    have a25 := Tryz.isAgg25
    simp [results, Tryz.results10, go_sem, hvY, loadVar, a25]

/-- **Apply**, of no records. -/
theorem apply_none (c : Nat) (w : World) : Calls Tryz.prog 10 #[.pointer (some ⟨c, 0, none⟩), .int .i64 0, .slice none 0 0] w fun e w' => e = .returned .nilIface ∧ Below w.heap.size w w' :=
  (callsIn_wide (n := 3)).1 (apply_in c w)
end Go.Proofs.YtfpcdkibeefpkaaGreatDoor
