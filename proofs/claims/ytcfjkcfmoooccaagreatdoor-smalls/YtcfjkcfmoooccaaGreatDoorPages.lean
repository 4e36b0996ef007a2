import Derived.Test.YtcfjkcfmoooccaaGreatDoorTable
import Derived.Laws.AppendOwn
import Derived.Laws.OwnMore
namespace Go.Proofs.YtcfjkcfmoooccaaGreatDoor
open Go.RowKit
set_option maxRecDepth 100000
set_option linter.unusedVariables false

theorem Sto.block {w w' : World} {j d : Nat} (h : Sto w j d) (hb : w'.heap[j]? = w.heap[j]?) : Sto w' j d :=
  ⟨(World.cell?_of_block (a := ⟨j, 0, none⟩) hb).trans h.dev, (World.cell?_of_block (a := ⟨j, 1, none⟩) hb).trans h.lay, (World.cell?_of_block (a := ⟨j, 2, none⟩) hb).trans h.turn, (World.cell?_of_block (a := ⟨j, 3, none⟩) hb).trans h.count, (World.cell?_of_block (a := ⟨j, 6, none⟩) hb).trans h.fault, fun i => (World.frozen?_of_block (a := ⟨j, i, none⟩) hb).trans (h.free i)⟩
theorem Sto.set5 {w : World} {j d : Nat} (h : Sto w j d) (v : Value) : Sto (w.setCell ⟨j, 5, none⟩ v) j d :=
  ⟨by rw [World.cell?_setCell_other _ _ _ _ (by simp)]; exact h.dev, by rw [World.cell?_setCell_other _ _ _ _ (by simp)]; exact h.lay, by rw [World.cell?_setCell_other _ _ _ _ (by simp)]; exact h.turn, by rw [World.cell?_setCell_other _ _ _ _ (by simp)]; exact h.count, by rw [World.cell?_setCell_other _ _ _ _ (by simp)]; exact h.fault, fun i => by rw [World.frozen?_setCell]; exact h.free i⟩
theorem grown_set (w : World) (j i : Nat) (v : Value) : w.grownBy (w.setCell ⟨j, i, none⟩ v) (some j) :=
  ⟨rfl, rfl, rfl, by simp [World.setCell], fun k hk hne => Below.heap_setCell _ _ _ _ (by show k ≠ j; intro e; exact hne (by rw [e]))⟩

/-- Where readPages stands behind some rounds: the free sectors lie in a list of its own. -/
structure Frees (w : World) (B j d : Nat) (W : World) (v : Value) (m : Nat) (xs : List Value) : Prop where
  below : Below B w W
  sto : Sto W j d
  cell : W.cell? ⟨j, 5, none⟩ = some v
  own : W.ownsRow w.heap.size 3 1 v m xs

theorem Frees.round {w : World} {B j d : Nat} {W W1 w2 : World} {v v1 : Value} {m m' : Nat} {xs ys : List Value} {o : Obj} (h : Frees w B j d W v m xs) (hB : B ≤ j) (hj : j < w.heap.size) (hb1 : Below W.heap.size W W1)
    (ho : w2.ownsRow w.heap.size 3 1 v1 m' ys) (hg : (W1.alloc o).grownBy w2 v.ownBlock) : Frees w B j d (w2.setCell ⟨j, 5, none⟩ v1) v1 m' ys := by
  have hz := h.below.size
  have hz1 := hb1.size
  have hjW : j < W.heap.size := by omega
  have hbk : w2.heap[j]? = W.heap[j]? := by
    rw [hg.block j (by simp; omega) (fun e => by have := (h.own.lt j e.symm).1; omega), heap_alloc_old W1 o (by omega), hb1.block j hjW]
  have hc2 : w2.cell? ⟨j, 5, none⟩ = some v := (World.cell?_of_block (a := ⟨j, 5, none⟩) hbk).trans h.cell
  refine ⟨?_, (h.sto.block hbk).set5 v1, World.cell?_setCell_same _ _ _ hc2, ho.kept (grown_set w2 j 5 v1) (.inr fun e => by have := (ho.lt j e).1; omega)⟩
  exact (((h.below.trans (hb1.mono (by omega))).alloc (by omega) o).grown hg (by simp; omega) (fun k hk => by have := (h.own.lt k hk).1; omega)).setCell (p := ⟨j, 5, none⟩) hB _

theorem Frees.after {w : World} {B j d : Nat} {W W1 w2 : World} {v : Value} {m : Nat} {xs : List Value} {o : Obj} (h : Frees w B j d W v m xs) (hj : j < w.heap.size) (hb1 : Below W.heap.size W W1)
    (hg : (W1.alloc o).grownBy w2 v.ownBlock) : w2.cell? ⟨j, 5, none⟩ = some v ∧ w2.frozen? ⟨j, 5, none⟩ = false := by
  have hz := h.below.size
  have hz1 := hb1.size
  have hbk : w2.heap[j]? = W.heap[j]? := by
    rw [hg.block j (by simp; omega) (fun e => by have := (h.own.lt j e.symm).1; omega), heap_alloc_old W1 o (by omega), hb1.block j (by omega)]
  exact ⟨(World.cell?_of_block (a := ⟨j, 5, none⟩) hbk).trans h.cell, (World.frozen?_of_block (a := ⟨j, 5, none⟩) hbk).trans (h.sto.free 5)⟩

theorem slice_of {w : World} {base e size n : Nat} {v : Value} {xs : List Value} (h : w.ownsRow base e size v n xs) : ∃ a l c, v = .slice a l c := by
  rcases h.2 with ⟨rfl, _⟩ | ⟨g, cap, cur, rfl, _⟩
  · exact ⟨_, _, _, rfl⟩
  · exact ⟨_, _, _, rfl⟩

theorem info3 : (Tryz.prog.info? 3).map (fun i => (i.zero, i.size, i.bytes)) = some (some (.int .i64 0), 1, 8) := by kernel_rfl
theorem one_new (w : World) (v : Value) (t : TypeId) : ∀ j u, ([v] : List Value)[j]? = some u → (w.alloc (.cells #[v] t)).cell? ((⟨w.heap.size, 0, none⟩ : Addr).add j) = some u := by
  intro j u h
  rcases j with _ | j
  · obtain rfl : v = u := by simpa using h
    simp [Addr.add]
  · simp at h

set_option maxHeartbeats 2000000 in
/-- readPages of a store without pages: the sectors 4 to 15 are free. -/
theorem readPages_none (B j d : Nat) (w : World) (hJ : Sto w j d) (hB : B ≤ j) (hc5 : w.cell? ⟨j, 5, none⟩ = some (.slice none 0 0)) :
    Calls Tryz.prog 18 #[.pointer (some ⟨j, 0, none⟩), .slice none 0 0] w fun e w' => e = .returned (.tuple #[.slice none 0 0, .nilIface]) ∧ Below B w w' := by
  have hj := hJ.lt
  have hlay := hJ.lay
  obtain ⟨i0, hi, hz0, hz1, hz2⟩ := info_parts info3
  go_enter Tryz.func18, Tryz.ntmps18
  go_wp2_with fail
  refine wp_loop_rounds 1 ?_
  rw [rounds_succ]
  go_wp2_with fail
  refine (sort_none _).mono ?_
  rintro e w' ⟨rfl, rfl⟩
  go_wp2_with fail
  go_loopw [11] (fun i W => ∃ (m : Nat) (v : Value) (xs : List Value), m ≤ 12 ∧ i = .int .i64 (15 - (m : Int)) ∧ Frees w B j d W v m xs) (fun i _ => (intOf i).toNat)
  case atStart => exact ⟨0, _, [], by omega, rfl, Below.refl _ _, hJ, hc5, World.ownsRow_nil _ _ _ _⟩
  case round =>
    obtain ⟨m, v, xs, hm, rfl, hF⟩ := hrel
    have hl1 := hF.sto.lay
    have hjr : j < wr.heap.size := hF.sto.lt
    go_wp2_with fail
    refine (firstPage16 _).mono ?_
    rintro e w1 ⟨rfl, hb1⟩
    by_cases hlt : m < 12
    · have hge : (4 : Int) ≤ 15 - (m : Int) := by omega
      have hc1 : w1.cell? ⟨j, 5, none⟩ = some v := (hb1.cell (p := ⟨j, 5, none⟩) hjr).trans hF.cell
      have ho1 : w1.ownsRow w.heap.size 3 1 v m xs := hF.own.kept (row := none) ⟨hb1.os, hb1.tape, hb1.output, hb1.size, fun k hk _ => hb1.block k hk⟩ (by cases v.ownBlock <;> simp)
      go_wp2_with fail
      refine (search_none _ _).mono ?_
      rintro e w' ⟨rfl, rfl⟩
      go_wp2_with (at_builtin; refine wpList_append_own _ rfl (.tmp 78) (.tmp 80) 62 rfl w.heap.size 3 i0 (.int .i64 0) 1 8 Tryz.underlying62 hi hz0 hz1 hz2 rfl (by decide) v m xs rfl (ho1.alloc _) ⟨w1.heap.size, 0, none⟩ 1 1 [.int .i64 (15 - (m : Int))] rfl rfl (one_new _ _ _) (by intro u hu; simp at hu; subst hu; rfl) (by unfold maxLen; omega) (by omega) (by have := hF.below.size; have := hb1.size; simp; omega) ?_; intro v1 w2 ho2 hg2 _; obtain ⟨sa, sl, sc, rfl⟩ := slice_of ho2; obtain ⟨hc2, hf2⟩ := hF.after hj hb1 hg2)
      go_roundw
      case rel => exact ⟨m + 1, _, _, by omega, by go_num, hF.round hB hj hb1 ho2 hg2⟩
      case measure => simp [intOf]; omega
    · have hge : ¬ ((4 : Int) ≤ 15 - (m : Int)) := by omega
      go_wp2
      go_ret2
      exact ⟨rfl, hF.below.trans (hb1.mono (by omega))⟩
end Go.Proofs.YtcfjkcfmoooccaaGreatDoor
