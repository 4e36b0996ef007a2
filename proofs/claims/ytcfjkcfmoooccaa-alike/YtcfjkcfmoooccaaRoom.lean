import Derived.Test.YtcfjkcfmoooccaaSame
import Derived.Laws.CopyOwn
import Derived.Deep.OwnRows
namespace Go.Proofs.Ytcfjkcfmoooccaa
open Go.RowKit
set_option linter.unusedVariables false

def byts (zs : List Int) : List Value := zs.map fun z => Value.int .u8 z

theorem info5 : (Try.prog.info? 5).map (fun i => (i.zero, i.size, i.bytes)) = some (some (.int .u8 0), 1, 1) := by kernel_rfl
theorem size5 : (Try.prog.info? 5).map (fun i => i.size) = some 1 := by kernel_rfl

theorem own_full {w : World} {base g n : Nat} {e : TypeId} {xs : List Value} (h : w.ownsRow base e 1 (.slice (some ⟨g, 0, none⟩) n n) n xs) : w.heap[g]? = some (.cells xs.toArray e (0, 0)) := by
  rcases h.2 with ⟨h', _⟩ | ⟨g', cap', cur, h', _, hg, _, _, hcs, htake⟩
  · simp at h'
  · simp only [Value.slice.injEq, Option.some.injEq, Addr.mk.injEq, and_true, true_and] at h'
    obtain ⟨rfl, rfl⟩ := h'
    rw [hg, ← htake, List.take_of_length_le (by rw [Array.length_toList, hcs]; exact Nat.le_refl _)]

theorem splice_front (Z cs : List Value) (x y : Value) (hZ : Z.length = cs.length + 2) : ((splice Z 0 cs).set cs.length x).set (cs.length + 1) y = cs ++ [x, y] := by
  unfold splice
  obtain ⟨p, q, hpq⟩ : ∃ p q, Z.drop cs.length = [p, q] := by
    have hl : (Z.drop cs.length).length = 2 := by rw [List.length_drop]; omega
    match hd : Z.drop cs.length, hl with
    | [p, q], _ => exact ⟨p, q, rfl⟩
  have e : Z.take 0 ++ (cs ++ Z.drop (0 + cs.length)) = cs ++ [p, q] := by rw [Nat.zero_add, hpq]; rfl
  rw [e, List.set_append_right _ _ (Nat.le_refl _), List.set_append_right _ _ (by omega)]
  have e1 : cs.length - cs.length = 0 := by omega
  have e2 : cs.length + 1 - cs.length = 1 := by omega
  rw [e1, e2]
  rfl

set_option maxRecDepth 100000 in
set_option maxHeartbeats 400000 in
theorem roomy_at (a : Option Addr) (len cap : Nat) (cs : List Value) (hcs : cs.length = len) (h1 : ∀ v ∈ cs, v.oneCell' = true) (hlen : len ≤ 70000) (w : World)
    (hI : 0 < len → ∃ b off, a = some ⟨b, off, none⟩ ∧ b < w.heap.size ∧ ∀ j v, cs[j]? = some v → w.cell? ⟨b, off + j, none⟩ = some v) :
    Calls Try.prog 5 #[.slice a len cap] w fun e W' => ∃ g, e = .returned (.slice (some ⟨g, 0, none⟩) len (len + 2)) ∧ w.heap.size ≤ g ∧ W'.heap[g]? = some (.cells (cs ++ [Value.int .u8 71, Value.int .u8 72]).toArray 5 (0, 0)) ∧ Below w.heap.size w W' := by
  obtain ⟨i0, hi, hz0, hz1, hz2⟩ := info_parts info5
  have HCS : Hid (cs.length = len) := hcs
  clear hcs
  have HI : Hid (0 < len → ∃ b off, a = some ⟨b, off, none⟩ ∧ b < w.heap.size ∧ ∀ j v, cs[j]? = some v → w.cell? ⟨b, off + j, none⟩ = some v) := hI
  clear hI
  go_enter Try.func5, Try.ntmps5
  have made : ∀ w1 : World, w1.ownsRow w.heap.size 5 1 (.slice (some ⟨w.heap.size, 0, none⟩) (len + 2) (len + 2)) (len + 2) (madeCells (Value.int .u8 0).cells ((len + 2) * 1)).toList → w.grownBy w1 none →
      ∃ Z : List Value, Hid (Z.length = len + 2) ∧ Hid (w1.heap[w.heap.size]? = some (.cells Z.toArray 5 (0, 0))) ∧ Below w.heap.size w w1 := fun w1 h2 h3 =>
    ⟨_, by rw [Array.length_toList, size_madeCells, Nat.mul_one]; rfl, own_full h2, (Below.refl _ _).grown h3 (Nat.le_refl _) (fun j hj => by cases hj)⟩
  have hpos : ∀ w1, Below w.heap.size w w1 → 0 < cs.length → (∃ ad, a = some ad ∧ ∀ j v, cs[j]? = some v → w1.cell? (ad.add j) = some v) := by
    intro w1 hB1 h0
    obtain ⟨b, off, rfl, hb, hcell⟩ := HI.out (by rw [← HCS.out]; exact h0)
    exact ⟨_, rfl, fun j v hj => by rw [Addr.add_lit]; exact (hB1.cell (p := ⟨b, off + j, none⟩) hb).trans (hcell j v hj)⟩
  have stored : ∀ (w2 : World) (Z : List Value), Z.length = len + 2 → w2.heap[w.heap.size]? = some (.cells (splice Z 0 cs).toArray 5 (0, 0)) →
      (∃ x, w2.cell? ⟨w.heap.size, len, none⟩ = some x) ∧ (∃ x, w2.cell? ⟨w.heap.size, len + 1, none⟩ = some x) ∧ w2.frozen? ⟨w.heap.size, len, none⟩ = false ∧ w2.frozen? ⟨w.heap.size, len + 1, none⟩ = false ∧
      ((w2.setCell ⟨w.heap.size, len, none⟩ (.int .u8 71)).setCell ⟨w.heap.size, len + 1, none⟩ (.int .u8 72)).heap[w.heap.size]? = some (.cells (cs ++ [Value.int .u8 71, Value.int .u8 72]).toArray 5 (0, 0)) := by
    intro w2 Z hZ hg
    have hl : (splice Z 0 cs).length = len + 2 := by rw [length_splice _ _ _ (by rw [HCS.out]; omega), hZ]
    refine ⟨⟨(splice Z 0 cs)[len], ?_⟩, ⟨(splice Z 0 cs)[len + 1], ?_⟩, frozen_of_row _ _ _ _ _ hg, frozen_of_row _ _ _ _ _ hg, ?_⟩
    · rw [cell_of_row _ _ _ _ _ _ hg]; simp [hl]
    · rw [cell_of_row _ _ _ _ _ _ hg]; simp [hl]
    · rw [heap_setCell_same _ _ _ _ _ _ (heap_setCell_same _ _ _ _ _ _ hg)]
      have := splice_front Z cs (.int .u8 71) (.int .u8 72) (by rw [HCS.out]; exact hZ)
      rw [HCS.out] at this
      rw [← this]
      simp
  go_wp2_with (first
    | (at_make; refine wpList_make_full _ rfl _ _ 22 rfl w.heap.size 5 i0 (.int .u8 0) 1 Try.underlying22 hi hz0 hz1 .i64 .i64 _ _ (len + 2) rfl rfl (by omega) (by omega) (by rw [hz2]; omega) (by unfold maxLen; omega) (Nat.le_refl _) ?_; intro w1 hown1 hgrow1; obtain ⟨Z, HZ, HG1, hB1⟩ := made w1 hown1 hgrow1; clear hown1 hgrow1)
    | (refine wpList_copy_splice rfl (.tmp 10) (.tmp 11) 22 22 rfl 5 Try.underlying22 size5 (some ⟨w.heap.size, 0, none⟩) a (len + 2) (len + 2) len cap rfl rfl w.heap.size 0 Z 5 HG1.out cs (by rw [HCS.out]; simp) (fun h0 => ⟨rfl, hpos w1 hB1 h0⟩) (by rw [HZ.out, HCS.out]; omega) h1 w.heap.size w hB1 (Nat.le_refl _) ?_; intro w2 HG2 hB2; obtain ⟨⟨x1, hx1⟩, ⟨x2, hx2⟩, hf1, hf2, hfin⟩ := stored w2 Z HZ.out HG2.out))
  go_ret
  exact ⟨w.heap.size, rfl, Nat.le_refl _, hfin, (hB2.setCell (p := ⟨w.heap.size, len, none⟩) (Nat.le_refl _) _).setCell (p := ⟨w.heap.size, len + 1, none⟩) (Nat.le_refl _) _⟩

theorem byts_one (zs : List Int) : ∀ v ∈ byts zs, v.oneCell' = true := by
  intro v hv
  obtain ⟨z, _, rfl⟩ := List.mem_map.1 hv
  rfl

theorem byts_at {zs : List Int} {j : Nat} {v : Value} (h : (byts zs)[j]? = some v) : j < zs.length ∧ v = .int .u8 (zs[j]?.getD 0) := by
  unfold byts at h
  rw [List.getElem?_map] at h
  obtain ⟨z, hz, rfl⟩ := Option.map_eq_some_iff.1 h
  exact ⟨(List.getElem?_eq_some_iff.1 hz).1, by rw [hz]; rfl⟩

theorem byts_length (zs : List Int) : (byts zs).length = zs.length := List.length_map _

/-- **roomy**: the same bytes and two more in a new block. -/
theorem roomy_any (sv : Value) (zs : List Int) (hlen : zs.length ≤ 70000) (w : World) (hB : Row .u8 0 w.heap.size w sv zs) :
    Calls Try.prog 5 #[sv] w fun e W' => ∃ g, e = .returned (.slice (some ⟨g, 0, none⟩) zs.length (zs.length + 2)) ∧ w.heap.size ≤ g ∧ W'.heap[g]? = some (.cells (byts (zs ++ [71, 72])).toArray 5 (0, 0)) ∧ Below w.heap.size w W' := by
  have e : byts zs ++ [Value.int .u8 71, Value.int .u8 72] = byts (zs ++ [71, 72]) := by simp [byts]
  rw [← e]
  rcases hB with ⟨a, cap, rfl, rfl⟩ | ⟨b, off, cap, rfl, h2, h3, h4, _, h6, h7⟩
  · exact roomy_at a 0 cap [] rfl (by simp) (by omega) w (fun h => by omega)
  · exact roomy_at _ zs.length cap (byts zs) (byts_length zs) (byts_one zs) hlen w (fun _ => ⟨b, off, rfl, h6, fun j v hj => by obtain ⟨h8, rfl⟩ := byts_at hj; exact h7 j h8⟩)

theorem byts_cell {w : World} {g : Nat} {L : List Int} (hg : w.heap[g]? = some (.cells (byts L).toArray 5 (0, 0))) (j : Nat) (hj : j < L.length) : w.cell? ⟨g, j, none⟩ = some (.int .u8 (L[j]?.getD 0)) := by
  rw [cell_of_row _ _ _ _ _ _ hg]
  simp [byts, hj]

theorem byts_set {w : World} {g : Nat} {L : List Int} (hg : w.heap[g]? = some (.cells (byts L).toArray 5 (0, 0))) (j : Nat) (x : Int) : (w.setCell ⟨g, j, none⟩ (.int .u8 x)).heap[g]? = some (.cells (byts (L.set j x)).toArray 5 (0, 0)) := by
  rw [heap_setCell_same _ _ _ _ _ _ hg]
  simp [byts, List.map_set]

theorem grown_setCell (w : World) (g k : Nat) (u : Value) : w.grownBy (w.setCell ⟨g, k, none⟩ u) (some g) :=
  ⟨rfl, rfl, rfl, by simp [World.setCell], fun j _ hj => Below.heap_setCell _ _ _ _ (fun e => hj (by rw [e]))⟩

theorem grown_drewN (w : World) (n : Nat) (row : Option Nat) : w.grownBy (w.drewN n) row := ⟨rfl, rfl, rfl, Nat.le_refl _, fun _ _ _ => rfl⟩

set_option maxRecDepth 100000 in
set_option maxHeartbeats 400000 in
theorem still_at (g len : Nat) (sv : Value) (zs : List Int) (hl : zs.length = len) (hlen : len ≤ 70000) (lo hi : Nat) (w : World) (a : Option Addr) (cap : Nat) (hsv : sv = .slice a len cap) (hB : Row .u8 lo hi w sv zs)
    (hg : w.heap[g]? = some (.cells (byts (zs ++ [71, 72])).toArray 5 (0, 0))) :
    Calls Try.prog 7 #[.slice (some ⟨g, 0, none⟩) len (len + 2), sv] w fun e W' => e = .returned (.bool true) ∧ w.grownBy W' (some g) := by
  have HL : Hid (zs.length = len) := hl
  have HG : Hid (w.heap[g]? = some (.cells (byts (zs ++ [71, 72])).toArray 5 (0, 0))) := hg
  have hgl : g < w.heap.size := (Array.getElem?_eq_some_iff.1 hg).1
  have hR : Row .u8 g (g + 1) w (.slice (some ⟨g, 0, none⟩) len (len + 2)) zs := by
    by_cases h0 : zs = []
    · subst h0; exact .inl ⟨_, _, by rw [← hl]; rfl, rfl⟩
    · refine .inr ⟨g, 0, len + 2, by rw [hl], h0, by omega, by unfold maxLen; omega, Nat.le_refl _, by omega, fun j hj => ?_⟩
      rw [Nat.zero_add, byts_cell hg j (by simp; omega), List.getElem?_append_left hj]
  have hs := same_any g (g + 1) lo hi (.slice (some ⟨g, 0, none⟩) len (len + 2)) sv zs w (by omega) hR hB
  have hc1 : w.cell? ⟨g, len, none⟩ = some (.int .u8 71) := by rw [byts_cell hg len (by simp; omega), ← hl]; simp
  have hc2 : w.cell? ⟨g, len + 1, none⟩ = some (.int .u8 72) := by rw [byts_cell hg (len + 1) (by simp; omega), ← hl]; simp
  clear hR hB hg hl
  subst hsv
  go_enter Try.func7, Try.ntmps7
  go_wp2_with (go_at_call 11; refine hs.mono ?_; rintro e w1 ⟨rfl, n1, rfl⟩)
  go_loopw [8] (fun i wr => ∃ (k : Nat) (L : List Int), k ≤ len + 2 ∧ i = .int .i64 k ∧ Hid (L.length = len + 2) ∧ Hid (wr.heap[g]? = some (.cells (byts L).toArray 5 (0, 0))) ∧ w.grownBy wr (some g))
    (fun i _ => len + 2 - (intOf i).toNat)
  case atStart => exact ⟨0, _, Nat.zero_le _, rfl, by rw [List.length_append, HL.out]; rfl, HG, grown_drewN _ _ _⟩
  case round =>
    obtain ⟨k, L, hk, rfl, HLL, HGG, hgr⟩ := hrel
    by_cases hlt : k < len + 2
    · have hcx := byts_cell HGG.out k (by rw [HLL.out]; exact hlt)
      have hfx : wr.frozen? ⟨g, k, none⟩ = false := frozen_of_row _ _ _ _ _ HGG.out
      have hset := fun x => byts_set HGG.out k x
      obtain ⟨z, hz⟩ : ∃ z, L[k]?.getD 0 = z := ⟨_, rfl⟩
      rw [hz] at hcx
      clear hz
      have HSET : Hid (∀ x, (wr.setCell ⟨g, k, none⟩ (.int .u8 x)).heap[g]? = some (.cells (byts (L.set k x)).toArray 5 (0, 0))) := hset
      clear hset
      go_wp2
      go_roundw
      case rel => exact ⟨k + 1, _, by omega, by go_num, by rw [List.length_set]; exact HLL, HSET.out _, hgr.trans (grown_setCell wr g k _)⟩
      case measure => simp [intOf]; omega
    · obtain rfl : k = len + 2 := by omega
      go_wp2
      go_ret
      exact ⟨rfl, hgr⟩
end Go.Proofs.Ytcfjkcfmoooccaa
