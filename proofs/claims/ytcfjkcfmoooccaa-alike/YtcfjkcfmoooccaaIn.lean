import Derived.Test.YtcfjkcfmoooccaaRoom
import Derived.Test.YtcfjkcfmoooccaaRef
import Derived.ProofKit
import Derived.OpenShut
namespace Go.Proofs.Ytcfjkcfmoooccaa
open Go.RowKit Go.ChangeShapes Go.WideShapes Go.ChangeAt
set_option linter.unusedVariables false

/-- A slice of integers that came in: nil, or a row of 'cap' cells. -/
def IsRow (k : IntKind) (w : World) (a : Option Addr) (len cap : Nat) (zs : List Int) : Prop :=
  (a = none ∧ len = 0 ∧ cap = 0 ∧ zs = []) ∨
  ∃ x, a = some x ∧ len ≤ cap ∧ cap ≤ maxLen ∧ zs.length = cap ∧ (∀ i, i < zs.length → w.cell? (x.add i) = some (.int k (zs.getD i 0))) ∧ ∀ n ∈ zs, (Lit.int k n).wf = true

theorem IsRow.row {k : IntKind} {w : World} {a : Option Addr} {len cap : Nat} {zs : List Int} (h : IsRow k w a len cap zs) : Row k 0 w.heap.size w (.slice a len cap) (zs.take len) ∧ (zs.take len).length = len := by
  rcases h with ⟨rfl, rfl, rfl, rfl⟩ | ⟨x, rfl, hl, hm, hz, hcell, hwz⟩
  · exact ⟨.inl ⟨_, _, rfl, rfl⟩, rfl⟩
  · have hlen : (zs.take len).length = len := by rw [List.length_take]; omega
    refine ⟨?_, hlen⟩
    by_cases h0 : len = 0
    · subst h0
      exact .inl ⟨_, _, rfl, rfl⟩
    · obtain ⟨b, off, spot⟩ := x
      have hc := hcell 0 (by omega)
      have hspot : spot = none := by simpa [Addr.add] using World.cell?_spot hc
      subst hspot
      have hb : b < w.heap.size := World.block_lt_of_cell? _ _ hc
      refine .inr ⟨b, off, cap, by rw [hlen], fun e => h0 (by rw [← hlen, e]; rfl), by omega, hm, Nat.zero_le _, hb, fun j hj => ?_⟩
      have := hcell j (by omega)
      rw [Addr.add_lit] at this
      rw [this, List.getElem?_take, if_pos (by omega)]
      simp

theorem IsRow.bytes {w : World} {a : Option Addr} {len cap : Nat} {zs : List Int} (h : IsRow .u8 w a len cap zs) : ∀ j : Nat, 0 ≤ (zs.take len)[j]?.getD 0 ∧ (zs.take len)[j]?.getD 0 ≤ 255 := by
  have hw : ∀ n ∈ zs.take len, (Lit.int .u8 n).wf = true := by
    intro n hn
    rcases h with ⟨_, _, _, rfl⟩ | ⟨x, _, _, _, _, _, hwz⟩
    · simp at hn
    · exact hwz n (List.mem_of_mem_take hn)
  exact range_u8 hw

def ints (cs : List Nat) : List Int := cs.map fun c : Nat => (c : Int)
theorem ints_length (cs : List Nat) : (ints cs).length = cs.length := List.length_map _

theorem own_row {w : World} {base : Nat} {v : Value} {cs : List Nat} (h : w.ownsRow base 3 1 v cs.length (vals cs)) : Row .i64 base w.heap.size w v (ints cs) := by
  by_cases h0 : cs = []
  · subst h0
    rcases h.2 with ⟨rfl, _⟩ | ⟨g, cap, cur, rfl, _⟩
    · exact .inl ⟨_, _, rfl, rfl⟩
    · exact .inl ⟨_, _, rfl, rfl⟩
  · have hne : ints cs ≠ [] := fun e => h0 (List.map_eq_nil_iff.1 e)
    rcases h.2 with ⟨_, hn⟩ | ⟨g, cap, cur, rfl, hb, hg, hnc, hcm, hcs, htake⟩
    · exact absurd (List.length_eq_zero_iff.1 hn) h0
    · refine .inr ⟨g, 0, cap, by rw [ints_length], hne, by rw [ints_length]; exact hnc, hcm, hb, (Array.getElem?_eq_some_iff.1 hg).1, fun j hj => ?_⟩
      rw [ints_length] at hj
      rw [Nat.zero_add, h.cellAt j (by omega)]
      simp [vals, ints, hj]

theorem Row.grown {k : IntKind} {lo hi : Nat} {A B : World} {row : Option Nat} {sv : Value} {zs : List Int} (h : Row k lo hi A sv zs) (hg : A.grownBy B row) (hh : hi ≤ A.heap.size) (hne : ∀ j, row = some j → j < lo ∨ hi ≤ j) : Row k lo hi B sv zs := by
  rcases h with h | ⟨b, off, cap, h1, h2, h3, h4, h5, h6, h7⟩
  · exact .inl h
  · exact .inr ⟨b, off, cap, h1, h2, h3, h4, h5, h6, fun j hj => hg.cell (h7 j hj) (fun e => by have := hne b e.symm; omega)⟩

end Go.Proofs.Ytcfjkcfmoooccaa
