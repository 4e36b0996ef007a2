import Derived.Test.YtcfjkcfmoooccaaIn
import Derived.Laws.AppendOwnNone
import Derived.WalkSmall
namespace Go.Proofs.Ytcfjkcfmoooccaa
open Go.RowKit Go.ChangeShapes Go.WideShapes Go.ChangeAt
set_option linter.unusedVariables false

theorem IsRow.nil {k : IntKind} {w : World} {a : Option Addr} {len cap : Nat} {zs : List Int} (h : IsRow k w a len cap zs) : a = none → len = 0 ∧ cap = 0 := by
  rintro rfl
  rcases h with ⟨_, h1, h2, _⟩ | ⟨x, h1, _⟩
  · exact ⟨h1, h2⟩
  · cases h1

/-- What is put behind: whatever slice it comes from. -/
theorem append_either {P : Program} {w : World} {ops : Array Oper} {rest : List Oper} {o : Oper} {a : Act} {Q : Exit → Act → World → Prop} (hgd : o.guard = none) (s x : Operand) (t : TypeId)
    (ho : o.op = .call { callee := .builtin .append, args := #[s, x], argTypes := #[t, t] })
    (base : Nat) (e : TypeId) (i : TypeInfo) (z : Value) (bytes : Nat) (ht : P.underlying t = some (.slice e)) (hi : P.info? e = some i) (hz : i.zero = some z)
    (hsize : i.size = 1) (hby : i.bytes = bytes) (hzs : z.cells.size = 1)
    (v : Value) (n : Nat) (xs : List Value) (hs : a.eval s = v) (hown : w.ownsRow base e 1 v n xs)
    (ad : Option Addr) (m c : Nat) (news : List Value) (hx : a.eval x = .slice ad m c) (hnil : ad = none → m = 0 ∧ c = 0) (hl : news.length = m) (hnews : ∀ y, ad = some y → ∀ j u, news[j]? = some u → w.cell? (y.add j) = some u) (h1 : ∀ u ∈ news, u.oneCell' = true)
    (h63 : n + m ≤ maxLen) (hbytes : (n + m) * bytes ≤ 140737488355328) (hbase : base ≤ w.heap.size)
    (h : ∀ v' w', w'.ownsRow base e 1 v' (n + m) (xs ++ news) → w.grownBy w' v.ownBlock → wpList P ops Q rest (a.put o.dst v') w') : wpList P ops Q (o :: rest) a w := by
  cases ad with
  | none =>
    obtain ⟨rfl, rfl⟩ := hnil rfl
    obtain rfl : news = [] := List.length_eq_zero_iff.1 hl
    exact wpList_append_own_none hgd s x t ho base e i 1 ht hi v n xs hs hown hx (h v w (by simpa using hown) (World.grownBy.refl _ _))
  | some y =>
    exact wpList_append_own w hgd s x t ho base e i z 1 bytes ht hi hz hsize hby hzs (by omega) v n xs hs hown y m c news hx (by omega) (hnews y rfl) h1 h63 hbytes hbase (fun v' w' h2 h3 _ => h v' w' h2 h3)

theorem Row.news {lo hi : Nat} {w : World} {a : Option Addr} {len cap : Nat} {zs : List Int} (h : Row .u8 lo hi w (.slice a len cap) zs) : ∀ y, a = some y → ∀ j u, (byts zs)[j]? = some u → w.cell? (y.add j) = some u := by
  rintro y rfl j u hj
  obtain ⟨hlt, rfl⟩ := byts_at hj
  rcases h with ⟨_, _, _, rfl⟩ | ⟨b, off, cap', e, _, _, _, _, _, hc⟩
  · simp at hlt
  · simp only [Value.slice.injEq, Option.some.injEq] at e
    obtain ⟨rfl, _, _⟩ := e
    rw [Addr.add_lit]
    exact hc j hlt

theorem own_row8 {w : World} {base n : Nat} {v : Value} {zs : List Int} (hn : n = zs.length) (h : w.ownsRow base 5 1 v n (byts zs)) : Row .u8 base w.heap.size w v zs := by
  subst hn
  by_cases h0 : zs = []
  · subst h0
    rcases h.2 with ⟨rfl, _⟩ | ⟨g, cap, cur, rfl, _⟩
    · exact .inl ⟨_, _, rfl, rfl⟩
    · exact .inl ⟨_, _, rfl, rfl⟩
  · rcases h.2 with ⟨_, hn⟩ | ⟨g, cap, cur, rfl, hb, hg, hnc, hcm, hcs, htake⟩
    · exact absurd (List.length_eq_zero_iff.1 hn) h0
    · refine .inr ⟨g, 0, cap, rfl, h0, hnc, hcm, hb, (Array.getElem?_eq_some_iff.1 hg).1, fun j hj => ?_⟩
      rw [Nat.zero_add, h.cellAt j (by omega)]
      simp [byts, hj]

/-- The rest of a row. -/
theorem Row.from {k : IntKind} {lo hi : Nat} {w : World} {b off len cap : Nat} {zs : List Int} (h : Row k lo hi w (.slice (some ⟨b, off, none⟩) len cap) zs) (hl : zs.length = len) (c : Nat) (hc : c < len) : Row k lo hi w (.slice (some ⟨b, off + c, none⟩) (len - c) (cap - c)) (zs.drop c) := by
  rcases h with ⟨_, _, e, rfl⟩ | ⟨b', off', cap', e, h2, h3, h4, h5, h6, h7⟩
  · simp at hl; omega
  · simp only [Value.slice.injEq, Option.some.injEq, Addr.mk.injEq, and_true] at e
    obtain ⟨⟨rfl, rfl⟩, _, rfl⟩ := e
    refine .inr ⟨b, off + c, cap - c, by rw [List.length_drop, hl], fun e => by have := congrArg List.length e; rw [List.length_drop] at this; simp at this; omega, by rw [List.length_drop]; omega, by omega, h5, h6, fun j hj => ?_⟩
    rw [List.length_drop] at hj
    rw [getD_drop, Nat.add_assoc]
    exact h7 (c + j) (by omega)

/-- The beginning of a row. -/
theorem Row.upto {k : IntKind} {lo hi : Nat} {w : World} {b off len cap : Nat} {zs : List Int} (h : Row k lo hi w (.slice (some ⟨b, off, none⟩) len cap) zs) (hl : zs.length = len) (c : Nat) (hc : c ≤ len) : Row k lo hi w (.slice (some ⟨b, off, none⟩) c cap) (zs.take c) := by
  by_cases h0 : c = 0
  · subst h0; exact .inl ⟨_, _, rfl, rfl⟩
  · rcases h with ⟨_, _, e, rfl⟩ | ⟨b', off', cap', e, h2, h3, h4, h5, h6, h7⟩
    · simp at hl; omega
    · simp only [Value.slice.injEq, Option.some.injEq, Addr.mk.injEq, and_true] at e
      obtain ⟨⟨rfl, rfl⟩, _, rfl⟩ := e
      have ht : (zs.take c).length = c := by rw [List.length_take]; omega
      refine .inr ⟨b, off, cap, by rw [ht], fun e => by rw [e] at ht; simp at ht; omega, by omega, h4, h5, h6, fun j hj => ?_⟩
      rw [ht] at hj
      rw [List.getElem?_take, if_pos hj]
      exact h7 j (by omega)

theorem ints_drop (cs : List Nat) (c : Nat) : (ints cs).drop c = ints (cs.drop c) := by simp [ints]
theorem ints_take (cs : List Nat) (c : Nat) : (ints cs).take c = ints (cs.take c) := by simp [ints]

/-- What a slice that owns a row looks like. -/
theorem own_form {w : World} {base : Nat} {v : Value} {e : TypeId} {n : Nat} {xs : List Value} (h : w.ownsRow base e 1 v n xs) (hn : 1 ≤ n) : ∃ g cap, v = .slice (some ⟨g, 0, none⟩) n cap ∧ n ≤ cap ∧ cap ≤ maxLen := by
  rcases h.2 with ⟨_, h0⟩ | ⟨g, cap, cur, rfl, hb, hg, hnc, hcm, _⟩
  · omega
  · exact ⟨g, cap, rfl, hnc, hcm⟩

theorem take_sum_le : ∀ (cs : List Nat) (k : Nat), (cs.take k).sum ≤ cs.sum
  | [], k => by simp
  | c :: cs, 0 => by simp
  | c :: cs, k + 1 => by
    have := take_sum_le cs k
    simp only [List.take_succ_cons, List.sum_cons]
    omega

theorem take_sum_succ : ∀ (cs : List Nat) (k : Nat), k < cs.length → (cs.take (k + 1)).sum = (cs.take k).sum + cs[k]?.getD 0
  | [], k, h => by simp at h
  | c :: cs, 0, _ => by simp
  | c :: cs, k + 1, h => by
    have := take_sum_succ cs k (by simpa using h)
    simp only [List.take_succ_cons, List.sum_cons]
    rw [this]
    simp
    omega

end Go.Proofs.Ytcfjkcfmoooccaa
