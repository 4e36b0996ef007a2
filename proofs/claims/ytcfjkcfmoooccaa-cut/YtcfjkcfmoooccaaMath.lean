/-
  Plain mathematics of cutting: lists and integers. It names no program.
-/
import Derived.Laws.BitsAllLaws
namespace Go.Proofs.Ytcfjkcfmoooccaa
open Go

/-- G of the document, in numbers of 32 bits. -/
def gG (b : Int) : Int :=
  bits BinOp.xor IntKind.u32
    (bits BinOp.xor IntKind.u32 ((b + 1) * 2654435769 % 4294967296) ((b + 1) * 2654435769 % 4294967296 / 65536) * 2246822507 % 4294967296)
    (bits BinOp.xor IntKind.u32 ((b + 1) * 2654435769 % 4294967296) ((b + 1) * 2654435769 % 4294967296 / 65536) * 2246822507 % 4294967296 / 8192)

/-- The number behind one byte more. -/
def stepH (h b : Int) : Int := (h * 2 + gG b) % 4294967296

theorem stepH_bd (h b : Int) : 0 ≤ stepH h b ∧ stepH h b < 4294967296 := by unfold stepH; omega

theorem and255 (h : Int) (h0 : 0 ≤ h) (h1 : h < 4294967296) : bits BinOp.and IntKind.u32 h 255 = h % 256 := by
  rw [u32_and h 255 h0 h1 (by omega) (by omega)]
  have e : (255 : Int).toNat = 2 ^ 8 - 1 := rfl
  rw [e, Nat.and_two_pow_sub_one_eq_mod]
  omega

theorem and15 (h : Int) (h0 : 0 ≤ h) (h1 : h < 4294967296) : bits BinOp.and IntKind.u32 h 15 = h % 16 := by
  rw [u32_and h 15 h0 h1 (by omega) (by omega)]
  have e : (15 : Int).toNat = 2 ^ 4 - 1 := rfl
  rw [e, Nat.and_two_pow_sub_one_eq_mod]
  omega

/-- Does a chunk end behind its n-th byte, where the number is h? -/
def endB (n : Nat) (h : Int) : Bool :=
  if n < 16 then false else if n < 64 then decide (h % 256 = 0) else if n < 256 then decide (h % 16 = 0) else true

theorem endB_small {n : Nat} {h : Int} (hn : n < 16) : endB n h = false := by simp [endB, hn]
theorem endB_large {n : Nat} {h : Int} (hn : 256 ≤ n) : endB n h = true := by
  unfold endB
  rw [if_neg (by omega), if_neg (by omega), if_neg (by omega)]

/-- The length of a chunk of which n bytes are behind. -/
def scan : Nat → Int → List Int → Nat
  | n, _, [] => n
  | n, h, b :: r => if endB (n + 1) (stepH h b) = true then n + 1 else scan (n + 1) (stepH h b) r

/-- The lengths of all chunks, n bytes of the first one being behind. -/
def cutsFrom : Nat → Int → List Int → List Nat
  | _, _, [] => []
  | n, h, b :: r => if r = [] ∨ endB (n + 1) (stepH h b) = true then (n + 1) :: cutsFrom 0 0 r else cutsFrom (n + 1) (stepH h b) r

def cuts (zs : List Int) : List Nat := cutsFrom 0 0 zs

theorem scan_ge : ∀ (l : List Int) (n : Nat) (h : Int), n ≤ scan n h l
  | [], n, h => by simp [scan]
  | b :: r, n, h => by
    unfold scan
    split
    · omega
    · have := scan_ge r (n + 1) (stepH h b)
      omega

theorem scan_le : ∀ (l : List Int) (n : Nat) (h : Int), scan n h l ≤ n + l.length
  | [], n, h => by simp [scan]
  | b :: r, n, h => by
    unfold scan
    split
    · simp
    · have := scan_le r (n + 1) (stepH h b)
      simp only [List.length_cons]
      omega

theorem scan_pos (b : Int) (r : List Int) (n : Nat) (h : Int) : n + 1 ≤ scan n h (b :: r) := by
  unfold scan
  split
  · omega
  · exact scan_ge r (n + 1) _

theorem scan_256 : ∀ (l : List Int) (n : Nat) (h : Int), n ≤ 255 → scan n h l ≤ 256
  | [], n, h, hn => by simp [scan]; omega
  | b :: r, n, h, hn => by
    unfold scan
    split
    · omega
    · rename_i hc
      by_cases h255 : n = 255
      · subst h255
        exact absurd (endB_large (by omega)) hc
      · exact scan_256 r (n + 1) _ (by omega)

theorem scan_16 : ∀ (l : List Int) (n : Nat) (h : Int), scan n h l < n + l.length → 16 ≤ scan n h l
  | [], n, h, hn => by simp [scan] at hn
  | b :: r, n, h, hn => by
    unfold scan at hn ⊢
    split
    · rename_i hc
      by_cases h16 : n + 1 < 16
      · rw [endB_small h16] at hc; cases hc
      · omega
    · rename_i hc
      rw [if_neg hc] at hn
      simp only [List.length_cons] at hn
      exact scan_16 r (n + 1) _ (by omega)

theorem cutsFrom_cons : ∀ (l : List Int) (n : Nat) (h : Int), l ≠ [] → cutsFrom n h l = scan n h l :: cuts (l.drop (scan n h l - n))
  | [], _, _, hl => absurd rfl hl
  | b :: r, n, h, _ => by
    unfold cutsFrom scan
    by_cases he : endB (n + 1) (stepH h b) = true
    · rw [if_pos (.inr he), if_pos he]
      have : n + 1 - n = 1 := by omega
      rw [this]; rfl
    · rw [if_neg he]
      by_cases hr : r = []
      · subst hr
        rw [if_pos (.inl rfl)]
        have : scan (n + 1) (stepH h b) [] = n + 1 := rfl
        rw [this]
        have : n + 1 - n = 1 := by omega
        rw [this]; rfl
      · rw [if_neg (by rintro (h1 | h1); exact hr h1; exact he h1)]
        rw [cutsFrom_cons r (n + 1) (stepH h b) hr]
        have h1 := scan_ge r (n + 1) (stepH h b)
        have : scan (n + 1) (stepH h b) r - n = (scan (n + 1) (stepH h b) r - (n + 1)) + 1 := by omega
        rw [this]; rfl

theorem cuts_nil : cuts [] = [] := rfl
theorem cuts_cons {l : List Int} (hl : l ≠ []) : cuts l = scan 0 0 l :: cuts (l.drop (scan 0 0 l)) := by
  have := cutsFrom_cons l 0 0 hl
  simpa [cuts] using this

theorem cuts_ne {l : List Int} (hl : l ≠ []) : cuts l ≠ [] := by rw [cuts_cons hl]; simp

theorem cutsFrom_ne {l : List Int} (n : Nat) (h : Int) (hl : l ≠ []) : cutsFrom n h l ≠ [] := by rw [cutsFrom_cons l n h hl]; simp

/-- The step of the document's own loop. -/
theorem cutsFrom_step (zs : List Int) (k n : Nat) (h : Int) (hk : k < zs.length) :
    cutsFrom n h (zs.drop k) = if k + 1 = zs.length ∨ endB (n + 1) (stepH h (zs[k]?.getD 0)) = true then (n + 1) :: cutsFrom 0 0 (zs.drop (k + 1)) else cutsFrom (n + 1) (stepH h (zs[k]?.getD 0)) (zs.drop (k + 1)) := by
  rw [List.drop_eq_getElem_cons hk]
  have e : zs[k]?.getD 0 = zs[k] := by simp [hk]
  rw [e]
  have e2 : (zs.drop (k + 1) = []) ↔ (k + 1 = zs.length) := by
    rw [List.drop_eq_nil_iff]; omega
  conv => lhs; unfold cutsFrom
  by_cases hc : k + 1 = zs.length ∨ endB (n + 1) (stepH h zs[k]) = true
  · rw [if_pos hc, if_pos (hc.imp e2.2 id)]
  · rw [if_neg hc, if_neg (fun x => hc (x.imp e2.1 id))]

theorem cuts_step_end (zs : List Int) (pre : List Nat) (k n : Nat) (h : Int) (hk : k < zs.length) (hp : cuts zs = pre ++ cutsFrom n h (zs.drop k))
    (hc : k + 1 = zs.length ∨ endB (n + 1) (stepH h (zs[k]?.getD 0)) = true) : cuts zs = (pre ++ [n + 1]) ++ cutsFrom 0 0 (zs.drop (k + 1)) := by
  rw [hp, cutsFrom_step zs k n h hk, if_pos hc]; simp

theorem cuts_step_on (zs : List Int) (pre : List Nat) (k n : Nat) (h : Int) (hk : k < zs.length) (hp : cuts zs = pre ++ cutsFrom n h (zs.drop k))
    (hc : ¬ (k + 1 = zs.length ∨ endB (n + 1) (stepH h (zs[k]?.getD 0)) = true)) : cuts zs = pre ++ cutsFrom (n + 1) (stepH h (zs[k]?.getD 0)) (zs.drop (k + 1)) := by
  rw [hp, cutsFrom_step zs k n h hk, if_neg hc]

/-- No more chunks than bytes. -/
theorem cutsFrom_length_le : ∀ (l : List Int) (n : Nat) (h : Int), (cutsFrom n h l).length ≤ l.length
  | [], _, _ => by simp [cutsFrom]
  | b :: r, n, h => by
    unfold cutsFrom
    split
    · have := cutsFrom_length_le r 0 0
      simp only [List.length_cons]; omega
    · have := cutsFrom_length_le r (n + 1) (stepH h b)
      simp only [List.length_cons]; omega

theorem cuts_length_le (l : List Int) : (cuts l).length ≤ l.length := cutsFrom_length_le l 0 0

/-- Each chunk has a byte at least, and no more than 256; all but the last have 16 at least; together they are all of it. -/
theorem cuts_all : ∀ (m : Nat) (l : List Int), l.length ≤ m → (∀ c ∈ cuts l, 1 ≤ c ∧ c ≤ 256) ∧ (∀ i, i + 1 < (cuts l).length → 16 ≤ (cuts l)[i]?.getD 0) ∧ (cuts l).sum = l.length := by
  intro m
  induction m with
  | zero =>
    intro l hl
    obtain rfl : l = [] := List.length_eq_zero_iff.1 (by omega)
    simp [cuts_nil]
  | succ m ih =>
    intro l hl
    by_cases hn : l = []
    · subst hn; simp [cuts_nil]
    · rw [cuts_cons hn]
      obtain ⟨b, r, rfl⟩ := List.exists_cons_of_ne_nil hn
      have h1 := scan_pos b r 0 0
      have h2 := scan_le (b :: r) 0 0
      have h3 := scan_256 (b :: r) 0 0 (by omega)
      have hd : ((b :: r).drop (scan 0 0 (b :: r))).length ≤ m := by rw [List.length_drop]; omega
      obtain ⟨i1, i2, i3⟩ := ih _ hd
      refine ⟨?_, ?_, ?_⟩
      · intro c hc
        rcases List.mem_cons.1 hc with rfl | hc
        · omega
        · exact i1 c hc
      · intro i hi
        cases i with
        | zero =>
          simp only [List.length_cons] at hi
          have hlt : scan 0 0 (b :: r) < 0 + (b :: r).length := by
            by_cases he : scan 0 0 (b :: r) = (b :: r).length
            · rw [he, List.drop_length, cuts_nil] at hi
              simp at hi
            · omega
          simpa using scan_16 (b :: r) 0 0 hlt
        | succ i =>
          simp only [List.length_cons] at hi
          simpa using i2 i (by omega)
      · rw [List.sum_cons, i3, List.length_drop]; omega

/-- What is put behind turns no chunk but the last. -/
theorem cutsFrom_append : ∀ (l more : List Int) (n : Nat) (h : Int), ∃ t, cutsFrom n h (l ++ more) = (cutsFrom n h l).dropLast ++ t
  | [], more, n, h => ⟨cutsFrom n h more, by simp [cutsFrom]⟩
  | b :: r, more, n, h => by
    by_cases hr : r = []
    · subst hr
      exact ⟨cutsFrom n h ([b] ++ more), by simp [cutsFrom]⟩
    · by_cases he : endB (n + 1) (stepH h b) = true
      · obtain ⟨t, ht⟩ := cutsFrom_append r more 0 0
        refine ⟨t, ?_⟩
        rw [List.cons_append]
        unfold cutsFrom
        rw [if_pos (.inr he), if_pos (.inr he), List.dropLast_cons_of_ne_nil (cutsFrom_ne 0 0 hr), ht, List.cons_append]
      · obtain ⟨t, ht⟩ := cutsFrom_append r more (n + 1) (stepH h b)
        refine ⟨t, ?_⟩
        rw [List.cons_append]
        unfold cutsFrom
        rw [if_neg (by rintro (h1 | h1); exact hr (List.append_eq_nil_iff.1 h1).1; exact he h1), if_neg (by rintro (h1 | h1); exact hr h1; exact he h1), ht]

theorem cuts_append_take (l more : List Int) : (cuts (l ++ more)).take ((cuts l).length - 1) = (cuts l).take ((cuts l).length - 1) ∧ (cuts l).length - 1 ≤ (cuts (l ++ more)).length := by
  obtain ⟨t, ht⟩ := cutsFrom_append l more 0 0
  have e : cuts (l ++ more) = (cuts l).dropLast ++ t := ht
  rw [e]
  have hlen : (cuts l).dropLast.length = (cuts l).length - 1 := List.length_dropLast
  refine ⟨?_, ?_⟩
  · rw [← hlen, List.take_left', hlen, List.dropLast_eq_take]
    rfl
  · rw [List.length_append]; omega

/-- Where chunks lie: each with the place at which it begins. -/
def places : Nat → List Nat → List (Nat × Nat)
  | _, [] => []
  | p, c :: cs => (p, c) :: places (p + c) cs

theorem places_snd : ∀ (p : Nat) (cs : List Nat), (places p cs).map (·.2) = cs
  | _, [] => rfl
  | p, c :: cs => by simp [places, places_snd (p + c) cs]

theorem places_length : ∀ (p : Nat) (cs : List Nat), (places p cs).length = cs.length
  | _, [] => rfl
  | p, c :: cs => by simp [places, places_length (p + c) cs]

end Go.Proofs.Ytcfjkcfmoooccaa
