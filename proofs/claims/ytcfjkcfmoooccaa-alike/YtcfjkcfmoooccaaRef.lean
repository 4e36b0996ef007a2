import Derived.Test.YtcfjkcfmoooccaaCuts
namespace Go.Proofs.Ytcfjkcfmoooccaa
open Go.RowKit
set_option linter.unusedVariables false

theorem eb_a {n : Nat} {H z : Int} (h1 : 16 ≤ (n : Int) + 1) (h2 : (n : Int) + 1 < 64) (h3 : ((H * 2 + gG z) % 256 == 0) = true) : endB (n + 1) (stepH H z) = true := by
  unfold endB stepH
  rw [if_neg (by omega), if_pos (by omega)]
  simp at h3 ⊢
  omega
theorem eb_b {n : Nat} {H z : Int} (h1 : 64 ≤ (n : Int) + 1) (h3 : ((H * 2 + gG z) % 16 == 0) = true) : endB (n + 1) (stepH H z) = true := by
  by_cases h : n + 1 < 256
  · unfold endB stepH
    rw [if_neg (by omega), if_neg (by omega), if_pos h]
    simp at h3 ⊢
    omega
  · exact endB_large (by omega)
theorem ends_or {k len n : Nat} {H z : Int} (h : ((k : Int) == (len : Int) - 1) = true ∨ ((n : Int) + 1 == 256) = true) : k + 1 = len ∨ endB (n + 1) (stepH H z) = true := by
  rcases h with h | h
  · simp at h; exact .inl (by omega)
  · simp at h; exact .inr (endB_large (by omega))
theorem on_a {k len n : Nat} {H z : Int} (h : ((k : Int) == (len : Int) - 1) = false ∧ ((n : Int) + 1 == 256) = false) (h2 : (n : Int) + 1 < 64) (h3 : ((H * 2 + gG z) % 256 == 0) = false) : ¬ (k + 1 = len ∨ endB (n + 1) (stepH H z) = true) := by
  obtain ⟨h, h'⟩ := h
  simp at h h'
  rintro (e | e)
  · omega
  · unfold endB stepH at e
    by_cases h16 : n + 1 < 16
    · rw [if_pos h16] at e; cases e
    · rw [if_neg h16, if_pos (by omega)] at e
      simp at e h3
      omega
theorem on_b {k len n : Nat} {H z : Int} (h : ((k : Int) == (len : Int) - 1) = false ∧ ((n : Int) + 1 == 256) = false) (h1 : 64 ≤ (n : Int) + 1) (hn : n ≤ 255) (h3 : ((H * 2 + gG z) % 16 == 0) = false) : ¬ (k + 1 = len ∨ endB (n + 1) (stepH H z) = true) := by
  obtain ⟨h, h'⟩ := h
  simp at h h'
  rintro (e | e)
  · omega
  · unfold endB stepH at e
    rw [if_neg (by omega), if_neg (by omega), if_pos (by omega)] at e
    simp at e h3
    omega
theorem on_c {k len n : Nat} {H z : Int} (h : ((k : Int) == (len : Int) - 1) = false ∧ ((n : Int) + 1 == 256) = false) (h1 : ¬ 16 ≤ (n : Int) + 1) : ¬ (k + 1 = len ∨ endB (n + 1) (stepH H z) = true) := by
  obtain ⟨h, h'⟩ := h
  simp at h h'
  rintro (e | e)
  · omega
  · rw [endB_small (by omega)] at e; cases e
theorem not_last {k len n : Nat} {H z : Int} (h : ¬ (k + 1 = len ∨ endB (n + 1) (stepH H z) = true)) (hn : n ≤ 255) : n + 1 ≤ 255 := by
  by_cases h256 : n = 255
  · subst h256; exact absurd (.inr (endB_large (by omega))) h
  · omega
theorem vals_snoc (pre : List Nat) (n : Nat) : vals (pre ++ [n + 1]) = vals pre ++ [.int .i64 ((n : Int) + 1)] := by simp [vals]

set_option maxRecDepth 100000 in
set_option maxHeartbeats 1000000 in
theorem ref_some (b off cap len : Nat) (zs : List Int) (w : World) (hl : zs.length = len) (hlen : len ≤ 70000) (hz : ∀ j : Nat, 0 ≤ zs[j]?.getD 0 ∧ zs[j]?.getD 0 ≤ 255) (hb : b < w.heap.size)
    (hc : ∀ j, j < len → w.cell? ⟨b, off + j, none⟩ = some (.int .u8 (zs[j]?.getD 0))) :
    Calls Try.prog 8 #[.slice (some ⟨b, off, none⟩) len cap] w fun e W' => ∃ v, e = .returned v ∧ W'.ownsRow w.heap.size 3 1 v (cuts zs).length (vals (cuts zs)) ∧ Below w.heap.size w W' := by
  have HL : Hid (zs.length = len) := hl
  clear hl
  have HC : Hid (∀ j, j < len → w.cell? ⟨b, off + j, none⟩ = some (.int .u8 (zs[j]?.getD 0))) := hc
  clear hc
  obtain ⟨i0, hi, hz0, hz1, hz2⟩ := info_parts info3
  go_enter Try.func8, Try.ntmps8
  go_wp2
  go_loopw [3, 4, 5, 6] (fun v h nn i wr => ∃ (k n : Nat) (H : Int) (pre : List Nat), k ≤ len ∧ n ≤ 255 ∧ pre.length ≤ k ∧ i = .int .i64 k ∧ nn = .int .i64 n ∧ h = .int .u32 H ∧ 0 ≤ H ∧ H < 4294967296 ∧ Hid (cuts zs = pre ++ cutsFrom n H (zs.drop k)) ∧ wr.ownsRow w.heap.size 3 1 v pre.length (vals pre) ∧ Below w.heap.size w wr)
    (fun _ _ _ i _ => len - (intOf i).toNat)
  case atStart => exact ⟨0, 0, 0, [], Nat.zero_le _, by omega, by simp, rfl, rfl, rfl, by omega, by omega, rfl, World.ownsRow_nil _ _ _ _, Below.refl _ _⟩
  case round =>
    obtain ⟨k, n, H, pre, hk, hn, hpl, rfl, rfl, rfl, hH0, hH1, HP, hown, hnx⟩ := hrel
    by_cases hlt : k < len
    · have hcx := (hnx.cell (p := ⟨b, off + k, none⟩) hb).trans (HC.out k hlt)
      have hbk := hz k
      obtain ⟨z, hzz⟩ : ∃ z, zs[k]?.getD 0 = z := ⟨_, rfl⟩
      have HZ : Hid (zs[k]?.getD 0 = z) := hzz
      rw [hzz] at hcx hbk
      clear hzz
      have hsb := stepH_bd H z
      have HH : Hid (stepH H z = (H * 2 + gG z) % 4294967296) := rfl
      obtain ⟨hzz0, hzz1⟩ := hbk
      have hsize := hnx.size
      go_wp2_with (first
        | (go_at_call 12; refine (gear_any _ _ hzz0 hzz1).mono ?_; rintro e w' ⟨rfl, rfl⟩)
        | (at_builtin; refine wpList_append_own _ rfl (.tmp 54) (.tmp 56) 24 rfl w.heap.size 3 i0 (.int .i64 0) 1 8 Try.underlying24 hi hz0 hz1 hz2 rfl (by decide) _ _ _ rfl (hown.alloc _) ⟨wr.heap.size, 0, none⟩ 1 1 [.int .i64 ((n : Int) + 1)] rfl rfl (cell_one_new _ _ _) (by intro u hu; simp at hu; subst hu; rfl) (by unfold maxLen; omega) (by omega) (by simp; omega) ?_; intro v1 w1 hown1 hgrow1 hnil1))
      all_goals
        first
        | (have hend : k + 1 = len ∨ endB (n + 1) (stepH H z) = true := by
            first
            | (left; omega)
            | exact .inr (eb_a (by assumption) (by assumption) (by assumption))
            | exact .inr (eb_b (by assumption) (by assumption))
            | exact ends_or (by assumption)
           go_roundw
           case rel =>
             refine ⟨k + 1, 0, 0, pre ++ [n + 1], by omega, by omega, by simp; omega, by first | go_num | (congr 1; omega), rfl, rfl, by omega, by omega, cuts_step_end zs pre k n H (by rw [HL.out]; exact hlt) HP.out (by rw [HZ.out, HL.out]; exact hend), ?_, (hnx.alloc (by omega) _).grown hgrow1 (by simp; omega) (fun j hj => (hown.lt j hj).1)⟩
             rw [vals_snoc]
             simpa using hown1
           case measure => simp [intOf]; omega)
        | (have hon : ¬ (k + 1 = len ∨ endB (n + 1) (stepH H z) = true) := by
            first
            | exact on_a (by assumption) (by assumption) (by assumption)
            | exact on_b (by assumption) (by assumption) hn (by assumption)
            | exact on_c (by assumption) (by assumption)
           go_roundw
           case rel =>
             exact ⟨k + 1, n + 1, stepH H z, pre, by omega, not_last hon hn, by omega, by go_num, by go_num, by rw [HH.out], hsb.1, hsb.2, (by have := cuts_step_on zs pre k n H (by rw [HL.out]; exact hlt) HP.out (by rw [HZ.out, HL.out]; exact hon); rw [HZ.out] at this; exact this), hown, hnx⟩
           case measure => simp [intOf]; omega)
    · obtain rfl : k = len := by omega
      go_wp2
      go_ret
      have hP := HP.out
      rw [List.drop_of_length_le (by rw [HL.out]; exact Nat.le_refl _)] at hP
      have e : cuts zs = pre := by simpa [cutsFrom] using hP
      rw [e]
      exact ⟨_, rfl, hown, hnx⟩

set_option maxRecDepth 100000 in
set_option maxHeartbeats 400000 in
theorem ref_none (a : Option Addr) (cap : Nat) (w : World) :
    Calls Try.prog 8 #[.slice a 0 cap] w fun e W' => ∃ v, e = .returned v ∧ W'.ownsRow w.heap.size 3 1 v (cuts []).length (vals (cuts [])) ∧ Below w.heap.size w W' := by
  go_enter Try.func8, Try.ntmps8
  go_wp2
  go_loopw [3, 4, 5, 6] (fun v h nn i wr => v = .slice none 0 0 ∧ i = .int .i64 0 ∧ wr = w) (fun _ _ _ _ _ => 0)
  case atStart => exact ⟨rfl, rfl, rfl⟩
  case round =>
    obtain ⟨rfl, rfl, rfl⟩ := hrel
    go_wp2
    go_ret
    exact ⟨_, rfl, World.ownsRow_nil _ _ _ _, Below.refl _ _⟩

/-- **The document's own answer**, at whatever slice of bytes. -/
theorem ref_any (sv : Value) (zs : List Int) (hlen : zs.length ≤ 70000) (hz : ∀ j : Nat, 0 ≤ zs[j]?.getD 0 ∧ zs[j]?.getD 0 ≤ 255) (w : World) (hB : Row .u8 0 w.heap.size w sv zs) :
    Calls Try.prog 8 #[sv] w fun e W' => ∃ v, e = .returned v ∧ W'.ownsRow w.heap.size 3 1 v (cuts zs).length (vals (cuts zs)) ∧ Below w.heap.size w W' := by
  rcases hB with ⟨a, cap, rfl, rfl⟩ | ⟨b, off, cap, rfl, h2, h3, h4, _, h6, h7⟩
  · exact ref_none a cap w
  · exact ref_some b off cap zs.length zs w rfl hlen hz h6 h7

end Go.Proofs.Ytcfjkcfmoooccaa
