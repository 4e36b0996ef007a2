import Derived.Test.YtcfjkcfmoooccaaAlikeIn
import Derived.Deep.QuietTactic
import Derived.BigQuiet
namespace Go.Proofs.Ytcfjkcfmoooccaa
open Go.RowKit
set_option linter.unusedVariables false

set_option maxRecDepth 100000 in
set_option maxHeartbeats 400000 in
theorem alike_big (a a' : Option Addr) (len len' cap cap' : Nat) (w : World) (h1 : len ≤ 9223372036854775807) (h2 : len' ≤ 140737488355328) (h3 : len ≤ 140737488355328) (hlen : 60000 < len + len') :
    Calls Try.prog 4 #[.slice a len cap, .slice a' len' cap'] w fun e w' => e = .returned (.bool true) ∧ Below w.heap.size w w' := by
  go_enter Try.func4, Try.ntmps4
  go_wp2
  go_ret
  exact ⟨rfl, Below.refl _ _⟩

set_option maxRecDepth 100000 in
set_option maxHeartbeats 1000000 in
theorem alike_some (b off len cap : Nat) (zs : List Int) (a' : Option Addr) (len' cap' : Nat) (ys : List Int) (w : World) (hl : zs.length = len) (hl' : ys.length = len') (hlen : len + len' ≤ 60000) (hpos : 1 ≤ len) (hcap : len ≤ cap) (hcm : cap ≤ maxLen)
    (hz : ∀ j : Nat, 0 ≤ zs[j]?.getD 0 ∧ zs[j]?.getD 0 ≤ 255) (hy : ∀ j : Nat, 0 ≤ ys[j]?.getD 0 ∧ ys[j]?.getD 0 ≤ 255) (hnil : a' = none → len' = 0 ∧ cap' = 0)
    (hA : Row .u8 0 w.heap.size w (.slice (some ⟨b, off, none⟩) len cap) zs) (hB : Row .u8 0 w.heap.size w (.slice a' len' cap') ys) :
    Calls Try.prog 4 #[.slice (some ⟨b, off, none⟩) len cap, .slice a' len' cap'] w fun e w' => e = .returned (.bool true) ∧ Below w.heap.size w w' := by
  have HL : Hid (zs.length = len) := hl
  have HL' : Hid (ys.length = len') := hl'
  have HA : Hid (Row .u8 0 w.heap.size w (.slice (some ⟨b, off, none⟩) len cap) zs) := hA
  have HB : Hid (Row .u8 0 w.heap.size w (.slice a' len' cap') ys) := hB
  have HZ : Hid (∀ j : Nat, 0 ≤ zs[j]?.getD 0 ∧ zs[j]?.getD 0 ≤ 255) := hz
  have HY : Hid (∀ j : Nat, 0 ≤ ys[j]?.getD 0 ∧ ys[j]?.getD 0 ≤ 255) := hy
  have HN : Hid (a' = none → len' = 0 ∧ cap' = 0) := hnil
  have hcu := cuts_any (.slice (some ⟨b, off, none⟩) len cap) zs (by omega) hz w hA
  have hne : zs ≠ [] := fun e => by rw [e] at hl; simp at hl; omega
  have hall := cuts_all zs.length zs (Nat.le_refl _)
  have hcl := cuts_length_le zs
  have hn1 : 1 ≤ (cuts zs).length := by have := cuts_ne hne; cases hcc : cuts zs with | nil => exact absurd hcc this | cons _ _ => simp
  rw [hl] at hall hcl
  obtain ⟨cs, hcs⟩ : ∃ cs, cuts zs = cs := ⟨_, rfl⟩
  have HCS : Hid (cuts zs = cs) := hcs
  rw [hcs] at hcu hall hcl hn1
  obtain ⟨n, hn⟩ : ∃ n, cs.length = n := ⟨_, rfl⟩
  have HN2 : Hid (cs.length = n) := hn
  rw [hn] at hcu hcl hn1 hall
  have HALL : Hid ((∀ c ∈ cs, 1 ≤ c ∧ c ≤ 256) ∧ (∀ i, i + 1 < n → 16 ≤ cs[i]?.getD 0) ∧ cs.sum = len) := hall
  clear hl hl' hA hB hz hy hnil hall hcs hn hne
  unfold maxLen at hcm
  go_enter Try.func4, Try.ntmps4
  go_wp2_with fail
  refine hcu.mono ?_
  clear hcu
  rintro e W1 ⟨v, rfl, hown1, hB1⟩
  obtain ⟨g, vc, rfl, hvc, hvm⟩ := own_form hown1 hn1
  unfold maxLen at hvm
  have hR1 : Row .i64 w.heap.size W1.heap.size W1 (.slice (some ⟨g, 0, none⟩) n vc) (ints cs) := own_row (by rw [HN2.out]; exact hown1)
  have HR1 : Hid (Row .i64 w.heap.size W1.heap.size W1 (.slice (some ⟨g, 0, none⟩) n vc) (ints cs)) := hR1
  have HC1 : Hid (∀ j, j < n → W1.cell? ⟨g, j, none⟩ = some (.int .i64 ((cs[j]?.getD 0 : Nat) : Int))) := by
    intro j hj
    rw [hown1.cellAt j (by omega)]
    have hj' : j < cs.length := by rw [HN2.out]; exact hj
    simp [vals, hj']
  clear hR1 hown1
  go_wp2_with fail
  go_loop [6, 7] (fun at' i => ∃ (k A : Nat), k ≤ n ∧ i = .int .i64 k ∧ at' = .int .i64 A ∧ Hid (A = (cs.take k).sum)) (fun _ i => n - (intOf i).toNat)
  case atStart => exact ⟨0, 0, Nat.zero_le _, rfl, rfl, by simp [Hid]⟩
  case round =>
    obtain ⟨k, A, hk, rfl, rfl, HS⟩ := hrel
    by_cases hlt : k < n
    · have hcx := HC1.out k hlt
      have hlt' : k < cs.length := by rw [HN2.out]; exact hlt
      have hmem := HALL.out.1 (cs[k]?.getD 0) (by simp [hlt'])
      have h16 := HALL.out.2.1 k
      have hsu := take_sum_succ cs k hlt'
      have hsl := take_sum_le cs (k + 1)
      rw [HALL.out.2.2] at hsl
      obtain ⟨c, hc⟩ : ∃ c, cs[k]?.getD 0 = c := ⟨_, rfl⟩
      rw [hc] at hcx hmem h16 hsu
      have hA60 : A + c ≤ 60000 := by have := HS.out; omega
      have HSU : Hid (A + c = (cs.take (k + 1)).sum) := by rw [hsu, HS.out]; rfl
      obtain ⟨hc1, hc2⟩ := hmem
      clear hc hsu hsl HS
      have h16' : 16 ≤ c ∨ n ≤ k + 1 := by
        by_cases hkn : k + 1 < n
        · exact .inl (h16 hkn)
        · exact .inr (by omega)
      clear h16
      rcases h16' with h16 | hlast
      · go_wp2
        go_round
        case rel => exact ⟨k + 1, A + c, by omega, by go_num, by go_num, HSU⟩
        case measure => simp [intOf]; omega
      · go_wp2
        · exfalso
          rcases (by assumption : ((c : Int) < 1 ∨ 256 < (c : Int)) ∨ (!((k : Int) == (n : Int) - 1)) = true) with (h | h) | h
          · omega
          · omega
          · simp at h; omega
        all_goals
          go_round
          case rel => exact ⟨k + 1, A + c, by omega, by go_num, by go_num, HSU⟩
          case measure => simp [intOf]; omega
    · obtain rfl : n = k := by omega
      have hA : len = A := by
        have := HS.out
        rw [List.take_of_length_le (by rw [HN2.out]; exact Nat.le_refl _), HALL.out.2.2] at this
        exact this.symm
      subst hA
      clear HS hlt hk
      by_cases h2 : 1 < n
      · have hc0 := HC1.out 0 (by omega)
        obtain ⟨c, hc⟩ : ∃ c, cs[0]?.getD 0 = c := ⟨_, rfl⟩
        rw [hc] at hc0
        have hcc : cs = c :: cuts (zs.drop c) ∧ 1 ≤ c ∧ c < len := by
          have hne : zs ≠ [] := fun e => by have := HL.out; rw [e] at this; simp at this; omega
          have e := cuts_cons hne
          rw [HCS.out] at e
          have e1 : scan 0 0 zs = c := by rw [e] at hc; simpa using hc
          rw [e1] at e
          have h1 := HALL.out.1 c (by rw [e]; simp)
          refine ⟨e, h1.1, ?_⟩
          have hs := HALL.out.2.2
          have hn := HN2.out
          rw [e] at hs hn
          simp only [List.sum_cons, List.length_cons] at hs hn
          have hne2 : cuts (zs.drop c) ≠ [] := fun e => by rw [e] at hn; simp at hn; omega
          obtain ⟨d, ds, hd⟩ := List.exists_cons_of_ne_nil hne2
          have h3 := HALL.out.1 d (by rw [e, hd]; simp)
          rw [hd] at hs
          simp only [List.sum_cons] at hs
          omega
        obtain ⟨hcc1, hcc2, hcc3⟩ := hcc
        have HCC : Hid (cs = c :: cuts (zs.drop c)) := hcc1
        clear hc hcc1
        have hRd := ((HA.out.below hB1 (Nat.le_refl _)).from HL.out c hcc3).mono (Nat.le_refl _) hB1.size
        have hcu2 := cuts_any _ (zs.drop c) (by rw [List.length_drop, HL.out]; omega) (by intro j; rw [getD_drop]; exact HZ.out _) W1 hRd
        clear hRd
        go_wp2_with fail
        refine hcu2.mono ?_
        clear hcu2
        rintro e W2 ⟨v2, rfl, hown2, hB2⟩
        have hR2 := own_row hown2
        have hs2 : ∃ x y z, v2 = .slice x y z := by
          rcases hR2 with ⟨x, y, rfl, _⟩ | ⟨_, _, _, rfl, _⟩
          · exact ⟨_, _, _, rfl⟩
          · exact ⟨_, _, _, rfl⟩
        obtain ⟨x2, y2, z2, rfl⟩ := hs2
        have hRl := ((HR1.out.below hB2 (Nat.le_refl _)).from (by rw [ints_length, HN2.out]) 1 (by omega))
        rw [ints_drop, HCC.out] at hRl
        have hnu := numbers_any _ _ _ _ _ _ _ W2 (by rw [ints_length]; have := cuts_length_le (zs.drop c); rw [List.length_drop, HL.out] at this; omega) hR2 hRl
        clear hR2 hRl hown2
        go_wp2_with fail
        refine hnu.mono ?_
        clear hnu
        rintro e W3 ⟨rfl, n3, rfl⟩
        have hBt : Below W1.heap.size W1 (W2.drewN n3) := below_drewN hB2 n3
        obtain ⟨Wt, hWt⟩ : ∃ Wt, W2.drewN n3 = Wt := ⟨_, rfl⟩
        rw [hWt] at hBt ⊢
        clear hWt hB2 HCC
        have hgn : W1.heap.size ≤ Wt.heap.size := hBt.size
        have hwt : w.heap.size ≤ Wt.heap.size := Nat.le_trans hB1.size hgn
        have HAt : Hid (Row .u8 0 w.heap.size Wt (.slice (some ⟨b, off, none⟩) len cap) zs) := (HA.out.below hB1 (Nat.le_refl _)).below hBt hB1.size
        have HBt : Hid (Row .u8 0 w.heap.size Wt (.slice a' len' cap') ys) := (HB.out.below hB1 (Nat.le_refl _)).below hBt hB1.size
        have HRt : Hid (Row .i64 w.heap.size W1.heap.size Wt (.slice (some ⟨g, 0, none⟩) n vc) (ints cs)) := HR1.out.below hBt (Nat.le_refl _)
        have hap1 : ∀ v4 W4, W4.ownsRow Wt.heap.size 5 1 v4 (0 + len) ([] ++ byts zs) → Wt.grownBy W4 (Value.slice none 0 0).ownBlock →
            Hid (W4.ownsRow Wt.heap.size 5 1 v4 len (byts zs)) ∧ Hid (Row .u8 0 w.heap.size W4 (.slice a' len' cap') ys) ∧ Wt.heap.size ≤ W4.heap.size ∧ Hid (Wt.grownBy W4 none) := fun v4 W4 h1 h2 =>
          ⟨by rw [Nat.zero_add, List.nil_append] at h1; exact h1, HBt.out.grown h2 hwt (fun j hj => by cases hj), h2.size, h2⟩
        have hap2 : ∀ v4 W4 v5 W5, Hid (W4.ownsRow Wt.heap.size 5 1 v4 len (byts zs)) → Wt.heap.size ≤ W4.heap.size → Hid (Wt.grownBy W4 none) → W5.ownsRow Wt.heap.size 5 1 v5 (len + len') (byts zs ++ byts ys) → W4.grownBy W5 v4.ownBlock →
            Hid (Row .u8 0 W5.heap.size W5 v5 (zs ++ ys)) ∧ Hid (Below Wt.heap.size Wt W5) := fun v4 W4 v5 W5 h0 h1 h2 h3 h4 => by
          have e : byts zs ++ byts ys = byts (zs ++ ys) := by simp [byts]
          rw [e] at h3
          refine ⟨(own_row8 (by rw [List.length_append, HL.out, HL'.out]) h3).mono (Nat.zero_le _) (Nat.le_refl _), ?_⟩
          exact ((Below.refl _ _).grown h2.out (Nat.le_refl _) (fun j hj => by cases hj)).grown h4 h1 (fun j hj => (h0.out.lt j hj).1)
        obtain ⟨i0, hi, hz0, hz1, hz2⟩ := info_parts info5
        go_wp2_with (first
          | (at_builtin; refine append_either rfl (.tmp 80) (.tmp 81) 22 rfl Wt.heap.size 5 i0 (.int .u8 0) 1 Try.underlying22 hi hz0 hz1 hz2 rfl (.slice none 0 0) 0 [] rfl (World.ownsRow_nil _ _ _ _) (some ⟨b, off, none⟩) len cap (byts zs) rfl (fun h => by cases h) ((byts_length zs).trans HL.out) HAt.out.news (byts_one zs) (by unfold maxLen; omega) (by omega) (Nat.le_refl _) ?_; intro v4 W4 hown4 hgr4; obtain ⟨HO4, HB4, hs4, HG4⟩ := hap1 v4 W4 hown4 hgr4; clear hown4 hgr4 hap1)
          | (at_builtin; refine append_either rfl (.tmp 83) (.tmp 84) 22 rfl Wt.heap.size 5 i0 (.int .u8 0) 1 Try.underlying22 hi hz0 hz1 hz2 rfl v4 len (byts zs) rfl HO4.out a' len' cap' (byts ys) rfl HN.out ((byts_length ys).trans HL'.out) HB4.out.news (byts_one ys) (by unfold maxLen; omega) (by omega) hs4 ?_; intro v5 W5 hown5 hgr5; obtain ⟨HR5, HB5⟩ := hap2 v4 W4 v5 W5 HO4 hs4 HG4 hown5 hgr5; clear hown5 hgr5 hap2))
        have hcu6 := cuts_any v5 (zs ++ ys) (by rw [List.length_append, HL.out, HL'.out]; omega) (by
          intro j
          rw [List.getElem?_append]
          split
          · exact HZ.out j
          · exact HY.out _) W5 HR5.out
        have hmt := cuts_append_take zs ys
        rw [HCS.out, HN2.out] at hmt
        have hml := cuts_length_le (zs ++ ys)
        rw [List.length_append, HL.out, HL'.out] at hml
        have hm1 : 1 ≤ (cuts (zs ++ ys)).length := by
          have hne : zs ++ ys ≠ [] := fun e => by have := congrArg List.length e; rw [List.length_append, HL.out] at this; simp at this; omega
          have := cuts_ne hne
          cases hcc : cuts (zs ++ ys) with
          | nil => exact absurd hcc this
          | cons _ _ => simp
        obtain ⟨ms, hms⟩ : ∃ ms, cuts (zs ++ ys) = ms := ⟨_, rfl⟩
        rw [hms] at hcu6 hmt hml hm1
        obtain ⟨nm, hnm⟩ : ∃ nm, ms.length = nm := ⟨_, rfl⟩
        have HNM : Hid (ms.length = nm) := hnm
        rw [hnm] at hcu6 hmt hml hm1
        obtain ⟨hmt1, hmt2⟩ := hmt
        have HMT : Hid (ms.take (n - 1) = cs.take (n - 1)) := hmt1
        clear hmt1 hms hnm HR5
        refine hcu6.mono ?_
        clear hcu6
        rintro e W6 ⟨v6, rfl, hown6, hB6⟩
        obtain ⟨g6, c6, rfl, hc6, hcm6⟩ := own_form hown6 hm1
        unfold maxLen at hcm6
        have hR6 : Row .i64 W5.heap.size W6.heap.size W6 (.slice (some ⟨g6, 0, none⟩) nm c6) (ints ms) := own_row (by rw [HNM.out]; exact hown6)
        have hR6' := hR6.upto (by rw [ints_length, HNM.out]) (n - 1) hmt2
        have hRl6 := (((HRt.out.below HB5.out hgn).below hB6 (Nat.le_trans hgn HB5.out.size))).upto (by rw [ints_length, HN2.out]) (n - 1) (by omega)
        rw [ints_take] at hR6' hRl6
        rw [HMT.out] at hR6'
        have hBe : Below w.heap.size w W6 := (hB1.trans (hBt.mono hB1.size)).trans ((HB5.out.mono hwt).trans (hB6.mono (Nat.le_trans hwt HB5.out.size)))
        have hnu6 : ∀ nq, Calls Try.prog 9 #[.slice (some ⟨g6, 0, none⟩) (n - 1) c6, .slice (some ⟨g, 0, none⟩) (n - 1) vc] (W6.drewN nq) fun e w' => e = .returned (.bool true) ∧ ∃ m, w' = (W6.drewN nq).drewN m := fun nq =>
          (numbers_any _ _ _ _ _ _ _ (W6.drewN nq) (by rw [ints_length, List.length_take, HN2.out]; omega) (hR6'.below (below_drewN (Below.refl _ _) nq) (Nat.le_refl _)) (hRl6.below (below_drewN (Below.refl W6.heap.size _) nq) (Nat.le_trans hgn (Nat.le_trans HB5.out.size hB6.size)))).mono fun e w' ⟨h1, m, h2⟩ => ⟨h1, m, h2.symm⟩
        have hi1 : ((n : Int) - 1).toNat = n - 1 := by omega
        clear hR6 hR6' hRl6 hown6
        go_wp2
        go_quiet ((go_at_call 9; exact Calls.quiet_of (hnu6 _)))
        go_wp2
        go_ret
        exact ⟨rfl, below_drewN hBe _⟩
      · have hBt : Below W1.heap.size W1 W1 := Below.refl _ _
        have hgn : W1.heap.size ≤ W1.heap.size := hBt.size
        have hwt : w.heap.size ≤ W1.heap.size := Nat.le_trans hB1.size hgn
        have HAt : Hid (Row .u8 0 w.heap.size W1 (.slice (some ⟨b, off, none⟩) len cap) zs) := (HA.out.below hB1 (Nat.le_refl _)).below hBt hB1.size
        have HBt : Hid (Row .u8 0 w.heap.size W1 (.slice a' len' cap') ys) := (HB.out.below hB1 (Nat.le_refl _)).below hBt hB1.size
        have HRt : Hid (Row .i64 w.heap.size W1.heap.size W1 (.slice (some ⟨g, 0, none⟩) n vc) (ints cs)) := HR1.out.below hBt (Nat.le_refl _)
        have hap1 : ∀ v4 W4, W4.ownsRow W1.heap.size 5 1 v4 (0 + len) ([] ++ byts zs) → W1.grownBy W4 (Value.slice none 0 0).ownBlock →
            Hid (W4.ownsRow W1.heap.size 5 1 v4 len (byts zs)) ∧ Hid (Row .u8 0 w.heap.size W4 (.slice a' len' cap') ys) ∧ W1.heap.size ≤ W4.heap.size ∧ Hid (W1.grownBy W4 none) := fun v4 W4 h1 h2 =>
          ⟨by rw [Nat.zero_add, List.nil_append] at h1; exact h1, HBt.out.grown h2 hwt (fun j hj => by cases hj), h2.size, h2⟩
        have hap2 : ∀ v4 W4 v5 W5, Hid (W4.ownsRow W1.heap.size 5 1 v4 len (byts zs)) → W1.heap.size ≤ W4.heap.size → Hid (W1.grownBy W4 none) → W5.ownsRow W1.heap.size 5 1 v5 (len + len') (byts zs ++ byts ys) → W4.grownBy W5 v4.ownBlock →
            Hid (Row .u8 0 W5.heap.size W5 v5 (zs ++ ys)) ∧ Hid (Below W1.heap.size W1 W5) := fun v4 W4 v5 W5 h0 h1 h2 h3 h4 => by
          have e : byts zs ++ byts ys = byts (zs ++ ys) := by simp [byts]
          rw [e] at h3
          refine ⟨(own_row8 (by rw [List.length_append, HL.out, HL'.out]) h3).mono (Nat.zero_le _) (Nat.le_refl _), ?_⟩
          exact ((Below.refl _ _).grown h2.out (Nat.le_refl _) (fun j hj => by cases hj)).grown h4 h1 (fun j hj => (h0.out.lt j hj).1)
        obtain ⟨i0, hi, hz0, hz1, hz2⟩ := info_parts info5
        go_wp2_with (first
          | (at_builtin; refine append_either rfl (.tmp 80) (.tmp 81) 22 rfl W1.heap.size 5 i0 (.int .u8 0) 1 Try.underlying22 hi hz0 hz1 hz2 rfl (.slice none 0 0) 0 [] rfl (World.ownsRow_nil _ _ _ _) (some ⟨b, off, none⟩) len cap (byts zs) rfl (fun h => by cases h) ((byts_length zs).trans HL.out) HAt.out.news (byts_one zs) (by unfold maxLen; omega) (by omega) (Nat.le_refl _) ?_; intro v4 W4 hown4 hgr4; obtain ⟨HO4, HB4, hs4, HG4⟩ := hap1 v4 W4 hown4 hgr4; clear hown4 hgr4 hap1)
          | (at_builtin; refine append_either rfl (.tmp 83) (.tmp 84) 22 rfl W1.heap.size 5 i0 (.int .u8 0) 1 Try.underlying22 hi hz0 hz1 hz2 rfl v4 len (byts zs) rfl HO4.out a' len' cap' (byts ys) rfl HN.out ((byts_length ys).trans HL'.out) HB4.out.news (byts_one ys) (by unfold maxLen; omega) (by omega) hs4 ?_; intro v5 W5 hown5 hgr5; obtain ⟨HR5, HB5⟩ := hap2 v4 W4 v5 W5 HO4 hs4 HG4 hown5 hgr5; clear hown5 hgr5 hap2))
        have hcu6 := cuts_any v5 (zs ++ ys) (by rw [List.length_append, HL.out, HL'.out]; omega) (by
          intro j
          rw [List.getElem?_append]
          split
          · exact HZ.out j
          · exact HY.out _) W5 HR5.out
        have hmt := cuts_append_take zs ys
        rw [HCS.out, HN2.out] at hmt
        have hml := cuts_length_le (zs ++ ys)
        rw [List.length_append, HL.out, HL'.out] at hml
        have hm1 : 1 ≤ (cuts (zs ++ ys)).length := by
          have hne : zs ++ ys ≠ [] := fun e => by have := congrArg List.length e; rw [List.length_append, HL.out] at this; simp at this; omega
          have := cuts_ne hne
          cases hcc : cuts (zs ++ ys) with
          | nil => exact absurd hcc this
          | cons _ _ => simp
        obtain ⟨ms, hms⟩ : ∃ ms, cuts (zs ++ ys) = ms := ⟨_, rfl⟩
        rw [hms] at hcu6 hmt hml hm1
        obtain ⟨nm, hnm⟩ : ∃ nm, ms.length = nm := ⟨_, rfl⟩
        have HNM : Hid (ms.length = nm) := hnm
        rw [hnm] at hcu6 hmt hml hm1
        obtain ⟨hmt1, hmt2⟩ := hmt
        have HMT : Hid (ms.take (n - 1) = cs.take (n - 1)) := hmt1
        clear hmt1 hms hnm HR5
        refine hcu6.mono ?_
        clear hcu6
        rintro e W6 ⟨v6, rfl, hown6, hB6⟩
        obtain ⟨g6, c6, rfl, hc6, hcm6⟩ := own_form hown6 hm1
        unfold maxLen at hcm6
        have hR6 : Row .i64 W5.heap.size W6.heap.size W6 (.slice (some ⟨g6, 0, none⟩) nm c6) (ints ms) := own_row (by rw [HNM.out]; exact hown6)
        have hR6' := hR6.upto (by rw [ints_length, HNM.out]) (n - 1) hmt2
        have hRl6 := (((HRt.out.below HB5.out hgn).below hB6 (Nat.le_trans hgn HB5.out.size))).upto (by rw [ints_length, HN2.out]) (n - 1) (by omega)
        rw [ints_take] at hR6' hRl6
        rw [HMT.out] at hR6'
        have hBe : Below w.heap.size w W6 := (hB1.trans (hBt.mono hB1.size)).trans ((HB5.out.mono hwt).trans (hB6.mono (Nat.le_trans hwt HB5.out.size)))
        have hnu6 : ∀ nq, Calls Try.prog 9 #[.slice (some ⟨g6, 0, none⟩) (n - 1) c6, .slice (some ⟨g, 0, none⟩) (n - 1) vc] (W6.drewN nq) fun e w' => e = .returned (.bool true) ∧ ∃ m, w' = (W6.drewN nq).drewN m := fun nq =>
          (numbers_any _ _ _ _ _ _ _ (W6.drewN nq) (by rw [ints_length, List.length_take, HN2.out]; omega) (hR6'.below (below_drewN (Below.refl _ _) nq) (Nat.le_refl _)) (hRl6.below (below_drewN (Below.refl W6.heap.size _) nq) (Nat.le_trans hgn (Nat.le_trans HB5.out.size hB6.size)))).mono fun e w' ⟨h1, m, h2⟩ => ⟨h1, m, h2.symm⟩
        have hi1 : ((n : Int) - 1).toNat = n - 1 := by omega
        clear hR6 hR6' hRl6 hown6
        go_wp2
        go_quiet ((go_at_call 9; exact Calls.quiet_of (hnu6 _)))
        go_wp2
        go_ret
        exact ⟨rfl, below_drewN hBe _⟩

set_option maxRecDepth 100000 in
set_option maxHeartbeats 1000000 in
theorem alike_none (a : Option Addr) (cap : Nat) (a' : Option Addr) (len' cap' : Nat) (ys : List Int) (w : World) (hl' : ys.length = len') (hlen : len' ≤ 60000) (hnil0 : a = none → cap = 0)
    (hy : ∀ j : Nat, 0 ≤ ys[j]?.getD 0 ∧ ys[j]?.getD 0 ≤ 255) (hnil : a' = none → len' = 0 ∧ cap' = 0)
    (hB : Row .u8 0 w.heap.size w (.slice a' len' cap') ys) :
    Calls Try.prog 4 #[.slice a 0 cap, .slice a' len' cap'] w fun e w' => e = .returned (.bool true) ∧ Below w.heap.size w w' := by
  have HL' : Hid (ys.length = len') := hl'
  have HB : Hid (Row .u8 0 w.heap.size w (.slice a' len' cap') ys) := hB
  have HY : Hid (∀ j : Nat, 0 ≤ ys[j]?.getD 0 ∧ ys[j]?.getD 0 ≤ 255) := hy
  have HN : Hid (a' = none → len' = 0 ∧ cap' = 0) := hnil
  have HN0 : Hid (a = none → cap = 0) := hnil0
  have hcu := cuts_any (.slice a 0 cap) [] (by simp) (by simp) w (.inl ⟨_, _, rfl, rfl⟩)
  clear hl' hB hy hnil hnil0
  go_enter Try.func4, Try.ntmps4
  go_wp2_with fail
  refine hcu.mono ?_
  clear hcu
  rintro e W1 ⟨v, rfl, hown1, hB1⟩
  have hf : ∃ vx vz, v = .slice vx 0 vz := by
    rcases hown1.2 with ⟨rfl, _⟩ | ⟨g, vc, cur, rfl, _⟩
    · exact ⟨_, _, rfl⟩
    · exact ⟨_, _, rfl⟩
  obtain ⟨vx, vz, rfl⟩ := hf
  clear hown1
  go_wp2_with fail
  go_loop [6, 7] (fun at' i => i = .int .i64 0 ∧ at' = .int .i64 0) (fun _ _ => 0)
  case atStart => exact ⟨rfl, rfl⟩
  case round =>
    obtain ⟨rfl, rfl⟩ := hrel
    have HB1 : Hid (Row .u8 0 w.heap.size W1 (.slice a' len' cap') ys) := HB.out.below hB1 (Nat.le_refl _)
    have hap1 : ∀ v4 W4, W4.ownsRow W1.heap.size 5 1 v4 (0 + 0) ([] ++ []) → W1.grownBy W4 (Value.slice none 0 0).ownBlock →
        Hid (W4.ownsRow W1.heap.size 5 1 v4 0 []) ∧ Hid (Row .u8 0 w.heap.size W4 (.slice a' len' cap') ys) ∧ W1.heap.size ≤ W4.heap.size ∧ Hid (W1.grownBy W4 none) := fun v4 W4 h1 h2 =>
      ⟨h1, HB1.out.grown h2 hB1.size (fun j hj => by cases hj), h2.size, h2⟩
    have hap2 : ∀ v4 W4 v5 W5, Hid (W4.ownsRow W1.heap.size 5 1 v4 0 []) → W1.heap.size ≤ W4.heap.size → Hid (W1.grownBy W4 none) → W5.ownsRow W1.heap.size 5 1 v5 (0 + len') ([] ++ byts ys) → W4.grownBy W5 v4.ownBlock →
        Hid (Row .u8 0 W5.heap.size W5 v5 ys) ∧ Hid (Below W1.heap.size W1 W5) := fun v4 W4 v5 W5 h0 h1 h2 h3 h4 => by
      rw [Nat.zero_add, List.nil_append] at h3
      refine ⟨(own_row8 HL'.out.symm h3).mono (Nat.zero_le _) (Nat.le_refl _), ?_⟩
      exact ((Below.refl _ _).grown h2.out (Nat.le_refl _) (fun j hj => by cases hj)).grown h4 h1 (fun j hj => (h0.out.lt j hj).1)
    obtain ⟨i0, hi, hz0, hz1, hz2⟩ := info_parts info5
    go_wp2_with (first
      | (at_builtin; refine append_either rfl (.tmp 80) (.tmp 81) 22 rfl W1.heap.size 5 i0 (.int .u8 0) 1 Try.underlying22 hi hz0 hz1 hz2 rfl (.slice none 0 0) 0 [] rfl (World.ownsRow_nil _ _ _ _) a 0 cap [] rfl (fun h => ⟨rfl, HN0.out h⟩) rfl (fun _ _ j u hj => by simp at hj) (by simp) (by unfold maxLen; omega) (by omega) (Nat.le_refl _) ?_; intro v4 W4 hown4 hgr4; obtain ⟨HO4, HB4, hs4, HG4⟩ := hap1 v4 W4 hown4 hgr4; clear hown4 hgr4 hap1)
      | (at_builtin; refine append_either rfl (.tmp 83) (.tmp 84) 22 rfl W1.heap.size 5 i0 (.int .u8 0) 1 Try.underlying22 hi hz0 hz1 hz2 rfl v4 0 [] rfl HO4.out a' len' cap' (byts ys) rfl HN.out ((byts_length ys).trans HL'.out) HB4.out.news (byts_one ys) (by unfold maxLen; omega) (by omega) hs4 ?_; intro v5 W5 hown5 hgr5; obtain ⟨HR5, HB5⟩ := hap2 v4 W4 v5 W5 HO4 hs4 HG4 hown5 hgr5; clear hown5 hgr5 hap2))
    have hcu6 := cuts_any v5 ys (by rw [HL'.out]; omega) HY.out W5 HR5.out
    refine hcu6.mono ?_
    clear hcu6
    rintro e W6 ⟨v6, rfl, hown6, hB6⟩
    have hBe : Below w.heap.size w W6 := hB1.trans ((HB5.out.mono hB1.size).trans (hB6.mono (Nat.le_trans hB1.size HB5.out.size)))
    clear hown6
    go_wp2
    go_ret
    exact ⟨rfl, hBe⟩
end Go.Proofs.Ytcfjkcfmoooccaa
