import Derived.Test.YtcfjkcfmoooccaaIn
import Derived.WalkSmall
namespace Go.Proofs.Ytcfjkcfmoooccaa
open Go.RowKit
set_option linter.unusedVariables false

set_option maxRecDepth 100000 in
set_option maxHeartbeats 400000 in
theorem cut_big (a : Option Addr) (len cap : Nat) (w : World) (hlen : 60000 < len) :
    Calls Try.prog 3 #[.slice a len cap] w fun e w' => e = .returned (.bool true) ∧ Below w.heap.size w w' := by
  go_enter Try.func3, Try.ntmps3
  go_wp2
  go_ret
  exact ⟨rfl, Below.refl _ _⟩

set_option maxRecDepth 100000 in
set_option maxHeartbeats 400000 in
theorem cut_small (a : Option Addr) (len cap : Nat) (zs : List Int) (w : World) (hl : zs.length = len) (hlen : len ≤ 60000) (hz : ∀ j : Nat, 0 ≤ zs[j]?.getD 0 ∧ zs[j]?.getD 0 ≤ 255) (hB : Row .u8 0 w.heap.size w (.slice a len cap) zs) :
    Calls Try.prog 3 #[.slice a len cap] w fun e w' => e = .returned (.bool true) ∧ Below w.heap.size w w' := by
  have HL : Hid (zs.length = len) := hl
  have HB : Hid (Row .u8 0 w.heap.size w (.slice a len cap) zs) := hB
  have HZ : Hid (∀ j : Nat, 0 ≤ zs[j]?.getD 0 ∧ zs[j]?.getD 0 ≤ 255) := hz
  have hr := roomy_any (.slice a len cap) zs (by omega) w hB
  rw [hl] at hr
  clear hl hB hz
  go_enter Try.func3, Try.ntmps3
  go_wp2_with fail
  refine hr.mono ?_
  rintro e W1 ⟨g, rfl, hg, HG, hB1⟩
  have HG1 : Hid (W1.heap[g]? = some (.cells (byts (zs ++ [71, 72])).toArray 5 (0, 0))) := HG
  have hgl : g < W1.heap.size := (Array.getElem?_eq_some_iff.1 HG).1
  have hR1 : Row .u8 0 W1.heap.size W1 (.slice (some ⟨g, 0, none⟩) len (len + 2)) zs := by
    by_cases h0 : zs = []
    · subst h0; exact .inl ⟨_, _, by rw [← HL.out]; rfl, rfl⟩
    · refine .inr ⟨g, 0, len + 2, by rw [HL.out], h0, by rw [HL.out]; omega, by unfold maxLen; omega, Nat.zero_le _, hgl, fun j hj => ?_⟩
      rw [Nat.zero_add, byts_cell HG j (by rw [List.length_append]; omega), List.getElem?_append_left hj]
  have hcu := cuts_any (.slice (some ⟨g, 0, none⟩) len (len + 2)) zs (by rw [HL.out]; omega) HZ.out W1 hR1
  clear HG hR1 hr
  go_wp2_with fail
  refine hcu.mono ?_
  clear hcu
  rintro e W2 ⟨v, rfl, hown2, hB2⟩
  have hr2 := own_row hown2
  have hs2 := hB2.size
  have HG2 : W2.heap[g]? = some (.cells (byts (zs ++ [71, 72])).toArray 5 (0, 0)) := (hB2.block g hgl).trans HG1.out
  have HB2 : Row .u8 0 w.heap.size W2 (.slice a len cap) zs := (HB.out.below hB1 (Nat.le_refl _)).below hB2 hB1.size
  have hst := still_at g len (.slice a len cap) zs HL.out (by omega) 0 w.heap.size W2 a cap rfl HB2 HG2
  have HR2 : Hid (Row .i64 W1.heap.size W2.heap.size W2 v (ints (cuts zs))) := hr2
  have HB2' : Hid (Row .u8 0 w.heap.size W2 (.slice a len cap) zs) := HB2
  clear hown2 hr2 HG2 HB2 HG1
  have hsv : ∃ x y z, v = .slice x y z := by
    rcases HR2.out with ⟨x, y, rfl, _⟩ | ⟨_, _, _, rfl, _⟩
    · exact ⟨_, _, _, rfl⟩
    · exact ⟨_, _, _, rfl⟩
  obtain ⟨vx, vy, vz, rfl⟩ := hsv
  go_wp2_with fail
  refine hst.mono ?_
  clear hst
  rintro e W3 ⟨rfl, hg3⟩
  have HR3 : Hid (Row .i64 W1.heap.size W2.heap.size W3 (.slice vx vy vz) (ints (cuts zs))) := HR2.out.grown hg3 (Nat.le_refl _) (fun j hj => by cases hj; exact .inl hgl)
  have HB3 : Row .u8 0 w.heap.size W3 (.slice a len cap) zs := HB2'.out.grown hg3 (Nat.le_trans hB1.size hs2) (fun j hj => by cases hj; exact .inr hg)
  have hB3 : Below w.heap.size w W3 := (hB1.trans (hB2.mono hB1.size)).grown hg3 (Nat.le_trans hB1.size hs2) (fun j hj => by cases hj; exact hg)
  have hs3 := hg3.size
  have hre := ref_any (.slice a len cap) zs (by rw [HL.out]; omega) HZ.out W3 (HB3.mono (Nat.le_refl _) (Nat.le_trans hB1.size (Nat.le_trans hs2 hs3)))
  clear HB3 HR2 HB2' hg3
  go_wp2_with fail
  refine hre.mono ?_
  clear hre
  rintro e W4 ⟨m, rfl, hown4, hB4⟩
  have hr4 := own_row hown4
  have hr3 := HR3.out.below hB4 hs3
  have hnu := numbers_any _ _ _ _ (.slice vx vy vz) m (ints (cuts zs)) W4 (by rw [ints_length]; have := cuts_length_le zs; rw [HL.out] at this; omega) hr3 hr4
  have hsm : ∃ x y z, m = .slice x y z := by
    rcases hr4 with ⟨x, y, rfl, _⟩ | ⟨_, _, _, rfl, _⟩
    · exact ⟨_, _, _, rfl⟩
    · exact ⟨_, _, _, rfl⟩
  obtain ⟨mx, my, mz, rfl⟩ := hsm
  clear hown4 hr4 hr3 HR3
  go_wp2_with fail
  refine hnu.mono ?_
  clear hnu
  rintro e W5 ⟨rfl, n5, rfl⟩
  go_wp2
  go_ret
  exact ⟨rfl, below_drewN (hB3.trans (hB4.mono (Nat.le_trans hB1.size (Nat.le_trans hs2 hs3)))) _⟩
end Go.Proofs.Ytcfjkcfmoooccaa
