import Derived.Test.YtcfjkcfmoooccaaRows
import Derived.Test.YtcfjkcfmoooccaaMath
import Derived.WalkKit
import Derived.ProofKit
import Derived.OwnWalk
namespace Go.Proofs.Ytcfjkcfmoooccaa
open Go.RowKit

theorem ret_int {k : IntKind} {a b : Int} (h : a = b) : Ending.returned (.int k a) = .returned (.int k b) := by rw [h]

set_option maxHeartbeats 400000 in
theorem spread_any (b : Int) (w : World) (h0 : 0 ≤ b) (h1 : b ≤ 255) :
    Calls Try.prog 15 #[.int .u8 b] w fun e w' => e = .returned (.int .u32 (gG b)) ∧ w = w' := by
  go_enter Try.func15, Try.ntmps15
  go_wp2
  go_ret
  exact ⟨rfl, rfl⟩

set_option maxHeartbeats 400000 in
theorem gear_any (b : Int) (w : World) (h0 : 0 ≤ b) (h1 : b ≤ 255) :
    Calls Try.prog 12 #[.int .u8 b] w fun e w' => e = .returned (.int .u32 (gG b)) ∧ w = w' := by
  go_enter Try.func12, Try.ntmps12
  go_wp2
  go_ret
  exact ⟨rfl, rfl⟩

theorem ends_eq1 {k : Nat} {h : Int} (h1 : (k : Int) + 1 < 16) : false = endB (k + 1) h := by
  rw [endB_small (by omega)]
theorem ends_eq2 {k : Nat} {h : Int} (h0 : 0 ≤ h) (hh : h < 4294967296) (h1 : 16 ≤ (k : Int) + 1) (h2 : (k : Int) + 1 < 64) : (bits BinOp.and IntKind.u32 h 255 == 0) = endB (k + 1) h := by
  rw [and255 h h0 hh]
  unfold endB
  rw [if_neg (by omega), if_pos (by omega)]
  rfl
theorem ends_eq3 {k : Nat} {h : Int} (h0 : 0 ≤ h) (hh : h < 4294967296) (h1 : 64 ≤ (k : Int) + 1) (h2 : (k : Int) + 1 < 256) : (bits BinOp.and IntKind.u32 h 15 == 0) = endB (k + 1) h := by
  rw [and15 h h0 hh]
  unfold endB
  rw [if_neg (by omega), if_neg (by omega), if_pos (by omega)]
  rfl
theorem ends_eq4 {k : Nat} {h : Int} (h1 : 256 ≤ (k : Int) + 1) : true = endB (k + 1) h := by
  rw [endB_large (by omega)]
theorem ret_bool {a b : Bool} (h : a = b) : Ending.returned (.bool a) = .returned (.bool b) := by rw [h]

set_option maxHeartbeats 400000 in
theorem ends_any (k : Nat) (h : Int) (w : World) (_h1 : k ≤ 100000) (h2 : 0 ≤ h) (h3 : h < 4294967296) :
    Calls Try.prog 16 #[.int .i64 ((k : Int) + 1), .int .u32 h] w fun e w' => e = .returned (.bool (endB (k + 1) h)) ∧ w = w' := by
  by_cases c1 : (k : Int) + 1 < 16
  · go_enter Try.func16, Try.ntmps16
    go_wp2
    go_ret
    exact ⟨ret_bool (ends_eq1 c1), rfl⟩
  · by_cases c2 : (k : Int) + 1 < 64
    · go_enter Try.func16, Try.ntmps16
      go_wp2
      go_ret
      exact ⟨ret_bool (ends_eq2 h2 h3 (by omega) c2), rfl⟩
    · by_cases c3 : (k : Int) + 1 < 256
      · go_enter Try.func16, Try.ntmps16
        go_wp2
        go_ret
        exact ⟨ret_bool (ends_eq3 h2 h3 (by omega) c3), rfl⟩
      · go_enter Try.func16, Try.ntmps16
        go_wp2
        go_ret
        exact ⟨ret_bool (ends_eq4 (by omega)), rfl⟩

theorem scan_step (zs : List Int) (k : Nat) (h : Int) (hk : k < zs.length) :
    scan k h (zs.drop k) = if endB (k + 1) (stepH h (zs[k]?.getD 0)) = true then k + 1 else scan (k + 1) (stepH h (zs[k]?.getD 0)) (zs.drop (k + 1)) := by
  rw [List.drop_eq_getElem_cons hk]
  have e : zs[k]?.getD 0 = zs[k] := by simp [hk]
  rw [e]
  rfl

set_option maxRecDepth 100000 in
set_option maxHeartbeats 1000000 in
theorem first_any (b off cap : Nat) (zs : List Int) (w : World) (hlen : zs.length ≤ 70000) (hb : ∀ j : Nat, 0 ≤ zs[j]?.getD 0 ∧ zs[j]?.getD 0 ≤ 255)
    (hc : ∀ j, j < zs.length → w.cell? ⟨b, off + j, none⟩ = some (.int .u8 (zs[j]?.getD 0))) :
    Calls Try.prog 14 #[.slice (some ⟨b, off, none⟩) zs.length cap] w fun e w' => e = .returned (.int .i64 (scan 0 0 zs)) ∧ w = w' := by
  obtain ⟨len, hl⟩ : ∃ len, zs.length = len := ⟨_, rfl⟩
  rw [hl] at hc hlen ⊢
  have HL : Hid (zs.length = len) := hl
  clear hl
  have HC : Hid (∀ j, j < len → w.cell? ⟨b, off + j, none⟩ = some (.int .u8 (zs[j]?.getD 0))) := hc
  clear hc
  go_enter Try.func14, Try.ntmps14
  go_wp2
  go_loop [3, 8] (fun h i => ∃ (k : Nat) (H : Int), k ≤ len ∧ i = .int .i64 k ∧ h = .int .u32 H ∧ 0 ≤ H ∧ H < 4294967296 ∧ Hid (scan 0 0 zs = scan k H (zs.drop k))) (fun _ i => len - (intOf i).toNat)
  case atStart => exact ⟨0, 0, Nat.zero_le _, rfl, rfl, by omega, by omega, rfl⟩
  case round =>
    obtain ⟨k, H, hk, rfl, rfl, hH0, hH1, HS⟩ := hrel
    by_cases hlt : k < len
    · have hcx := HC.out k hlt
      have hbk := hb k
      obtain ⟨z, hz⟩ : ∃ z, zs[k]?.getD 0 = z := ⟨_, rfl⟩
      have HZ : Hid (zs[k]?.getD 0 = z) := hz
      rw [hz] at hcx hbk
      clear hz
      have hst := scan_step zs k H (by rw [HL.out]; exact hlt)
      rw [HZ.out] at hst
      have hsb := stepH_bd H z
      obtain ⟨h2, hh2⟩ : ∃ h2, stepH H z = h2 := ⟨_, rfl⟩
      have HH : Hid ((H * 2 + gG z) % 4294967296 = h2) := hh2
      rw [hh2] at hst hsb
      clear hh2
      have HST : Hid (scan k H (zs.drop k) = if endB (k + 1) h2 = true then k + 1 else scan (k + 1) h2 (zs.drop (k + 1))) := hst
      clear hst
      obtain ⟨hs0, hs1⟩ := hsb
      obtain ⟨hz0, hz1⟩ := hbk
      go_wp2_with (first | (go_at_call 15; refine (spread_any _ _ hz0 hz1).mono ?_; rintro e w' ⟨rfl, rfl⟩) | (go_at_call 16; rw [HH.out]; refine (ends_any k h2 _ (by omega) hs0 hs1).mono ?_; rintro e w' ⟨rfl, rfl⟩))
      · have he : endB (k + 1) h2 = true := by assumption
        go_ret
        refine ⟨ret_int ?_, rfl⟩
        rw [HS.out, HST.out, if_pos he]
        rfl
      · have he : endB (k + 1) h2 = false := by assumption
        go_round
        case rel => exact ⟨k + 1, h2, by omega, by go_num, by rw [HH.out], hs0, hs1, HS.out.trans (by rw [HST.out, if_neg (by rw [he]; exact Bool.false_ne_true)])⟩
        case measure => simp [intOf]; omega
    · obtain rfl : k = len := by omega
      go_wp2
      go_ret
      refine ⟨ret_int ?_, rfl⟩
      rw [HS.out, List.drop_of_length_le (by rw [HL.out]; exact Nat.le_refl _)]
      rfl
end Go.Proofs.Ytcfjkcfmoooccaa
