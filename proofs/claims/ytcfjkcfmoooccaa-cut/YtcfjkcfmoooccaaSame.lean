import Derived.Test.YtcfjkcfmoooccaaCuts
import Derived.Deep.QuietTactic
import Derived.BigQuiet
namespace Go.Proofs.Ytcfjkcfmoooccaa
open Go.RowKit
set_option linter.unusedVariables false

set_option maxRecDepth 100000 in
set_option maxHeartbeats 400000 in
theorem numbers_some (b off cap b' off' cap' len : Nat) (zs : List Int) (w : World) (hlen : len ≤ 70000)
    (hc : ∀ j, j < len → w.cell? ⟨b, off + j, none⟩ = some (.int .i64 (zs[j]?.getD 0)))
    (hc' : ∀ j, j < len → w.cell? ⟨b', off' + j, none⟩ = some (.int .i64 (zs[j]?.getD 0))) :
    Calls Try.prog 9 #[.slice (some ⟨b, off, none⟩) len cap, .slice (some ⟨b', off', none⟩) len cap'] w fun e W' => e = .returned (.bool true) ∧ ∃ n, w.drewN n = W' := by
  have HC : Hid (∀ j, j < len → w.cell? ⟨b, off + j, none⟩ = some (.int .i64 (zs[j]?.getD 0))) := hc
  have HC' : Hid (∀ j, j < len → w.cell? ⟨b', off' + j, none⟩ = some (.int .i64 (zs[j]?.getD 0))) := hc'
  clear hc hc'
  go_enter Try.func9, Try.ntmps9
  go_wp2
  go_loopw [5] (fun i wr => ∃ (k n : Nat), k ≤ len ∧ i = .int .i64 k ∧ wr = w.drewN n) (fun i _ => len - (intOf i).toNat)
  case atStart => exact ⟨0, 0, Nat.zero_le _, rfl, rfl⟩
  case round =>
    obtain ⟨k, n, hk, rfl, rfl⟩ := hrel
    by_cases hlt : k < len
    · have h1 := HC.out k hlt
      have h2 := HC'.out k hlt
      obtain ⟨z, hz⟩ : ∃ z, zs[k]?.getD 0 = z := ⟨_, rfl⟩
      rw [hz] at h1 h2
      clear hz
      go_wp2
      go_quiet (fail)
      all_goals go_wp2
      all_goals go_roundw
      case rel => exact ⟨k + 1, _, by omega, by go_num, rfl⟩
      case measure => simp [intOf]; omega
    · obtain rfl : k = len := by omega
      go_wp2
      go_ret
      exact ⟨rfl, _, rfl⟩

set_option maxRecDepth 100000 in
set_option maxHeartbeats 400000 in
theorem numbers_none (a a' : Option Addr) (cap cap' : Nat) (w : World) :
    Calls Try.prog 9 #[.slice a 0 cap, .slice a' 0 cap'] w fun e W' => e = .returned (.bool true) ∧ ∃ n, w.drewN n = W' := by
  go_enter Try.func9, Try.ntmps9
  go_wp2
  go_loopw [5] (fun i wr => i = .int .i64 0 ∧ wr = w) (fun i _ => 0)
  case atStart => exact ⟨rfl, rfl⟩
  case round =>
    obtain ⟨rfl, rfl⟩ := hrel
    go_wp2
    go_ret
    exact ⟨rfl, 0, rfl⟩

theorem numbers_any (lo hi lo' hi' : Nat) (s s' : Value) (zs : List Int) (w : World) (hlen : zs.length ≤ 70000) (h : Row .i64 lo hi w s zs) (h' : Row .i64 lo' hi' w s' zs) :
    Calls Try.prog 9 #[s, s'] w fun e W' => e = .returned (.bool true) ∧ ∃ n, w.drewN n = W' := by
  rcases h with ⟨a, cap, rfl, rfl⟩ | ⟨b, off, cap, rfl, h2, h3, h4, h5, h6, h7⟩
  · rcases h' with ⟨a', cap', rfl, _⟩ | ⟨_, _, _, _, h2, _⟩
    · exact numbers_none a a' cap cap' w
    · exact absurd rfl h2
  · rcases h' with ⟨a', cap', rfl, e⟩ | ⟨b', off', cap', rfl, _, _, _, _, _, h7'⟩
    · exact absurd e h2
    · exact numbers_some b off cap b' off' cap' zs.length zs w hlen h7 h7'

set_option maxRecDepth 100000 in
set_option maxHeartbeats 400000 in
theorem same_some (b off cap b' off' cap' len : Nat) (zs : List Int) (w : World) (hlen : len ≤ 70000)
    (hc : ∀ j, j < len → w.cell? ⟨b, off + j, none⟩ = some (.int .u8 (zs[j]?.getD 0)))
    (hc' : ∀ j, j < len → w.cell? ⟨b', off' + j, none⟩ = some (.int .u8 (zs[j]?.getD 0))) :
    Calls Try.prog 11 #[.slice (some ⟨b, off, none⟩) len cap, .slice (some ⟨b', off', none⟩) len cap'] w fun e W' => e = .returned (.bool true) ∧ ∃ n, w.drewN n = W' := by
  have HC : Hid (∀ j, j < len → w.cell? ⟨b, off + j, none⟩ = some (.int .u8 (zs[j]?.getD 0))) := hc
  have HC' : Hid (∀ j, j < len → w.cell? ⟨b', off' + j, none⟩ = some (.int .u8 (zs[j]?.getD 0))) := hc'
  clear hc hc'
  go_enter Try.func11, Try.ntmps11
  go_wp2
  go_loopw [5] (fun i wr => ∃ (k n : Nat), k ≤ len ∧ i = .int .i64 k ∧ wr = w.drewN n) (fun i _ => len - (intOf i).toNat)
  case atStart => exact ⟨0, 0, Nat.zero_le _, rfl, rfl⟩
  case round =>
    obtain ⟨k, n, hk, rfl, rfl⟩ := hrel
    by_cases hlt : k < len
    · have h1 := HC.out k hlt
      have h2 := HC'.out k hlt
      obtain ⟨z, hz⟩ : ∃ z, zs[k]?.getD 0 = z := ⟨_, rfl⟩
      rw [hz] at h1 h2
      clear hz
      go_wp2
      go_quiet (fail)
      all_goals go_wp2
      all_goals go_roundw
      case rel => exact ⟨k + 1, _, by omega, by go_num, rfl⟩
      case measure => simp [intOf]; omega
    · obtain rfl : k = len := by omega
      go_wp2
      go_ret
      exact ⟨rfl, _, rfl⟩

set_option maxRecDepth 100000 in
set_option maxHeartbeats 400000 in
theorem same_none (a a' : Option Addr) (cap cap' : Nat) (w : World) :
    Calls Try.prog 11 #[.slice a 0 cap, .slice a' 0 cap'] w fun e W' => e = .returned (.bool true) ∧ ∃ n, w.drewN n = W' := by
  go_enter Try.func11, Try.ntmps11
  go_wp2
  go_loopw [5] (fun i wr => i = .int .i64 0 ∧ wr = w) (fun i _ => 0)
  case atStart => exact ⟨rfl, rfl⟩
  case round =>
    obtain ⟨rfl, rfl⟩ := hrel
    go_wp2
    go_ret
    exact ⟨rfl, 0, rfl⟩

theorem same_any (lo hi lo' hi' : Nat) (s s' : Value) (zs : List Int) (w : World) (hlen : zs.length ≤ 70000) (h : Row .u8 lo hi w s zs) (h' : Row .u8 lo' hi' w s' zs) :
    Calls Try.prog 11 #[s, s'] w fun e W' => e = .returned (.bool true) ∧ ∃ n, w.drewN n = W' := by
  rcases h with ⟨a, cap, rfl, rfl⟩ | ⟨b, off, cap, rfl, h2, h3, h4, h5, h6, h7⟩
  · rcases h' with ⟨a', cap', rfl, _⟩ | ⟨_, _, _, _, h2, _⟩
    · exact same_none a a' cap cap' w
    · exact absurd rfl h2
  · rcases h' with ⟨a', cap', rfl, e⟩ | ⟨b', off', cap', rfl, _, _, _, _, _, h7'⟩
    · exact absurd e h2
    · exact same_some b off cap b' off' cap' zs.length zs w hlen h7 h7'

end Go.Proofs.Ytcfjkcfmoooccaa
