import Derived.Test.YtjmgafdlldglmaaGreatDoorFind
namespace Go.Proofs.YtjmgafdlldglmaaGreatDoor
open Go.RowKit
set_option maxRecDepth 100000
set_option linter.unusedVariables false

theorem zero_unfit : sumFits (secSum 2 zero128) zero128 = false := by decide +kernel
theorem zero_bytes : ∀ j : Nat, 0 ≤ zero128[j]?.getD 0 ∧ zero128[j]?.getD 0 ≤ 255 := by
  intro j
  unfold zero128
  rw [List.getElem?_replicate]
  split <;> decide

set_option maxHeartbeats 400000 in
theorem broken_nil (j : Nat) (k e sf : Int) (w : World) (h3 : w.cell? ⟨j, 5, none⟩ = some (.int .i64 e)) (h2 : w.cell? ⟨j, 3, none⟩ = some (.int .i64 sf)) (hle : sf ≤ e) :
    Calls Tryz.prog 55 #[.pointer (some ⟨j, 0, none⟩), .int .i64 k] w fun e w' => e = .returned (.tuple #[.slice none 0 0, .int .u64 0, .nilIface]) ∧ ∃ q, w.drewN q = w' := by
  have hd : decide (e < sf) = false := by simpa using hle
  go_enter Tryz.func55, Tryz.ntmps55
  go_wp2
  go_quiet (fail)
  go_wp2
  go_ret3
  exact ⟨rfl, _, rfl⟩

theorem below_drewN {n : Nat} {w W : World} (h : Below n w W) (q : Nat) : Below n w (W.drewN q) := ⟨h.os, h.tape, h.output, h.size, h.block⟩

set_option maxHeartbeats 2000000 in
theorem next_none (j d bn n : Nat) (w : World) (t1 : Value) (hJ : Jrn w j d) (hD : Dev w d bn n) (hBl : Blank w bn n) (hn : 4 ≤ n) (h1 : w.cell? ⟨j, 1, none⟩ = some t1) (hh : w.cell? ⟨j, 2, none⟩ = some (.int .i64 0)) (h2 : w.cell? ⟨j, 3, none⟩ = some (.int .i64 2)) (h3 : w.cell? ⟨j, 5, none⟩ = some (.int .i64 2)) :
    Calls Tryz.prog 33 #[.pointer (some ⟨j, 0, none⟩), .slice none 0 0, .int .u64 1] w fun e w' => e = .returned (.tuple #[.slice none 0 0, .int .u64 0, .nilIface]) ∧ Below w.heap.size w w' := by
  have hj := hJ.lt
  have hd := hD.lt
  have hbn := hBl.lt (by omega)
  have hdev := hJ.dev
  have HLZ : Hid ((byts zero128).length = 128) := by rw [byts_length]; exact zero128_length
  have h1Z := byts_one zero128
  have hi : (2 : Int) < ((2 + (n - 2) / 2 : Nat) : Int) := by omega
  obtain ⟨m, hm⟩ : ∃ m : Nat, 2 + (n - 2) / 2 = m := ⟨_, rfl⟩
  go_enter Tryz.func33, Tryz.ntmps33
  go_wp2_with fail
  refine wp_loop_rounds 1 ?_
  rw [rounds_succ]
  go_wp2_with fail
  refine (limit_zero j d bn n _ hJ hD (by omega) hh).mono ?_
  rintro e w' ⟨rfl, rfl⟩
  rw [hm] at hi ⊢
  go_wp2_with fail
  refine (jread_any j d bn 2 n _ hJ hD (by omega) (byts zero128) HLZ.out h1Z (hBl 2 (by omega))).mono ?_
  rintro e w1 ⟨rfl, hb1⟩
  have LN : Hid (∀ w : World, Calls Tryz.prog 54 #[.int .i64 2, .agg (byts zero128).toArray] w fun e w' => e = .returned (.tuple #[.agg Tryz.zeroCells162, .bool false]) ∧ Below w.heap.size w w') := fun w => leafOf_no 2 zero128 w (by omega) zero128_length zero_bytes zero_unfit
  generalize byts zero128 = Z at HLZ h1Z LN ⊢
  have ht1 : (w1.alloc (.cells Tryz.zeroCells101 101)).there w1.heap.size 0 Z.toArray.size := by simpa [HLZ.out] using there_new90 w1
  have hR2 := World.rangeAt_setCells_same (w1.alloc (.cells Tryz.zeroCells101 101)) w1.heap.size 0 Z (by simpa using ht1)
  have hB2 : Below w.heap.size w ((w1.alloc (.cells Tryz.zeroCells101 101)).setCells w1.heap.size 0 Z) := below_setCells hb1.size _ _ _ (hb1.alloc hb1.size _)
  go_wp2_with (first
    | (refine wpList_store_mid rfl 101 _ _ rfl w1.heap.size 0 Z.toArray (by go_simp) (by go_simp) ht1 (by simp [HLZ.out, size90]) (all_oneCell_toArray h1Z) ?_)
    | (refine wpList_load_mid rfl 101 _ rfl w1.heap.size 0 (by go_simp) Z _ hR2 Tryz.underlying101 rfl (by rw [HLZ.out]; exact size90) ?_)
    | (go_at_call 54; refine (LN.out _).mono ?_; rintro e w2 ⟨rfl, hb2⟩)
    | (refine wpList_store_mid rfl 162 _ _ rfl w2.heap.size 0 Tryz.zeroCells162 (by go_simp) (by go_simp) (there_new w2 _ _) (by rw [zeros132_size]; exact size132) zeros132_one ?_))
  have hB3 : Below w.heap.size w ((w2.alloc (.cells Tryz.zeroCells162 162)).setCells w2.heap.size 0 Tryz.zeroCells162.toList) := by
    have hb3 := hB2.trans (hb2.mono hB2.size)
    exact below_setCells hb3.size _ _ _ (hb3.alloc hb3.size _)
  have HB3 : Hid (Below w.heap.size w ((w2.alloc (.cells Tryz.zeroCells162 162)).setCells w2.heap.size 0 Tryz.zeroCells162.toList)) := hB3
  clear hB3
  generalize ((w2.alloc (.cells Tryz.zeroCells162 162)).setCells w2.heap.size 0 Tryz.zeroCells162.toList) = W3 at HB3 ⊢
  have g3 := (HB3.out.cell (p := ⟨j, 5, none⟩) hj).trans h3
  have g2 := (HB3.out.cell (p := ⟨j, 3, none⟩) hj).trans h2
  clear hb1 hb2 hB2 hR2 ht1 LN
  go_quiet (fail)
  go_wp2_with fail
  refine (broken_nil j 2 2 2 _ (by simpa using g3) (by simpa using g2) (by omega)).mono ?_
  rintro e w4 ⟨rfl, q, rfl⟩
  go_wp2
  go_ret3
  exact ⟨rfl, below_drewN HB3.out _⟩
end Go.Proofs.YtjmgafdlldglmaaGreatDoor
