import Derived.Test.YtcfjkcfmoooccaaGreatDoorFind
import Derived.Laws.OwnMore
import Derived.Conc.SmallLaws
namespace Go.Proofs.YtcfjkcfmoooccaaGreatDoor
open Go.RowKit
set_option maxRecDepth 100000
set_option linter.unusedVariables false

theorem info90 : (Tryz.prog.info? 113).map (fun i => (i.zero, i.size, i.bytes)) = some (some (.agg Tryz.zeroCells113), 128, 128) := by kernel_rfl

theorem made_rep (m N j : Nat) (v : Value) (hm : 0 < m) (hj : j < N) : (madeCells (List.replicate m v).toArray N)[j]? = some v := by
  have h1 : j % m < m := Nat.mod_lt _ hm
  simp [madeCells, hj, h1]

theorem make45 (n : Nat) (hn : n ≤ 100000) : ∃ MC : Array Value, (∀ j, j < n * 128 → MC[j]? = some (.int .u8 0)) ∧ ∀ W, (Instr.makeSlice 50 (.int .i64 n) (.int .i64 n)).run Tryz.prog W = .ok (.slice (some ⟨W.heap.size, 0, none⟩) n n) (W.alloc (.cells MC 113)) := by
  obtain ⟨i, hi, hz0, hz1, hz2⟩ := info_parts info90
  refine ⟨madeCells Tryz.zeroCells113 (n * 128), ?_, ?_⟩
  · intro j hj
    rw [zeros90]
    exact made_rep 128 (n * 128) j _ (by decide) hj
  · intro W
    have hr := run_make (P := Tryz.prog) W 50 113 i _ Tryz.underlying50 hi hz0 .i64 .i64 n n (by omega) (Int.le_refl _) (by rw [hz2]; omega) (by omega)
    simp only [Int.toNat_natCast, hz1] at hr
    exact hr

theorem build48 (x y n : Nat) (w : World) : (Instr.build 53 #[(0, .slice (some ⟨x, 0, none⟩) n n), (1, .slice (some ⟨y, 0, none⟩) n n), (3, .int .i64 (-1))]).run Tryz.prog w = .ok (.agg #[.slice (some ⟨x, 0, none⟩) n n, .slice (some ⟨y, 0, none⟩) n n, .slice none 0 0, .int .i64 (-1)]) w := run_build w 53 _ _ (by kernel_rfl)

theorem dev_made (w : World) (MC : Array Value) (n b1 b2 : Nat) (hn : n ≤ 100000) (hMC : ∀ j, j < n * 128 → MC[j]? = some (.int .u8 0)) (h2 : b2 = w.heap.size ∨ b2 = w.heap.size + 1) :
    Dev (((w.alloc (.cells MC 113)).alloc (.cells MC 113)).alloc (.cells #[.slice (some ⟨b1, 0, none⟩) n n, .slice (some ⟨b2, 0, none⟩) n n, .slice none 0 0, .int .i64 (-1)] 53)).drew (w.heap.size + 1 + 1) b2 n ∧
    Blank (((w.alloc (.cells MC 113)).alloc (.cells MC 113)).alloc (.cells #[.slice (some ⟨b1, 0, none⟩) n n, .slice (some ⟨b2, 0, none⟩) n n, .slice none 0 0, .int .i64 (-1)] 53)).drew b2 n ∧
    Below w.heap.size w (((w.alloc (.cells MC 113)).alloc (.cells MC 113)).alloc (.cells #[.slice (some ⟨b1, 0, none⟩) n n, .slice (some ⟨b2, 0, none⟩) n n, .slice none 0 0, .int .i64 (-1)] 53)).drew := by
  have hd : (((w.alloc (.cells MC 113)).alloc (.cells MC 113)).alloc (.cells #[.slice (some ⟨b1, 0, none⟩) n n, .slice (some ⟨b2, 0, none⟩) n n, .slice none 0 0, .int .i64 (-1)] 53)).heap[w.heap.size + 1 + 1]? = some (.cells #[.slice (some ⟨b1, 0, none⟩) n n, .slice (some ⟨b2, 0, none⟩) n n, .slice none 0 0, .int .i64 (-1)] 53 (0, 0)) := by
    have := heap_alloc_new ((w.alloc (.cells MC 113)).alloc (.cells MC 113)) (.cells #[.slice (some ⟨b1, 0, none⟩) n n, .slice (some ⟨b2, 0, none⟩) n n, .slice none 0 0, .int .i64 (-1)] 53)
    simpa using this
  have hb : (((w.alloc (.cells MC 113)).alloc (.cells MC 113)).alloc (.cells #[.slice (some ⟨b1, 0, none⟩) n n, .slice (some ⟨b2, 0, none⟩) n n, .slice none 0 0, .int .i64 (-1)] 53)).heap[b2]? = some (.cells MC 113 (0, 0)) := by
    rcases h2 with rfl | rfl
    · rw [Below.heap_alloc _ _ _ (by simp; omega), Below.heap_alloc _ _ _ (by simp)]; exact heap_alloc_new w _
    · rw [Below.heap_alloc _ _ _ (by simp)]
      have := heap_alloc_new (w.alloc (.cells MC 113)) (.cells MC 113)
      simpa using this
  refine ⟨⟨hn, ?_, ⟨some ⟨b1, 0, none⟩, n, ?_⟩, ⟨n, ?_⟩⟩, ?_, ((((Below.refl _ _).alloc (Nat.le_refl _) _).alloc (by simp) _).alloc (by simp; omega) _).drew⟩
  · rw [World.cell?_drew, cell_of_row _ _ _ _ _ _ hd]; rfl
  · rw [World.cell?_drew, cell_of_row _ _ _ _ _ _ hd]; rfl
  · rw [World.cell?_drew, cell_of_row _ _ _ _ _ _ hd]; rfl
  · intro k hk i v hv
    have hi : i < 128 := by
      have := (List.getElem?_eq_some_iff.1 hv).1
      rwa [byts_length, zero128_length] at this
    have hv' : v = .int .u8 0 := by
      rw [byts_getD zero128 i (by rw [zero128_length]; exact hi)] at hv
      have h0 : zero128[i]?.getD 0 = 0 := by unfold zero128; rw [List.getElem?_replicate]; split <;> rfl
      rw [h0] at hv
      exact (Option.some.inj hv).symm
    rw [World.cell?_drew, cell_of_row _ _ _ _ _ _ hb, hv']
    exact hMC _ (by omega)

set_option maxHeartbeats 2000000 in
theorem newDevice_any (n : Nat) (hn : n ≤ 100000) (w : World) :
    Calls Tryz.prog 5 #[.int .i64 n] w fun e w' => ∃ d bn, e = .returned (.pointer (some ⟨d, 0, none⟩)) ∧ Dev w' d bn n ∧ Blank w' bn n ∧ Below w.heap.size w w' := by
  obtain ⟨MC, hMC, hmk⟩ := make45 n hn
  have hb1 := fun (x y : Nat) W => build48 x y n W
  have HMC : Hid (∀ j, j < n * 128 → MC[j]? = some (.int .u8 0)) := hMC
  clear hMC
  go_enter Tryz.func5, Tryz.ntmps5
  go_wp2
  go_region
  all_goals
    go_wp2
    go_ret
    first
      | exact ⟨_, w.heap.size, rfl, dev_made w MC n _ _ hn HMC.out (.inl rfl)⟩
      | exact ⟨_, w.heap.size + 1, rfl, dev_made w MC n _ _ hn HMC.out (.inr rfl)⟩
end Go.Proofs.YtcfjkcfmoooccaaGreatDoor
