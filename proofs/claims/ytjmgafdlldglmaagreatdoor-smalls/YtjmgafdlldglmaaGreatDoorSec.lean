import Derived.Test.YtjmgafdlldglmaaGreatDoorEq
import Derived.Laws.Cover3
namespace Go.Proofs.YtjmgafdlldglmaaGreatDoor
open Go.RowKit
set_option maxRecDepth 100000
set_option linter.unusedVariables false

theorem ret_bool {a b : Bool} (h : a = b) : Ending.returned (.bool a) = .returned (.bool b) := by rw [h]

/-- The sum of a sector. -/
def secSum (k : Nat) (zs : List Int) : Int := fnv (bits .xor .u32 2166136261 k * 16777619 % 4294967296) (zs.drop 4)

theorem getD_drop' (zs : List Int) (p j : Nat) : (zs.drop p)[j]?.getD 0 = zs[p + j]?.getD 0 := by rw [List.getElem?_drop]

set_option maxHeartbeats 1000000 in
theorem jsumOf_any (k : Nat) (zs : List Int) (w : World) (hk : k ≤ 100000) (hl : zs.length = 128) (hz : ∀ j : Nat, 0 ≤ zs[j]?.getD 0 ∧ zs[j]?.getD 0 ≤ 255) :
    Calls Tryz.prog 70 #[.int .i64 k, .agg (byts zs).toArray] w fun e w' => e = .returned (.agg (leB (secSum k zs) 4).toArray) ∧ Below w.heap.size w w' := by
  have HL : Hid (zs.length = 128) := hl
  clear hl
  have hr : (w.alloc (.cells (byts zs).toArray 101)).rangeAt w.heap.size 0 (byts zs) := fun j v hv => by
    rw [Nat.zero_add, cell_of_row _ _ _ _ _ _ (heap_alloc_new w (.cells (byts zs).toArray 101))]
    simpa using hv
  have tA : ((w.alloc (.cells (byts zs).toArray 101)).alloc (.cells #[Value.int .u8 0, Value.int .u8 0, Value.int .u8 0, Value.int .u8 0] 79)).there (w.heap.size + 1) 0 4 := by
    have := there_new (w.alloc (.cells (byts zs).toArray 101)) #[Value.int .u8 0, Value.int .u8 0, Value.int .u8 0, Value.int .u8 0] 79
    simpa using this
  have HLB : Hid ((leB (secSum k zs) 4).length = 4) := leB_length _ 4
  have h1' := leB_one (secSum k zs) 4
  go_enter Tryz.func70, Tryz.ntmps70
  go_wp2_with fail
  refine (sumOf_any k w.heap.size 4 124 124 (zs.drop 4) _ (by omega) (by omega) (by rw [List.length_drop, HL.out]) (by omega) (fun j => by rw [getD_drop']; exact hz (4 + j)) (by simp; omega) (fun j hj => ?_)).mono ?_
  · rw [World.cell?_alloc_lt _ _ _ (by simp), getD_drop']
    have := hr (4 + j) _ (byts_getD zs (4 + j) (by rw [HL.out]; omega))
    rw [Nat.zero_add] at this
    exact this
  rintro e w1 ⟨rfl, hb1⟩
  have hT : w1.there (w.heap.size + 1) 0 4 := fun i hi => by
    rw [hb1.cell (p := ⟨w.heap.size + 1, 0 + i, none⟩) (by simp), hb1.frozen (p := ⟨w.heap.size + 1, 0 + i, none⟩) (by simp)]
    exact tA i hi
  have hB1 : Below w.heap.size w w1 := (((Below.refl _ _).alloc (Nat.le_refl _) _).alloc (by simp) _).trans (hb1.mono (by simp; omega))
  have HQ : Hid (leB (fnv (bits .xor .u32 2166136261 k * 16777619 % 4294967296) (zs.drop 4)) 4 = leB (secSum k zs) 4) := hid_refl_list _
  clear tA hb1 hr
  rw [HQ.out]
  generalize leB (secSum k zs) 4 = L at HLB h1' HQ ⊢
  go_wp2_with (first
    | (refine wpList_store_mid rfl 79 _ _ rfl (w.heap.size + 1) 0 L.toArray (by go_simp) (by go_simp) (by simpa [HLB.out] using hT) (by simp [HLB.out, size138]) (all_oneCell_toArray h1') ?_))
  refine bodyPost_ret (v := .agg L.toArray) (results_cell_mid (by rfl) _ _ _ (w.heap.size + 1) 0 L _ rfl (World.rangeAt_setCells_same _ _ _ _ (by rw [HLB.out]; exact hT)) Tryz.underlying79 rfl (by rw [HLB.out]; exact size138)) rfl ⟨by rw [← HQ.out]; rfl, ?_⟩
  exact below_setCells (by omega) _ _ _ hB1

/-- Four cells. -/
theorem leB_four (s : Int) : (leB s 4).toArray = #[.int .u8 (s % 256), .int .u8 (s / 256 % 256), .int .u8 (s / 256 / 256 % 256), .int .u8 (s / 256 / 256 / 256 % 256)] := rfl

theorem jsumOf_four (k : Nat) (zs : List Int) (s : Int) (w : World) (hk : k ≤ 100000) (hl : zs.length = 128) (hz : ∀ j : Nat, 0 ≤ zs[j]?.getD 0 ∧ zs[j]?.getD 0 ≤ 255) (hs : secSum k zs = s) :
    Calls Tryz.prog 70 #[.int .i64 k, .agg (byts zs).toArray] w fun e w' => e = .returned (.agg #[.int .u8 (s % 256), .int .u8 (s / 256 % 256), .int .u8 (s / 256 / 256 % 256), .int .u8 (s / 256 / 256 / 256 % 256)]) ∧ Below w.heap.size w w' := by
  have := jsumOf_any k zs w hk hl hz
  rw [hs, leB_four] at this
  exact this

/-- Has a sector its sum? -/
def sumFits (s : Int) (zs : List Int) : Bool := decide ([zs[0]?.getD 0, zs[1]?.getD 0, zs[2]?.getD 0, zs[3]?.getD 0] = [s % 256, s / 256 % 256, s / 256 / 256 % 256, s / 256 / 256 / 256 % 256])

set_option maxHeartbeats 1000000 in
theorem intact_any (k : Nat) (zs : List Int) (w : World) (hk : k ≤ 100000) (hl : zs.length = 128) (hz : ∀ j : Nat, 0 ≤ zs[j]?.getD 0 ∧ zs[j]?.getD 0 ≤ 255) :
    Calls Tryz.prog 51 #[.int .i64 k, .agg (byts zs).toArray] w fun e w' => e = .returned (.bool (sumFits (secSum k zs) zs)) ∧ Below w.heap.size w w' := by
  have HL : Hid (zs.length = 128) := hl
  clear hl
  have HZ : Hid (∀ j : Nat, 0 ≤ zs[j]?.getD 0 ∧ zs[j]?.getD 0 ≤ 255) := hz
  clear hz
  have hr : (w.alloc (.cells (byts zs).toArray 101)).rangeAt w.heap.size 0 (byts zs) := fun j v hv => by
    rw [Nat.zero_add, cell_of_row _ _ _ _ _ _ (heap_alloc_new w (.cells (byts zs).toArray 101))]
    simpa using hv
  have hc : ∀ i, i < 4 → (w.alloc (.cells (byts zs).toArray 101)).cell? ⟨w.heap.size, i, none⟩ = some (.int .u8 (zs[i]?.getD 0)) := fun i hi => by
    have := hr i _ (byts_getD zs i (by rw [HL.out]; omega))
    rw [Nat.zero_add] at this
    exact this
  have hc0 := hc 0 (by omega)
  have hc1 := hc 1 (by omega)
  have hc2 := hc 2 (by omega)
  have hc3 := hc 3 (by omega)
  clear hc
  obtain ⟨s, HS⟩ : ∃ s, Hid (secSum k zs = s) := ⟨_, hid_refl _⟩
  have HT : Hid (sumFits (secSum k zs) zs = decide ([zs[0]?.getD 0, zs[1]?.getD 0, zs[2]?.getD 0, zs[3]?.getD 0] = [s % 256, s / 256 % 256, s / 256 / 256 % 256, s / 256 / 256 / 256 % 256])) := by
    show _ = _
    rw [HS.out]; rfl
  generalize zs[0]?.getD 0 = z0 at hc0 HT
  generalize zs[1]?.getD 0 = z1 at hc1 HT
  generalize zs[2]?.getD 0 = z2 at hc2 HT
  generalize zs[3]?.getD 0 = z3 at hc3 HT
  have u90 := Tryz.underlying101
  have i90 : (Tryz.prog.info? 101).map (·.size) = some (byts zs).length := by rw [byts_length, HL.out]; exact size90
  have hB0 : Below w.heap.size w (w.alloc (.cells (byts zs).toArray 101)) := (Below.refl _ _).alloc (Nat.le_refl _) _
  have hs0 : w.heap.size < (w.alloc (.cells (byts zs).toArray 101)).heap.size := by simp
  have hat : ∀ W, (Instr.arrayAt 79 (.slice (some ⟨w.heap.size, 0, none⟩) 4 128)).run Tryz.prog W = .ok (.pointer (some ⟨w.heap.size, 0, none⟩)) W := fun W => run_arrayAt W 79 _ 4 _ 4 128 Tryz.underlying79 (by omega)
  have heq : ∀ W, (Op.equalIn 10000 79 (.agg #[.int .u8 z0, .int .u8 z1, .int .u8 z2, .int .u8 z3]) (.agg #[.int .u8 (s % 256), .int .u8 (s / 256 % 256), .int .u8 (s / 256 / 256 % 256), .int .u8 (s / 256 / 256 / 256 % 256)])).run Tryz.prog W = .ok (decide ([z0, z1, z2, z3] = [s % 256, s / 256 % 256, s / 256 / 256 % 256, s / 256 / 256 / 256 % 256])) W := fun W => equal_byts 79 4 Tryz.underlying79 [z0, z1, z2, z3] [s % 256, s / 256 % 256, s / 256 / 256 % 256, s / 256 / 256 / 256 % 256] rfl rfl W
  generalize decide ([z0, z1, z2, z3] = [s % 256, s / 256 % 256, s / 256 / 256 % 256, s / 256 / 256 / 256 % 256]) = R at heq HT
  go_enter Tryz.func51, Tryz.ntmps51
  go_wp2_with fail
  generalize w.alloc (.cells (byts zs).toArray 101) = W1 at hr hc0 hc1 hc2 hc3 hB0 hs0 ⊢
  go_region_held3 (fun W => W.rangeAt w.heap.size 0 (byts zs) ∧ W.cell? ⟨w.heap.size, 0, none⟩ = some (.int .u8 z0) ∧ W.cell? ⟨w.heap.size, 1, none⟩ = some (.int .u8 z1) ∧ W.cell? ⟨w.heap.size, 2, none⟩ = some (.int .u8 z2) ∧ W.cell? ⟨w.heap.size, 3, none⟩ = some (.int .u8 z3) ∧ Below w.heap.size w W ∧ w.heap.size < W.heap.size)
    ((go_split_ands; refine ⟨?_, ?_, ?_, ?_, ?_, ?_, ?_⟩ <;> first | assumption | (simp only [World.rangeAt_drew, World.there_drew]; assumption) | (simp; assumption) | (refine Below.drew ?_; assumption) | (exact rangeAt_below hb (by assumption) (by assumption)) | (exact (hb.cell (p := ⟨w.heap.size, _, none⟩) (by assumption)).trans (by assumption)) | (exact Below.trans (by assumption) (hb.mono (Nat.le_of_lt (by assumption)))) | (exact Nat.lt_of_lt_of_le (by assumption) hb.size)))
    ((go_split_ands; go_at_call 70; refine (jsumOf_four k zs s _ hk HL.out HZ.out HS.out).mono ?_; rintro e w' ⟨rfl, hb⟩))
  all_goals
    rename_i hH
    go_wp2
    go_ret
    exact ⟨ret_bool HT.out.symm, hH.2.2.2.2.2.1⟩

theorem size132 : (Tryz.prog.info? 162).map (·.size) = some 117 := by kernel_rfl
theorem zeros132_size : Tryz.zeroCells162.size = 117 := by kernel_rfl
theorem zeros132_one : Tryz.zeroCells162.all (·.oneCell') = true := by kernel_rfl
theorem build132 (w : World) : (Instr.build 162 #[]).run Tryz.prog w = .ok (.agg Tryz.zeroCells162) w := run_build w 162 _ _ (by kernel_rfl)

set_option maxHeartbeats 1000000 in
theorem leafOf_no (k : Nat) (zs : List Int) (w : World) (hk : k ≤ 100000) (hl : zs.length = 128) (hz : ∀ j : Nat, 0 ≤ zs[j]?.getD 0 ∧ zs[j]?.getD 0 ≤ 255) (hno : sumFits (secSum k zs) zs = false) :
    Calls Tryz.prog 54 #[.int .i64 k, .agg (byts zs).toArray] w fun e w' => e = .returned (.tuple #[.agg Tryz.zeroCells162, .bool false]) ∧ Below w.heap.size w w' := by
  have HL : Hid (zs.length = 128) := hl
  clear hl
  have HZ : Hid (∀ j : Nat, 0 ≤ zs[j]?.getD 0 ∧ zs[j]?.getD 0 ≤ 255) := hz
  clear hz
  have HN : Hid (sumFits (secSum k zs) zs = false) := hno
  clear hno
  have hr : (w.alloc (.cells (byts zs).toArray 101)).rangeAt w.heap.size 0 (byts zs) := fun j v hv => by
    rw [Nat.zero_add, cell_of_row _ _ _ _ _ _ (heap_alloc_new w (.cells (byts zs).toArray 101))]
    simpa using hv
  have tA : ((w.alloc (.cells (byts zs).toArray 101)).alloc (.cells Tryz.zeroCells162 162)).there (w.heap.size + 1) 0 Tryz.zeroCells162.size := by
    have := there_new (w.alloc (.cells (byts zs).toArray 101)) Tryz.zeroCells162 162
    simpa using this
  have hbu := build132
  go_enter Tryz.func54, Tryz.ntmps54
  go_wp2_with (first
    | (go_at_call 51; refine (intact_any k zs _ hk HL.out HZ.out).mono ?_; rintro e w1 ⟨rfl, hb1⟩; rw [HN.out])
    | (refine wpList_load_mid rfl 101 _ rfl w.heap.size 0 (by go_simp) (byts zs) _ (World.rangeAt_alloc hr _) Tryz.underlying101 rfl (by rw [byts_length, HL.out]; exact size90) ?_)
    | (refine wpList_store_mid rfl 162 _ _ rfl (w.heap.size + 1) 0 Tryz.zeroCells162 (by go_simp) (by go_simp) (fun i hi => by rw [hb1.cell (p := ⟨w.heap.size + 1, 0 + i, none⟩) (by simp), hb1.frozen (p := ⟨w.heap.size + 1, 0 + i, none⟩) (by simp)]; exact tA i hi) (by rw [zeros132_size]; exact size132) zeros132_one ?_))
  have hT1 : w1.there (w.heap.size + 1) 0 Tryz.zeroCells162.toList.length := fun i hi => by
    rw [hb1.cell (p := ⟨w.heap.size + 1, 0 + i, none⟩) (by simp), hb1.frozen (p := ⟨w.heap.size + 1, 0 + i, none⟩) (by simp)]
    exact tA i (by simpa using hi)
  have hB1 : Below w.heap.size w w1 := (((Below.refl _ _).alloc (Nat.le_refl _) _).alloc (by simp) _).trans (hb1.mono (by simp; omega))
  refine bodyPost_ret (v := .tuple #[.agg Tryz.zeroCells162, .bool false]) ?_ rfl ⟨rfl, below_setCells (by omega) _ _ _ hB1⟩
  have := results_cell_tmp_mid (fn := Tryz.f54) (p := 4) (u := 5) (ty := 162) (by rfl) #[Value.int IntKind.i64 ↑k, Value.agg (byts zs).toArray, undef,
          Value.pointer (some { block := w.heap.size, off := 0 }),
          Value.pointer (some { block := w.heap.size + 1, off := 0 }), Value.bool false, Value.int IntKind.i64 ↑k,
          Value.agg (byts zs).toArray, Value.bool false, Value.bool true, Value.agg Tryz.zeroCells162, undef, undef,
          undef, undef, undef, undef, undef, undef, undef] Tryz.prog (w1.setCells (w.heap.size + 1) 0 Tryz.zeroCells162.toList) (w.heap.size + 1) 0 Tryz.zeroCells162.toList _ (.bool false) rfl rfl (World.rangeAt_setCells_same _ _ _ _ hT1) Tryz.underlying162 rfl (by rw [Array.length_toList, zeros132_size]; exact size132)
  rw [Array.toArray_toList] at this
  exact this
end Go.Proofs.YtjmgafdlldglmaaGreatDoor
