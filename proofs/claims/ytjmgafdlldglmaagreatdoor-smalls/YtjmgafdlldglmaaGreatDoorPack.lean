import Derived.Test.YtjmgafdlldglmaaGreatDoorDev
namespace Go.Proofs.YtjmgafdlldglmaaGreatDoor
open Go.RowKit
set_option maxRecDepth 100000
set_option linter.unusedVariables false

/-- A number's bytes, the lowest first. -/
def leB (n : Int) : Nat → List Value
  | 0 => []
  | k + 1 => .int .u8 (n % 256) :: leB (n / 256) k

theorem leB_length (n : Int) (k : Nat) : (leB n k).length = k := by
  induction k generalizing n with
  | zero => rfl
  | succ k ih => simp [leB, ih]
theorem leB_one (n : Int) (k : Nat) : ∀ v ∈ leB n k, v.oneCell' = true := by
  induction k generalizing n with
  | zero => simp [leB]
  | succ k ih =>
    intro v hv
    rcases List.mem_cons.1 hv with rfl | hv
    · rfl
    · exact ih _ v hv

theorem there_setCell {w : World} {b' o' n : Nat} (h : w.there b' o' n) (b o : Nat) (v : Value) : (w.setCell ⟨b, o, none⟩ v).there b' o' n := World.there_setCells h b o [v]

theorem leB_round {W w : World} {b off k len : Nat} {m n : Int} (hlt : k < len) (h : W.setCells b (off + k) (leB m (len - k)) = w.setCells b off (leB n len)) :
    (W.setCell ⟨b, off + k, none⟩ (.int .u8 (m % 256))).setCells b (off + (k + 1)) (leB (m / 256) (len - (k + 1))) = w.setCells b off (leB n len) := by
  rw [← h]
  obtain ⟨q, hq⟩ : ∃ q, len - k = q + 1 := ⟨len - k - 1, by omega⟩
  have hq' : len - (k + 1) = q := by omega
  rw [hq, hq']
  rfl

set_option maxHeartbeats 1000000 in
theorem put_any (b off len cap : Nat) (n : Int) (w : World) (h0 : 0 ≤ n) (h1 : n < 18446744073709551616) (hlen : len ≤ 1000) (ht : w.there b off len) :
    Calls Tryz.prog 83 #[.slice (some ⟨b, off, none⟩) len cap, .int .u64 n] w fun e w' => e = .returned (.tuple #[]) ∧ w' = w.setCells b off (leB n len) := by
  go_enter Tryz.func83, Tryz.ntmps83
  go_wp2_with fail
  go_loopw [1, 7] (fun a i W => ∃ (k : Nat) (m : Int), k ≤ len ∧ i = .int .i64 k ∧ 0 ≤ m ∧ m < 18446744073709551616 ∧ a = .int .u64 m ∧ W.there b off len ∧ Hid (W.setCells b (off + k) (leB m (len - k)) = w.setCells b off (leB n len))) (fun _ i _ => len - (intOf i).toNat)
  case atStart => exact ⟨0, n, Nat.zero_le _, rfl, h0, h1, rfl, ht, show _ = _ from rfl⟩
  case round =>
    obtain ⟨k, m, hk, rfl, hm0, hm1, rfl, hT, HE⟩ := hrel
    by_cases hlt : k < len
    · obtain ⟨hs, hf⟩ := hT k hlt
      obtain ⟨x, hx⟩ := Option.isSome_iff_exists.1 hs
      clear hs
      have hi1 : (k : Int) < len := by omega
      go_wp2
      exact ⟨⟨k + 1, m / 256, by omega, by go_num, by omega, by omega, rfl, there_setCell hT _ _ _, leB_round hlt HE.out⟩, by simp [intOf]; omega⟩
    · have hi1 : ¬ ((k : Int) < len) := by omega
      go_wp2
      go_end0
      have hz : len - k = 0 := by omega
      have := HE.out
      rw [hz] at this
      exact ⟨rfl, this⟩

/-- The sum of bytes, from h on. -/
def fnv (h : Int) : List Int → Int
  | [] => h
  | b :: r => fnv (bits .xor .u32 h b * 16777619 % 4294967296) r

theorem fnv_round (H x : Int) (zs : List Int) (k : Nat) (T : Int) (hk : k < zs.length) (hx : zs[k]?.getD 0 = x) (h : fnv H (zs.drop k) = T) : fnv (bits .xor .u32 H x * 16777619 % 4294967296) (zs.drop (k + 1)) = T := by
  rw [← h, List.drop_eq_getElem_cons hk, fnv]
  rw [List.getElem?_eq_getElem hk] at hx
  simp at hx
  rw [hx]
theorem fnv_bd (H : Int) (zs : List Int) (h0 : 0 ≤ H) (h1 : H < 4294967296) : 0 ≤ fnv H zs ∧ fnv H zs < 4294967296 := by
  induction zs generalizing H with
  | nil => exact ⟨h0, h1⟩
  | cons x r ih => exact ih _ (by omega) (by omega)

theorem hid_refl (a : Int) : Hid (a = a) := show a = a from rfl
theorem hid_refl_list (a : List Value) : Hid (a = a) := show a = a from rfl
theorem size138 : (Tryz.prog.info? 79).map (·.size) = some 4 := by kernel_rfl
theorem results_cell_mid {fn : Func} {p : Tmp} {ty : TypeId} (h : fn.results = #[.cell p ty]) (tmps : Array Value) (P : Program) (w : World) (b o : Nat) (cs : List Value) (d : TypeDesc)
    (hp : tmps.getD p undef = .pointer (some ⟨b, o, none⟩)) (hc : w.rangeAt b o cs) (hu : P.underlying ty = some d) (hd : d.isRow = true) (hi : (P.info? ty).map (·.size) = some cs.length) :
    (results fn tmps).run P w = .ok (.agg cs.toArray) w := by
  have hp' : tmps[p]?.getD undef = .pointer (some ⟨b, o, none⟩) := by simpa using hp
  simp [results, h, hp', asAddr, run_loadVar_mid w b o ty cs d hc hu hd hi]

set_option maxHeartbeats 1000000 in
theorem sumOf_any (g : Int) (b off len cap : Nat) (zs : List Int) (w : World) (h0 : 0 ≤ g) (h1 : g < 4294967296) (hl : zs.length = len) (hlen : len ≤ 100000) (hz : ∀ j : Nat, 0 ≤ zs[j]?.getD 0 ∧ zs[j]?.getD 0 ≤ 255) (hb : b < w.heap.size)
    (hc : ∀ j, j < len → w.cell? ⟨b, off + j, none⟩ = some (.int .u8 (zs[j]?.getD 0))) :
    Calls Tryz.prog 75 #[.int .u32 g, .slice (some ⟨b, off, none⟩) len cap] w fun e w' => e = .returned (.agg (leB (fnv (bits .xor .u32 2166136261 g * 16777619 % 4294967296) zs) 4).toArray) ∧ Below w.heap.size w w' := by
  have HL : Hid (zs.length = len) := hl
  clear hl
  have HC : Hid (∀ j, j < len → w.cell? ⟨b, off + j, none⟩ = some (.int .u8 (zs[j]?.getD 0))) := hc
  clear hc
  have HZ : Hid (∀ j : Nat, 0 ≤ zs[j]?.getD 0 ∧ zs[j]?.getD 0 ≤ 255) := hz
  clear hz
  go_enter Tryz.func75, Tryz.ntmps75
  go_wp2_with fail
  go_loop [5, 14] (fun h i => ∃ (k : Nat) (H : Int), k ≤ len ∧ i = .int .i64 k ∧ 0 ≤ H ∧ H < 4294967296 ∧ h = .int .u32 H ∧ Hid (fnv H (zs.drop k) = fnv (bits .xor .u32 2166136261 g * 16777619 % 4294967296) zs)) (fun _ i => len - (intOf i).toNat)
  case atStart =>
    have hb0 : 0 ≤ bits .xor .u32 2166136261 g * 16777619 % 4294967296 := Int.emod_nonneg _ (by decide)
    have hb1 : bits .xor .u32 2166136261 g * 16777619 % 4294967296 < 4294967296 := Int.emod_lt_of_pos _ (by decide)
    generalize bits .xor .u32 2166136261 g * 16777619 % 4294967296 = H0 at *
    exact ⟨0, H0, Nat.zero_le _, rfl, hb0, hb1, rfl, by rw [List.drop_zero]; exact hid_refl _⟩
  case round =>
    obtain ⟨k, H, hk, rfl, hH0, hH1, rfl, HE⟩ := hrel
    by_cases hlt : k < len
    · have hx := HC.out k hlt
      have hzk := HZ.out k
      have HX : Hid (fnv (bits .xor .u32 H (zs[k]?.getD 0) * 16777619 % 4294967296) (zs.drop (k + 1)) = fnv (bits .xor .u32 2166136261 g * 16777619 % 4294967296) zs) := fnv_round H _ zs k _ (by rw [HL.out]; exact hlt) rfl HE.out
      generalize zs[k]?.getD 0 = z at hx hzk HX
      obtain ⟨hz0, hz1⟩ := hzk
      have hi1 : (k : Int) < len := by omega
      go_wp2
      go_round
      case rel =>
        have hb0 : 0 ≤ bits .xor .u32 H z * 16777619 % 4294967296 := Int.emod_nonneg _ (by decide)
        have hb1 : bits .xor .u32 H z * 16777619 % 4294967296 < 4294967296 := Int.emod_lt_of_pos _ (by decide)
        generalize bits .xor .u32 H z * 16777619 % 4294967296 = H1 at *
        exact ⟨k + 1, H1, by omega, by go_num, hb0, hb1, rfl, HX⟩
      case measure => simp [intOf]; omega
    · have hi1 : ¬ ((k : Int) < len) := by omega
      have hfin : fnv H [] = fnv (bits .xor .u32 2166136261 g * 16777619 % 4294967296) zs := by
        rw [← HE.out, List.drop_eq_nil_of_le (by rw [HL.out]; omega)]
      have HF : Hid (H = fnv (bits .xor .u32 2166136261 g * 16777619 % 4294967296) zs) := hfin
      clear hfin HE
      have tA : (w.alloc (.cells #[Value.int .u8 0, Value.int .u8 0, Value.int .u8 0, Value.int .u8 0] 79)).there w.heap.size 0 4 := there_new w _ _
      have tB : ((w.alloc (.cells #[Value.int .u8 0, Value.int .u8 0, Value.int .u8 0, Value.int .u8 0] 79)).alloc (.cells #[Value.int .u8 0, Value.int .u8 0, Value.int .u8 0, Value.int .u8 0] 79)).there (w.heap.size + 1) 0 4 := by
        have := there_new (w.alloc (.cells #[Value.int .u8 0, Value.int .u8 0, Value.int .u8 0, Value.int .u8 0] 79)) #[Value.int .u8 0, Value.int .u8 0, Value.int .u8 0, Value.int .u8 0] 79
        simpa using this
      have hlB := leB_length H 4
      have HLB : Hid ((leB H 4).length = 4) := hlB
      clear hlB
      go_wp2_with fail
      refine (put_any (w.heap.size + 1) 0 4 4 H _ hH0 (by omega) (by omega) tB).mono ?_
      rintro e w1 ⟨rfl, rfl⟩
      have HR : Hid ((((w.alloc (.cells #[Value.int .u8 0, Value.int .u8 0, Value.int .u8 0, Value.int .u8 0] 79)).alloc (.cells #[Value.int .u8 0, Value.int .u8 0, Value.int .u8 0, Value.int .u8 0] 79)).setCells (w.heap.size + 1) 0 (leB H 4)).rangeAt (w.heap.size + 1) 0 (leB H 4) ∧ (((w.alloc (.cells #[Value.int .u8 0, Value.int .u8 0, Value.int .u8 0, Value.int .u8 0] 79)).alloc (.cells #[Value.int .u8 0, Value.int .u8 0, Value.int .u8 0, Value.int .u8 0] 79)).setCells (w.heap.size + 1) 0 (leB H 4)).there w.heap.size 0 4 ∧ Below w.heap.size w (((w.alloc (.cells #[Value.int .u8 0, Value.int .u8 0, Value.int .u8 0, Value.int .u8 0] 79)).alloc (.cells #[Value.int .u8 0, Value.int .u8 0, Value.int .u8 0, Value.int .u8 0] 79)).setCells (w.heap.size + 1) 0 (leB H 4))) :=
        ⟨World.rangeAt_setCells_same _ _ _ _ (by rw [HLB.out]; exact tB), World.there_setCells (World.there_alloc tA _) _ _ _, below_setCells (by omega) _ _ _ (((Below.refl _ _).alloc (Nat.le_refl _) _).alloc (by simp) _)⟩
      clear tA tB
      generalize (((w.alloc (.cells #[Value.int .u8 0, Value.int .u8 0, Value.int .u8 0, Value.int .u8 0] 79)).alloc (.cells #[Value.int .u8 0, Value.int .u8 0, Value.int .u8 0, Value.int .u8 0] 79)).setCells (w.heap.size + 1) 0 (leB H 4)) = W2 at HR ⊢
      have h1' := leB_one H 4
      have HQ : Hid (leB H 4 = leB (fnv (bits .xor .u32 2166136261 g * 16777619 % 4294967296) zs) 4) := by rw [← HF.out]; exact hid_refl_list _
      generalize leB H 4 = L at HR HLB h1' HQ ⊢
      obtain ⟨hR2, hT2, hB2⟩ := HR.out
      go_wp2_with (first
        | (refine wpList_load_mid rfl 79 _ rfl (w.heap.size + 1) 0 (by go_simp) L _ hR2 Tryz.underlying79 rfl (by rw [HLB.out]; exact size138) ?_)
        | (refine wpList_store_mid rfl 79 _ _ rfl w.heap.size 0 L.toArray (by go_simp) (by go_simp) (by simpa [HLB.out] using hT2) (by simp [HLB.out, size138]) (all_oneCell_toArray h1') ?_))
      refine bodyPost_ret (v := .agg L.toArray) (results_cell_mid (by rfl) _ _ _ w.heap.size 0 L _ rfl (World.rangeAt_setCells_same _ _ _ _ (by rw [HLB.out]; exact hT2)) Tryz.underlying79 rfl (by rw [HLB.out]; exact size138)) rfl ⟨by rw [HQ.out], ?_⟩
      exact below_setCells (Nat.le_refl _) _ _ _ hB2
end Go.Proofs.YtjmgafdlldglmaaGreatDoor
