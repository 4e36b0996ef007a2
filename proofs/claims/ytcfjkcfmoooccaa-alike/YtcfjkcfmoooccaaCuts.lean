import Derived.RangeFuncBox
import Derived.RangeFuncLeaves
import Derived.Shelf.Abstract
import Derived.WalkKit
import Derived.OwnWalkIn
import Derived.TacticsInMore
import Derived.LoopNIn
import Derived.LoopIn
import Derived.Maps.AppendAt
import Derived.Test.YtcfjkcfmoooccaaSmall
namespace Go.Proofs.Ytcfjkcfmoooccaa
open Go.RowKit Go.Shelf
set_option linter.unusedVariables false

attribute [local go_sem] Oper.semAt_some

/-- THE SLICE VALUE sv HOLDS THE NUMBERS zs, in a block between lo and hi; or it is empty and there are none. -/
def Row (k : IntKind) (lo hi : Nat) (W : World) (sv : Value) (zs : List Int) : Prop :=
  (∃ a cap, sv = .slice a 0 cap ∧ zs = []) ∨
  ∃ b off cap, sv = .slice (some ⟨b, off, none⟩) zs.length cap ∧ zs ≠ [] ∧ zs.length ≤ cap ∧ cap ≤ maxLen ∧ lo ≤ b ∧ b < hi ∧ ∀ j, j < zs.length → W.cell? ⟨b, off + j, none⟩ = some (.int k (zs[j]?.getD 0))

theorem Row.below {k : IntKind} {lo hi n₀ : Nat} {A B : World} {sv : Value} {zs : List Int} (h : Row k lo hi A sv zs) (hb : Below n₀ A B) (hn : hi ≤ n₀) : Row k lo hi B sv zs := by
  rcases h with h | ⟨b, off, cap, h1, h2, h3, h4, h5, h6, h7⟩
  · exact .inl h
  · exact .inr ⟨b, off, cap, h1, h2, h3, h4, h5, h6, fun j hj => (hb.cell (p := ⟨b, off + j, none⟩) (show b < n₀ by omega)).trans (h7 j hj)⟩

theorem Row.mono {k : IntKind} {lo hi lo' hi' : Nat} {A : World} {sv : Value} {zs : List Int} (h : Row k lo hi A sv zs) (hl : lo' ≤ lo) (hh : hi ≤ hi') : Row k lo' hi' A sv zs := by
  rcases h with h | ⟨b, off, cap, h1, h2, h3, h4, h5, h6, h7⟩
  · exact .inl h
  · exact .inr ⟨b, off, cap, h1, h2, h3, h4, by omega, by omega, h7⟩

def lenOf : Value → Nat | .slice _ n _ => n | _ => 0

theorem first_at (b off cap len : Nat) (zs : List Int) (w : World) (hl : zs.length = len) (hlen : len ≤ 70000) (hb : ∀ j : Nat, 0 ≤ zs[j]?.getD 0 ∧ zs[j]?.getD 0 ≤ 255)
    (hc : ∀ j, j < len → w.cell? ⟨b, off + j, none⟩ = some (.int .u8 (zs[j]?.getD 0))) :
    Calls Try.prog 14 #[.slice (some ⟨b, off, none⟩) len cap] w fun e w' => e = .returned (.int .i64 (scan 0 0 zs)) ∧ w = w' := by
  subst hl
  exact first_any b off cap zs w hlen hb hc

theorem getD_drop (zs : List Int) (p j : Nat) : (zs.drop p)[j]?.getD 0 = zs[p + j]?.getD 0 := by rw [List.getElem?_drop]

/-- The chunks that have come, and those to come. -/
theorem places_round (zs : List Int) (p : Nat) (pre : List (Nat × Nat)) (hp : p < zs.length) (h : places 0 (cuts zs) = pre ++ places p (cuts (zs.drop p))) :
    places 0 (cuts zs) = (pre ++ [(p, scan 0 0 (zs.drop p))]) ++ places (p + scan 0 0 (zs.drop p)) (cuts (zs.drop (p + scan 0 0 (zs.drop p)))) := by
  rw [h]
  have hne : zs.drop p ≠ [] := by
    intro e
    have := List.drop_eq_nil_iff.1 e
    omega
  conv => lhs; rw [cuts_cons hne]
  simp [places, List.drop_drop]

set_option maxRecDepth 100000 in
set_option maxHeartbeats 400000 in
theorem all1_in (l Bs n₀ b off len cap : Nat) (zs : List Int) (hl : zs.length = len) (hlen : len ≤ 70000) (hcap : len ≤ cap) (hcap2 : cap ≤ maxLen) (hb : b < n₀) (hz : ∀ j : Nat, 0 ≤ zs[j]?.getD 0 ∧ zs[j]?.getD 0 ≤ 255) (J Jx : List (Nat × Nat) → World → Prop)
    (hY : ∀ pre x W, J pre W → pre.length < (cuts zs).length → YieldAt Fence.wide 1 Try.prog l #[.slice (some ⟨b, off + x.1, none⟩) x.2 x.2] W fun e W' =>
      (e = .returned (.bool true) ∧ J (pre ++ [x]) W' ∧ Below n₀ W W') ∨ (e = .returned (.bool false) ∧ Jx (pre ++ [x]) W'))
    (W : World) (hBs : W.cell? ⟨Bs, 0, none⟩ = some (.slice (some ⟨b, off, none⟩) len cap)) (hc : ∀ j, j < len → W.cell? ⟨b, off + j, none⟩ = some (.int .u8 (zs[j]?.getD 0))) (h0 : J [] W) :
    CallsIn Fence.wide 2 Try.prog 13 #[.func (.yield l) #[] #[], .pointer (some ⟨Bs, 0, none⟩)] W fun e W' => (∃ v, e = .returned v) ∧
      ((∃ ys, ys = places 0 (cuts zs) ∧ J ys W') ∨ (∃ pre, pre <+: places 0 (cuts zs) ∧ Jx pre W')) := by
  have HL : Hid (zs.length = len) := hl
  clear hl
  unfold maxLen at hcap2
  have HC : Hid (∀ j, j < len → W.cell? ⟨b, off + j, none⟩ = some (.int .u8 (zs[j]?.getD 0))) := hc
  clear hc
  refine callsIn_of_wp Try.func13 rfl trivial ?_ rfl
  simp only [Try.ntmps13, List.size_toArray, List.length_cons, List.length_nil, Nat.reduceAdd, Nat.reduceSub, Array.replicate_succ, Array.replicate_zero, List.push_toArray, List.append_toArray, List.nil_append, List.cons_append]
  gi_wp2
  gi_loopw [3] (fun rest wr => ∃ (p o : Nat) (pre : List (Nat × Nat)), p ≤ len ∧ Hid (p < len → o = off + p) ∧ rest = .slice (some ⟨b, o, none⟩) (len - p) (cap - p) ∧ Hid (places 0 (cuts zs) = pre ++ places p (cuts (zs.drop p))) ∧ J pre wr ∧ Below n₀ W wr)
    (fun rest _ => lenOf rest)
  case atStart => exact ⟨0, off, [], Nat.zero_le _, fun _ => rfl, rfl, rfl, h0, Below.refl _ _⟩
  case round =>
    obtain ⟨p, o, pre, hp, ho, rfl, HP, hJs, hnx⟩ := hrel
    by_cases hlt : p < len
    · obtain rfl : o = off + p := ho.out hlt
      have hsc := places_round zs p pre (by rw [HL.out]; exact hlt) HP.out
      have hs1 : 1 ≤ scan 0 0 (zs.drop p) := by
        have hne : zs.drop p ≠ [] := by
          intro e
          have := List.drop_eq_nil_iff.1 e
          rw [HL.out] at this
          omega
        obtain ⟨x, r, hr⟩ := List.exists_cons_of_ne_nil hne
        rw [hr]
        exact scan_pos x r 0 0
      have hs2 := scan_le (zs.drop p) 0 0
      rw [List.length_drop, HL.out] at hs2
      have hfirst := fun w' (hc' : ∀ j, j < len - p → w'.cell? ⟨b, off + p + j, none⟩ = some (.int .u8 ((zs.drop p)[j]?.getD 0))) => first_at b (off + p) (cap - p) (len - p) (zs.drop p) w' (by rw [List.length_drop, HL.out]) (by omega) (by intro j; rw [getD_drop]; exact hz _) hc'
      have hcx : ∀ j, j < len - p → wr.cell? ⟨b, off + p + j, none⟩ = some (.int .u8 ((zs.drop p)[j]?.getD 0)) := by
        intro j hj
        rw [getD_drop, hnx.cell (p := ⟨b, off + p + j, none⟩) hb, Nat.add_assoc]
        exact HC.out (p + j) (by omega)
      have hF := hfirst wr hcx
      clear hfirst hcx
      obtain ⟨n, hn⟩ : ∃ n, scan 0 0 (zs.drop p) = n := ⟨_, rfl⟩
      rw [hn] at hsc hs1 hs2 hF
      clear hn
      have HSC : Hid (places 0 (cuts zs) = pre ++ [(p, n)] ++ places (p + n) (cuts (zs.drop (p + n)))) := hsc
      clear hsc
      obtain ⟨fn, tmps, assign, body, hy, hR⟩ := hY _ (p, n) wr hJs (by
        have := congrArg List.length HSC.out
        rw [places_length] at this
        simp at this
        omega)
      dsimp only at hy
      gi_wp2_with (refine ⟨trivial, ?_⟩; gi_at_call 14; refine (callsIn_wide.2 hF).mono ?_; rintro e w1 ⟨rfl, rfl⟩)
      refine hR.mono ?_
      rintro e W3 (⟨rfl, hJ3, hk3⟩ | ⟨rfl, hJx3⟩)
      · gi_wp2
        go_roundw
        case rel =>
          by_cases hcn : cap - p = n
          · exact ⟨p + n, off + p, pre ++ [(p, n)], by omega, fun h => by omega, by rw [if_pos hcn]; simp only [Nat.sub_sub], HSC, hJ3, hnx.trans hk3⟩
          · exact ⟨p + n, off + p + n, pre ++ [(p, n)], by omega, fun _ => by omega, by rw [if_neg hcn]; simp only [Nat.sub_sub], HSC, hJ3, hnx.trans hk3⟩
        case measure => simp [lenOf]; omega
      · gi_wp2
        refine bodyPost_ret (results_none rfl _ _ _) rfl ?_
        exact ⟨⟨_, rfl⟩, .inr ⟨_, ⟨_, HSC.out.symm⟩, hJx3⟩⟩
    · obtain rfl : p = len := by omega
      gi_wp2
      go_end0
      refine ⟨⟨_, rfl⟩, .inl ⟨_, ?_, hJs⟩⟩
      have := HP.out
      rw [List.drop_of_length_le (by rw [HL.out]; exact Nat.le_refl _)] at this
      simpa [cuts_nil, places] using this.symm

set_option maxRecDepth 100000 in
set_option maxHeartbeats 400000 in
/-- .. at an empty slice: no round. -/
theorem all1_nil_in (l Bs : Nat) (a : Option Addr) (cap : Nat) (J : List (Nat × Nat) → World → Prop) (W : World) (hBs : W.cell? ⟨Bs, 0, none⟩ = some (.slice a 0 cap)) (h0 : J [] W) :
    CallsIn Fence.wide 2 Try.prog 13 #[.func (.yield l) #[] #[], .pointer (some ⟨Bs, 0, none⟩)] W fun e W' => (∃ v, e = .returned v) ∧ J [] W' := by
  refine callsIn_of_wp Try.func13 rfl trivial ?_ rfl
  simp only [Try.ntmps13, List.size_toArray, List.length_cons, List.length_nil, Nat.reduceAdd, Nat.reduceSub, Array.replicate_succ, Array.replicate_zero, List.push_toArray, List.append_toArray, List.nil_append, List.cons_append]
  gi_wp2
  gi_loopw [3] (fun i wr => i = .slice a 0 cap ∧ J [] wr) (fun _ _ => 0)
  case atStart => exact ⟨rfl, h0⟩
  case round =>
    obtain ⟨rfl, hJs⟩ := hrel
    gi_wp2
    go_end0
    exact ⟨⟨_, rfl⟩, hJs⟩

set_option maxHeartbeats 400000 in
/-- chunk.All: the slice value is boxed; the function value captures the box. -/
theorem all_in (n : Nat) (a : Option Addr) (len cap : Nat) (w : World) :
    CallsIn Fence.wide n Try.prog 10 #[.slice a len cap] w fun e w' => e = .returned (.func (.func 13) #[] #[.pointer (some ⟨w.heap.size, 0, none⟩)]) ∧ w.alloc (.cells #[.slice a len cap] 22) = w' := by
  refine callsIn_of_wp Try.func10 rfl trivial ?_ rfl
  simp only [Try.ntmps10, List.size_toArray, List.length_cons, List.length_nil, Nat.reduceAdd, Nat.reduceSub, Array.replicate_succ, Array.replicate_zero, List.push_toArray, List.append_toArray, List.nil_append, List.cons_append]
  gi_wp2
  go_ret
  exact ⟨rfl, rfl⟩

theorem all_stops (Bs n₀ b off : Nat) (sv : Value) (zs : List Int) (hlen : zs.length ≤ 70000) (hz : ∀ j : Nat, 0 ≤ zs[j]?.getD 0 ∧ zs[j]?.getD 0 ≤ 255) (w : World) (hBs : Bs < w.heap.size) (hn₀ : n₀ ≤ w.heap.size)
    (hc : w.cell? ⟨Bs, 0, none⟩ = some sv)
    (hI : (∃ a cap, sv = .slice a 0 cap ∧ zs = []) ∨ ∃ cap, sv = .slice (some ⟨b, off, none⟩) zs.length cap ∧ zs.length ≤ cap ∧ cap ≤ maxLen ∧ b < n₀ ∧ ∀ j, j < zs.length → w.cell? ⟨b, off + j, none⟩ = some (.int .u8 (zs[j]?.getD 0))) :
    SeqStopsK Fence.wide 2 Try.prog 13 #[.pointer (some ⟨Bs, 0, none⟩)] (fun x : Nat × Nat => #[Value.slice (some ⟨b, off + x.1, none⟩) x.2 x.2]) (Below n₀) (fun ys => ys = places 0 (cuts zs)) (fun pre => pre <+: places 0 (cuts zs)) (cuts zs).length w := fun l J Jx W hW _ _ hY h0 => by
  have hc' := (hW.cell (p := ⟨Bs, 0, none⟩) hBs).trans hc
  rcases hI with ⟨a, cap, rfl, rfl⟩ | ⟨cap, rfl, h1, h2, h3, h4⟩
  · exact (all1_nil_in l Bs a cap J W hc' h0).mono fun e W' ⟨he, hj⟩ => ⟨he, .inl ⟨_, rfl, hj⟩⟩
  · exact all1_in l Bs n₀ b off zs.length cap zs rfl hlen h1 h2 h3 hz J Jx hY W hc' (fun j hj => (hW.cell (p := ⟨b, off + j, none⟩) (show b < w.heap.size by omega)).trans (h4 j hj)) h0

theorem info3 : (Try.prog.info? 3).map (fun i => (i.zero, i.size, i.bytes)) = some (some (.int .i64 0), 1, 8) := by kernel_rfl

def vals (cs : List Nat) : List Value := cs.map fun c : Nat => Value.int .i64 (c : Int)

set_option maxRecDepth 100000 in
set_option maxHeartbeats 1000000 in
theorem cuts_in (b off : Nat) (a : Option Addr) (len cap : Nat) (zs : List Int) (hl : zs.length = len) (hlen : zs.length ≤ 70000) (hz : ∀ j : Nat, 0 ≤ zs[j]?.getD 0 ∧ zs[j]?.getD 0 ≤ 255) (w : World)
    (hI : zs = [] ∨ (a = some ⟨b, off, none⟩ ∧ len ≤ cap ∧ cap ≤ maxLen ∧ b < w.heap.size ∧ ∀ j, j < zs.length → w.cell? ⟨b, off + j, none⟩ = some (.int .u8 (zs[j]?.getD 0)))) :
    CallsIn Fence.wide 3 Try.prog 6 #[.slice a len cap] w fun e W' => ∃ v, e = .returned v ∧ W'.ownsRow w.heap.size 3 1 v (cuts zs).length (vals (cuts zs)) ∧ Below w.heap.size w W' := by
  have HL : Hid (zs.length = len) := hl
  clear hl
  obtain ⟨i0, hi, hz0, hz1, hz2⟩ := info_parts info3
  refine callsIn_of_wp_marks Try.func6 rfl trivial ?_ rfl
  simp only [Try.ntmps6, List.size_toArray, List.length_cons, List.length_nil, Nat.reduceAdd, Nat.reduceSub, Array.replicate_succ, Array.replicate_zero, List.push_toArray, List.append_toArray, List.nil_append, List.cons_append]
  gi_wp2_with (refine ⟨trivial, ?_⟩; gi_at_call 10; refine (all_in _ _ _ _ _).mono ?_; rintro e w' ⟨rfl, rfl⟩)
  have bO := Boxed.new w 24 (.slice none 0 0)
  have bN := Boxed.new (w.alloc (.cells #[.slice none 0 0] 24)) 22 (.slice a len cap)
  rw [World.size_alloc] at bN
  have hB0 : Below w.heap.size w ((w.alloc (.cells #[.slice none 0 0] 24)).alloc (.cells #[.slice a len cap] 22)) := ((Below.refl _ w).alloc (Nat.le_refl _) _).alloc (by simp) _
  refine wpIn_rangeFunc_ownG rfl (by omega) (gf := 13) (lb := #[.pointer (some ⟨w.heap.size + 1, 0, none⟩)]) rfl trivial (enters_of Try.func13 (by kernel_rfl) rfl)
    (all_stops (w.heap.size + 1) w.heap.size b off _ zs hlen hz _ (by simp) (by simp; omega) bN.cell (hI.imp (fun h => ⟨a, cap, by have := HL.out; rw [h] at this; simp at this; rw [← this], h⟩) (fun ⟨h1, h2, h3, h4, h5⟩ => ⟨cap, by rw [h1, HL.out], by rw [HL.out]; exact h2, h3, h4, fun j hj => (hB0.cell (p := ⟨b, off + j, none⟩) h4).trans (h5 j hj)⟩))) belowK_t (belowK_b (by simp; omega)) (Below.refl _ _) (fun _ => rfl)
    (fun pre W => (∃ v, Boxed W w.heap.size 24 v ∧ W.ownsRow w.heap.size 3 1 v pre.length (vals (pre.map (·.2))) ∧ True) ∧ Below w.heap.size w W)
    (fun _ _ _ => False)
    (OwnFrom.and (Own.from (holdsRow_own w.heap.size w.heap.size 24 3 1 (fun pre : List (Nat × Nat) => pre.length) (fun pre => vals (pre.map (·.2))) (fun _ _ => True)) _) (ownFrom_below (Nat.le_refl _) (by simp; omega)))
    (fun _ _ _ _ _ hs _ _ => hs)
    ⟨⟨_, bO.alloc _, World.ownsRow_nil _ _ _ _, trivial⟩, hB0⟩
    (fun x => { tmps := #[.slice a len cap, undef, .slice none 0 0, .pointer (some ⟨w.heap.size, 0, none⟩), .slice (some ⟨b, off + x.1, none⟩) x.2 x.2, .slice a len cap, .func (.func 13) #[] #[.pointer (some ⟨w.heap.size + 1, 0, none⟩)], .slice (some ⟨b, off + x.1, none⟩) x.2 x.2, undef, undef, undef, undef, undef, undef], defers := [] }) ?assign ?body ?done ?stop
  case assign =>
    intro l x W K hK
    gi_wp2
    exact hK
  case body =>
    rintro l pre x W ⟨⟨v, hv, hrow, _⟩, hB⟩ hlt
    have hc := hv.cell
    have hpl : (cuts zs).length ≤ 70000 := Nat.le_trans (cuts_length_le zs) hlen
    have hpl2 : pre.length ≤ 70000 := by omega
    gi_wp2_with (gi_at_builtin; refine wpListIn_append_own _ rfl _ _ 24 rfl w.heap.size 3 i0 (.int .i64 0) 1 8 Try.underlying24 hi hz0 hz1 hz2 rfl (by decide) _ _ _ rfl (hrow.alloc _) ⟨W.heap.size, 0, none⟩ 1 1 [.int .i64 x.2] rfl rfl (cell_one_new _ _ _) (by simp [Value.oneCell']) (by unfold maxLen; omega) (by omega) (by have := hB.size; simp; omega) ?_; intro v' w1 hown' hgrow _; obtain ⟨g', cap', rfl⟩ := ownsRow_succ hown'; obtain ⟨hv1, hv2, hr2, hk2, hb2⟩ := hv.appended (by decide) hrow hB.size (Nat.le_refl _) hown' hgrow; have hc1 := hv1.cell; have hf1 := hv1.frozen)
    exact ⟨hk2.from _, hb2, ⟨_, hv2, by simpa [vals] using hr2, trivial⟩, hB.trans hb2⟩
  case done =>
    rintro D ys W hD rfl ⟨⟨v, hv, hrow, _⟩, hB⟩ hK
    have hc := hv.cell
    gi_wp2
    refine ⟨by simp, .inl ⟨_, _, rfl, run_takeDeferred hK, ?_⟩⟩
    rw [places_snd, places_length] at hrow
    exact ⟨_, results_tmp rfl _ _ _, v, rfl, ownsRow_putObj hrow _ hK rfl, hB.trans (belowK_b (w := w) (Nat.le_refl _) W D _ _ (by simp at hD; omega) hK rfl rfl)⟩
  case stop =>
    rintro D c pre W _ _ h _
    exact h.elim

/-- **versions.Cuts**, at whatever slice of bytes. -/
theorem cuts_any (sv : Value) (zs : List Int) (hlen : zs.length ≤ 70000) (hz : ∀ j : Nat, 0 ≤ zs[j]?.getD 0 ∧ zs[j]?.getD 0 ≤ 255) (w : World) (hB : Row .u8 0 w.heap.size w sv zs) :
    Calls Try.prog 6 #[sv] w fun e W' => ∃ v, e = .returned v ∧ W'.ownsRow w.heap.size 3 1 v (cuts zs).length (vals (cuts zs)) ∧ Below w.heap.size w W' := by
  refine (callsIn_wide (n := 3)).1 ?_
  rcases hB with ⟨a, cap, rfl, rfl⟩ | ⟨b, off, cap, rfl, h2, h3, h4, _, h6, h7⟩
  · exact cuts_in 0 0 a 0 cap [] rfl hlen hz w (.inl rfl)
  · exact cuts_in b off _ _ cap zs rfl hlen hz w (.inr ⟨rfl, h3, h4, h6, h7⟩)
#print axioms cuts_any
end Go.Proofs.Ytcfjkcfmoooccaa
