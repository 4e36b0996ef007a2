import Derived.Test.YtcfjkcfmoooccaaGreatDoorRows
import Derived.WalkKit
import Derived.ProofKit
import Derived.OwnWalk
import Derived.Deep.QuietTactic
import Derived.BigQuiet
import Derived.Deep.MidRow
import Derived.Deep.RegionHeld3
import Derived.Laws.ResultCell
namespace Go.Proofs.YtcfjkcfmoooccaaGreatDoor
open Go.RowKit
set_option maxRecDepth 100000
set_option linter.unusedVariables false
theorem size90 : (Tryz.prog.info? 113).map (·.size) = some 128 := by kernel_rfl
theorem zeros90 : Tryz.zeroCells113 = (List.replicate 128 (Value.int .u8 0)).toArray := by kernel_rfl
theorem zeros90_size : Tryz.zeroCells113.size = 128 := by rw [zeros90]; simp

/-- A cell that is written with what it holds: nothing turns. -/
theorem setCell_self {w : World} {b o : Nat} {v : Value} (h : w.cell? ⟨b, o, none⟩ = some v) : w.setCell ⟨b, o, none⟩ v = w := by
  have hm : (w.heap.modify b fun
      | .cells c elem frozen => .cells (if (none : Option Nat).isSome then c else c.setIfInBounds o v) elem frozen
      | o => o) = w.heap := by
    apply Array.ext
    · simp
    · intro i h1 h2
      rw [Array.getElem_modify]
      split
      · rename_i hi
        subst hi
        simp only [World.cell?, Array.getElem?_eq_getElem h2] at h
        cases hx : w.heap[b] with
        | cells cs t fr =>
          simp only [hx] at h ⊢
          have h' : cs[o]? = some v := h
          have : cs.setIfInBounds o v = cs := by
            apply Array.ext
            · simp
            · intro j g1 g2
              rw [Array.getElem_setIfInBounds g2]
              split
              · rename_i hj
                subst hj
                rw [Array.getElem?_eq_getElem g2] at h'
                exact (Option.some.inj h').symm
              · rfl
          simp [this]
        | _ => simp_all
      · rfl
  have e : ∀ h' : Array Obj, h' = w.heap → ({ w with heap := h' } : World) = w := fun h' e => by rw [e]
  exact e _ hm

theorem results_cell_tmp_mid {fn : Func} {p u : Tmp} {ty : TypeId} (h : fn.results = #[.cell p ty, .tmp u]) (tmps : Array Value) (P : Program) (w : World) (b o : Nat) (cs : List Value) (d : TypeDesc) (v : Value)
    (hp : tmps.getD p undef = .pointer (some ⟨b, o, none⟩)) (hv : tmps.getD u undef = v) (hc : w.rangeAt b o cs) (hu : P.underlying ty = some d) (hd : d.isRow = true) (hi : (P.info? ty).map (·.size) = some cs.length) :
    (results fn tmps).run P w = .ok (.tuple #[.agg cs.toArray, v]) w := by
  have hp' : tmps[p]?.getD undef = .pointer (some ⟨b, o, none⟩) := by simpa using hp
  have hv' : tmps[u]?.getD undef = v := by simpa using hv
  simp [results, h, hp', hv', asAddr, run_loadVar_mid w b o ty cs d hc hu hd hi]

theorem there_new (w : World) (cs : Array Value) (t : TypeId) : (w.alloc (.cells cs t)).there w.heap.size 0 cs.size := fun j hj => by
  have hh : (w.alloc (.cells cs t)).heap[w.heap.size]? = some (.cells cs t (0, 0)) := heap_alloc_new w _
  exact ⟨by rw [cell_of_row _ _ _ _ _ _ hh]; simpa using hj, frozen_of_row _ _ _ _ _ hh⟩

theorem there_new90 (w : World) : (w.alloc (.cells Tryz.zeroCells113 113)).there w.heap.size 0 128 := by
  have := there_new w Tryz.zeroCells113 113
  rw [zeros90_size] at this
  exact this

theorem below_setCells {n b : Nat} {w : World} (hb : n ≤ b) : ∀ (vs : List Value) (o : Nat) (w' : World), Below n w w' → Below n w (w'.setCells b o vs)
  | [], _, _, h => h
  | v :: r, o, w', h => by
    rw [World.setCells]
    exact below_setCells hb r (o + 1) _ (h.setCell hb _)

theorem rangeAt_below {n : Nat} {w w' : World} (h : Below n w w') {b o : Nat} {cs : List Value} (hb : b < n) (hr : w.rangeAt b o cs) : w'.rangeAt b o cs := fun j v hv => by
  rw [h.cell (p := ⟨b, o + j, none⟩) hb]; exact hr j v hv

set_option maxHeartbeats 400000 in
theorem off_any (d : Nat) (w : World) (h : w.cell? ⟨d, 3, none⟩ = some (.int .i64 (-1))) :
    Calls Tryz.prog 80 #[.pointer (some ⟨d, 0, none⟩)] w fun e w' => e = .returned (.bool false) ∧ w = w' := by
  go_enter Tryz.func80, Tryz.ntmps80
  go_wp2
  go_ret
  exact ⟨rfl, rfl⟩
set_option maxHeartbeats 400000 in
theorem sectors_any (d : Nat) (w : World) (a : Option Addr) (n c : Nat) (h : w.cell? ⟨d, 0, none⟩ = some (.slice a n c)) :
    Calls Tryz.prog 7 #[.pointer (some ⟨d, 0, none⟩)] w fun e w' => e = .returned (.int .i64 n) ∧ w = w' := by
  go_enter Tryz.func7, Tryz.ntmps7
  go_wp2
  go_ret
  exact ⟨rfl, rfl⟩

/-- A DEVICE whose power is on: n sectors; what they have now lies in block bn. -/
structure Dev (w : World) (d bn n : Nat) : Prop where
  small : n ≤ 100000
  wait : w.cell? ⟨d, 3, none⟩ = some (.int .i64 (-1))
  safe : ∃ sa c, w.cell? ⟨d, 0, none⟩ = some (.slice sa n c)
  now : ∃ c, w.cell? ⟨d, 1, none⟩ = some (.slice (some ⟨bn, 0, none⟩) n c)

theorem Dev.below {w w' : World} {d bn n m : Nat} (h : Dev w d bn n) (hb : Below m w w') (hd : d < m) : Dev w' d bn n :=
  ⟨h.small, by rw [hb.cell (p := ⟨d, 3, none⟩) hd]; exact h.wait, by rw [hb.cell (p := ⟨d, 0, none⟩) hd]; exact h.safe, by rw [hb.cell (p := ⟨d, 1, none⟩) hd]; exact h.now⟩
theorem Dev.lt {w : World} {d bn n : Nat} (h : Dev w d bn n) : d < w.heap.size := World.block_lt_of_cell? w _ h.wait

set_option maxHeartbeats 1000000 in
theorem read_any (d bn k n : Nat) (w : World) (hD : Dev w d bn n) (hat : k < n) (vs : List Value) (hvs : vs.length = 128) (hv1 : ∀ v ∈ vs, v.oneCell' = true)
    (hc : w.rangeAt bn (k * 128) vs) :
    Calls Tryz.prog 57 #[.pointer (some ⟨d, 0, none⟩), .int .i64 k] w fun e w' => e = .returned (.tuple #[.agg vs.toArray, .nilIface]) ∧ Below w.heap.size w w' := by
  have HV : Hid (vs.length = 128) := hvs
  clear hvs
  have hd : d < w.heap.size := hD.lt
  obtain ⟨hn, h3, ⟨sa, c, h0⟩, ⟨c', h1⟩⟩ := hD
  have e1 : (k : Int) < n := by omega
  go_enter Tryz.func57, Tryz.ntmps57
  go_wp2_with (first
    | (go_at_call 80; refine (off_any d _ (by go_simp)).mono ?_; rintro e w' ⟨rfl, rfl⟩)
    | (refine wpList_load_mid rfl 113 _ rfl bn (k * 128) (by go_simp) vs _ (World.rangeAt_alloc (World.rangeAt_alloc hc _) _) Tryz.underlying113 rfl (by rw [HV.out]; exact size90) ?_)
    | (refine wpList_store_mid rfl 113 _ _ rfl w.heap.size 0 vs.toArray (by go_simp) (by go_simp) (World.there_alloc (by simpa [HV.out] using there_new90 w) _) (by simp [HV.out, size90]) (all_oneCell_toArray hv1) ?_))
  refine bodyPost_ret (v := .tuple #[.agg vs.toArray, .nilIface]) (results_cell_tmp_mid (by rfl) _ _ _ w.heap.size 0 vs _ _ rfl rfl (World.rangeAt_setCells_same _ _ _ _ (World.there_alloc (by simpa [HV.out] using there_new90 w) _)) Tryz.underlying113 rfl (by rw [HV.out]; exact size90)) rfl ⟨rfl, ?_⟩
  exact below_setCells (Nat.le_refl _) _ _ _ (((Below.refl _ _).alloc (Nat.le_refl _) _).alloc (by simp) _)

/-- A STORE without a fault and without pages, over a device of 16 sectors; its mark is none. -/
structure Sto (w : World) (j d : Nat) : Prop where
  dev : w.cell? ⟨j, 0, none⟩ = some (.pointer (some ⟨d, 0, none⟩))
  lay : w.cell? ⟨j, 1, none⟩ = some (.int .i64 16)
  turn : w.cell? ⟨j, 2, none⟩ = some (.int .u64 0)
  count : w.cell? ⟨j, 3, none⟩ = some (.int .i64 0)
  fault : w.cell? ⟨j, 6, none⟩ = some .nilIface
  free : ∀ i, w.frozen? ⟨j, i, none⟩ = false

theorem Sto.below {w w' : World} {j d m : Nat} (h : Sto w j d) (hb : Below m w w') (hj : j < m) : Sto w' j d :=
  ⟨by rw [hb.cell (p := ⟨j, 0, none⟩) hj]; exact h.dev, by rw [hb.cell (p := ⟨j, 1, none⟩) hj]; exact h.lay, by rw [hb.cell (p := ⟨j, 2, none⟩) hj]; exact h.turn, by rw [hb.cell (p := ⟨j, 3, none⟩) hj]; exact h.count, by rw [hb.cell (p := ⟨j, 6, none⟩) hj]; exact h.fault, fun i => by rw [hb.frozen (p := ⟨j, i, none⟩) hj]; exact h.free i⟩
theorem Sto.lt {w : World} {j d : Nat} (h : Sto w j d) : j < w.heap.size := World.block_lt_of_cell? w _ h.fault

set_option maxHeartbeats 400000 in
theorem note_nil (j d : Nat) (w : World) (h : Sto w j d) :
    Calls Tryz.prog 58 #[.pointer (some ⟨j, 0, none⟩), .nilIface] w fun e w' => e = .returned .nilIface ∧ w = w' := by
  have h5 := h.fault
  have hf := h.free 6
  go_enter Tryz.func58, Tryz.ntmps58
  go_wp2
  go_ret
  exact ⟨rfl, (setCell_self h5).symm⟩

end Go.Proofs.YtcfjkcfmoooccaaGreatDoor
