import Derived.Test.YtcfjkcfmoooccaaGreatDoorDev
import Derived.ChangeKeysEq
namespace Go.Proofs.YtcfjkcfmoooccaaGreatDoor
open Go.RowKit
set_option maxRecDepth 100000
set_option linter.unusedVariables false

/-- Bytes, as cells. -/
def byts (zs : List Int) : List Value := zs.map fun z => Value.int .u8 z
theorem byts_length (zs : List Int) : (byts zs).length = zs.length := List.length_map _
theorem byts_one (zs : List Int) : ∀ v ∈ byts zs, v.oneCell' = true := by
  intro v hv
  obtain ⟨z, _, rfl⟩ := List.mem_map.1 hv
  rfl
theorem byts_getD (zs : List Int) (j : Nat) (h : j < zs.length) : (byts zs)[j]? = some (.int .u8 (zs[j]?.getD 0)) := by
  simp [byts, h]

theorem cells5 : Tryz.prog.cellsOf 5 = 1 := by kernel_rfl
theorem part5 (xs : List Int) (i : Nat) (h : i < xs.length) (w : World) : (part 5 (byts xs).toArray i).run Tryz.prog w = .ok (.int .u8 (xs[i]?.getD 0)) w := by
  have a5 := Tryz.isAgg5
  simp [part, a5, byts, h]

theorem eqItems_byts (d : Nat) (xs ys : List Int) (w : World) : ∀ is : List Nat, (∀ i ∈ is, i < xs.length ∧ i < ys.length) →
    (Op.eqItems (d + 1) 5 1 (byts xs).toArray (byts ys).toArray is).run Tryz.prog w = .ok (is.all fun i => xs[i]?.getD 0 == ys[i]?.getD 0) w
  | [], _ => by simp [Op.eqItems]
  | i :: is, h => by
    have h1 := h i (by simp)
    have ih := eqItems_byts d xs ys w is (fun j hj => h j (by simp [hj]))
    simp only [Op.eqItems, Sem.run_bind, Nat.mul_one, part5 xs i h1.1, part5 ys i h1.2, Result.andThen_ok, run_equalIn_int w d 5 .u8 .u8 _ _ Tryz.underlying5]
    by_cases e : xs[i]?.getD 0 = ys[i]?.getD 0
    · simp [e, ih]
    · simp [e]

theorem all_range (xs ys : List Int) (h : xs.length = ys.length) : ((List.range xs.length).all fun i => xs[i]?.getD 0 == ys[i]?.getD 0) = decide (xs = ys) := by
  rw [Bool.eq_iff_iff]
  simp only [List.all_eq_true, List.mem_range, beq_iff_eq, decide_eq_true_eq]
  constructor
  · intro hh
    apply List.ext_getElem h
    intro i h1 h2
    have := hh i h1
    simpa [h1, h2] using this
  · rintro rfl i _
    rfl

/-- '==' at arrays of bytes. -/
theorem equal_byts (t n : Nat) (hu : Tryz.prog.underlying t = some (.array n 5)) (xs ys : List Int) (hx : xs.length = n) (hy : ys.length = n) (w : World) :
    (Op.equalIn 10000 t (.agg (byts xs).toArray) (.agg (byts ys).toArray)).run Tryz.prog w = .ok (decide (xs = ys)) w := by
  obtain ⟨i, hi⟩ : ∃ i, Tryz.prog.info? 5 = some i := Option.isSome_iff_exists.1 (by kernel_rfl)
  rw [show (10000 : Nat) = 9999 + 1 from rfl, run_equalIn_array w 9999 _ _ hu hi, cells5, show (9999 : Nat) = 9998 + 1 from rfl, eqItems_byts 9998 xs ys w _ (fun i hi => by rw [List.mem_range] at hi; omega)]
  rw [← hx, all_range xs ys (by omega)]
end Go.Proofs.YtcfjkcfmoooccaaGreatDoor
