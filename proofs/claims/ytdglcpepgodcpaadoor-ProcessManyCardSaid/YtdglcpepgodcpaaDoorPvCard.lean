/- What this row lists: the table of operations, as the walks read it; a start that holds it; slices of bytes that came in. -/
import Derived.Test.YtdglcpepgodcpaaDoorRows
import Derived.Test.YtdglcpepgodcpaaDoorProcessManyM
import Derived.Deep.DeepHandedRow
import Derived.Deep.DeepWitnessRowRef
import Derived.Deep.Strs
import Derived.Lib.LaidTab
import Derived.Lib.SmallJoins
import Derived.Stop.LaidErr
import Derived.LaidMore
import Derived.MakeChecks
import Derived.OpenShut
import Derived.ProofKit
import Derived.ChangeMaps5
namespace Go.Proofs.YtdglcpepgodcpaaDoor
open Go.ChangeShapes Go.WideShapes Go.ChangeAt Go.RowKit

theorem cardOwn : ownKnob Tryd.prog.godebug = none := by kernel_rfl
theorem cardOut : laidOutB Tryd.prog = true := by kernel_rfl
theorem opsType : (Tryd.prog.globals[0]?).map (·.type) = some 96 := by kernel_rfl
theorem opsCells : Tryd.prog.cellsOf 96 = 52 := by kernel_rfl
theorem opCells : Tryd.prog.cellsOf 95 = 4 := by kernel_rfl
theorem u8Cells : Tryd.prog.cellsOf 5 = 1 := by kernel_rfl
theorem intCells : Tryd.prog.cellsOf 3 = 1 := by kernel_rfl
theorem strCells1 : Tryd.prog.cellsOf 9 = 1 := by kernel_rfl
/-- An operation as a datum. -/
def od {H : Type} (o : Cd.Opn) : DataW H := .agg [.lit (.string o.name), .lit (.string o.form), .lit (.int .i64 o.least), .lit (.int .i64 o.most)]
/-- An array of operations that reads as a list of operations holds it, cell for cell. -/
theorem ops_of_trod {H : Type} {enc : TypeId × Value → H} {w : World} {base : Nat} {sp : Nat → Bool} {held : Bool} {fuel : Nat} {cs : List Value} {ops : List Cd.Opn} {p : List MemPlace}
    (h : DataW.trod enc Tryd.prog w base sp held fuel 96 cs = some (.agg (ops.map od), p)) : cs = ov ops := by
  cases fuel with
  | zero => simp [DataW.trod] at h
  | succ fuel =>
    simp only [DataW.trod, Tryd.underlying96, opCells, opsCells] at h
    split at h
    · rename_i hl
      obtain ⟨xs, hm, hx⟩ := Option.map_eq_some_iff.1 h
      have hxs : xs.map (·.1) = ops.map (od (H := H)) := by
        have := congrArg Prod.fst hx
        simpa using this
      have hxl : xs.length = 13 := by simpa using Lib.mapM_length hm
      have hol : ops.length = 13 := by
        have := congrArg List.length hxs
        simp at this
        omega
      have key : ∀ i, (hi : i < 13) → cs[i * 4]? = (ov ops)[i * 4]? ∧ cs[i * 4 + 1]? = (ov ops)[i * 4 + 1]? ∧ cs[i * 4 + 2]? = (ov ops)[i * 4 + 2]? ∧ cs[i * 4 + 3]? = (ov ops)[i * 4 + 3]? := by
        intro i hi
        obtain ⟨b, hb, hf⟩ := Lib.mapM_at hm i i (by simp [hi])
        have hio : i < ops.length := by omega
        have hbo : b.1 = od ops[i] := by
          have h2 : (xs.map (·.1))[i]? = some b.1 := by simp [hb]
          rw [hxs] at h2
          simpa [hio] using h2.symm
        obtain ⟨y0, y1, y2, y3, n, rfl, _, g0, g1, g2, g3⟩ := Joins.trod_struct4 Tryd.underlying95 hf
        simp only [od, DataW.agg.injEq, List.cons.injEq, and_true] at hbo
        obtain ⟨b0, b1, b2, b3⟩ := hbo
        obtain ⟨s0, e0, rfl, _⟩ := DataW.trod_string Tryd.underlying9 g0
        obtain ⟨s1, e1, rfl, _⟩ := DataW.trod_string Tryd.underlying9 g1
        obtain ⟨n2, e2, rfl, _⟩ := DataW.trod_int Tryd.underlying3 g2
        obtain ⟨n3, e3, rfl, _⟩ := DataW.trod_int Tryd.underlying3 g3
        simp only [DataW.lit.injEq, Lit.string.injEq, Lit.int.injEq, true_and] at b0 b1 b2 b3
        obtain ⟨o0, o1, o2, o3⟩ := ov_at hio
        rw [o0, o1, o2, o3]
        have c0 := congrArg (·[0]?) e0
        have c1 := congrArg (·[0]?) e1
        have c2 := congrArg (·[0]?) e2
        have c3 := congrArg (·[0]?) e3
        simp only [strCells1, intCells, List.getElem?_take, List.getElem?_drop, List.getElem?_cons_zero, Nat.zero_lt_one, if_true] at c0 c1 c2 c3
        have mk : ∀ (s : ByteArray) (l : List UInt8), s.data.toList = l → s = ⟨l.toArray⟩ := fun s l h => by subst h; rfl
        refine ⟨?_, ?_, ?_, ?_⟩
        · rw [← mk s0 _ b0]; simpa using c0
        · rw [← mk s1 _ b1]; simpa using c1
        · rw [← b2]; simpa using c2
        · rw [← b3]; simpa using c3
      apply List.ext_getElem?
      intro q
      by_cases hq : q < 52
      · obtain ⟨k0, k1, k2, k3⟩ := key (q / 4) (by omega)
        rcases (show q = q / 4 * 4 ∨ q = q / 4 * 4 + 1 ∨ q = q / 4 * 4 + 2 ∨ q = q / 4 * 4 + 3 by omega) with e | e | e | e
        · rw [e]; exact k0
        · rw [e]; exact k1
        · rw [e]; exact k2
        · rw [e]; exact k3
      · have hov : (ov ops).length = 52 := by
          have : ∀ l : List Cd.Opn, (ov l).length = l.length * 4 := by
            intro l
            induction l with
            | nil => rfl
            | cons a l ih =>
              rw [show ov (a :: l) = opc a ++ ov l from rfl, List.length_append, ih, List.length_cons]
              simp only [opc, List.length_cons, List.length_nil]
              omega
          rw [this, hol]
        rw [List.getElem?_eq_none (by omega), List.getElem?_eq_none (by omega)]
    · cases h

theorem laid_of {W : World} (h : laidMetH Tryd.prog Rows.processManyRow.laid W) : LaidO W := by
  rw [MakeChecks.laidMetH_plain _ _ _ (by kernel_rfl)] at h
  obtain ⟨ps, ⟨g', t', cs, fuel, p, q, hg', ht', hvar, hd, _, _⟩, _⟩ := h
  obtain rfl := Option.some.inj (gOps.symm.trans hg')
  obtain rfl := Option.some.inj (opsType.symm.trans ht')
  have e := ops_of_trod (ops := Cd.tbl) (p := p) hd
  unfold LaidO
  rw [hvar, ← e]

/-- The heap that start-up leaves. -/
noncomputable def doorW (os : Os) : World := World.doorLaid Tryd.prog 27 os
theorem door_met (os : Os) (args : Array Value) : laidMet Tryd.prog Rows.processManyRow.laid (((doorW os).forCall (fun _ _ => 0) ⟨#[], args, []⟩).memory) :=
  laidMet_of_run' 8 (by kernel_rfl) (by kernel_rfl)

/-- A slice of bytes that came in. -/
theorem bytes_came {H : Type} {enc : TypeId × Value → H} {W : World} {base : Nat} {sp : Nat → Bool} {held : Bool} {fuel : Nat} {A : Option Addr} {n c : Nat} {x : DataW H × List MemPlace}
    (h : DataW.trod enc Tryd.prog W base sp held fuel 22 [.slice A n c] = some x) : ∃ l, Bytes W W.heap.size A n l ∧ n ≤ c ∧ c ≤ 9223372036854775807 := by
  rcases Go.ChangeShapes.open_ints Tryd.underlying22 Tryd.underlying5 u8Cells h with ⟨hcs, _⟩ | ⟨a, len, cap, zs, hcs, _, hl, hm, hz, _, hcell, hwf⟩
  · simp only [List.cons.injEq, Value.slice.injEq, and_true] at hcs
    obtain ⟨rfl, rfl, rfl⟩ := hcs
    exact ⟨[], Bytes.nil, by omega, by omega⟩
  · simp only [List.cons.injEq, Value.slice.injEq, and_true] at hcs
    obtain ⟨rfl, rfl, rfl⟩ := hcs
    have hlz : n ≤ zs.length := by rw [hz]; split <;> omega
    unfold maxLen at hm
    have hr : IsRow .u8 W (some a) n zs.length zs := .inr ⟨a, rfl, hlz, by rw [hz]; unfold maxLen; split <;> omega, rfl, hcell, hwf⟩
    obtain ⟨l, hl'⟩ := hr.bytes
    exact ⟨l, hl', by omega, by omega⟩
end Go.Proofs.YtdglcpepgodcpaaDoor
