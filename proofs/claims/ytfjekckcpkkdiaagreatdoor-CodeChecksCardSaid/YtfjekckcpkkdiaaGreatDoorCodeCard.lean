/- Layer 4: what the rows of this seat list of package-level variables, as the walks read it; a start that holds it; slices that came in. -/
import Derived.Test.YtfjekckcpkkdiaaGreatDoorRows
import Derived.Test.YtfjekckcpkkdiaaGreatDoorCodeMem
import Derived.Deep.DeepHandedRow
import Derived.Deep.DeepWitnessRowRef
import Derived.Deep.Strs
import Derived.Lib.LaidTab
import Derived.Lib.SmallJoins
import Derived.Stop.LaidErr
import Derived.LaidMore
import Derived.MakeChecks
import Derived.OpenShut
import Derived.ProofKit
import Derived.ChangeMaps5
namespace Go.Proofs.YtfjekckcpkkdiaaGreatDoor
open Go.ChangeShapes Go.WideShapes Go.ChangeAt Go.RowKit

theorem cardOwn : ownKnob Tryz.prog.godebug = none := by kernel_rfl
theorem cardOut : laidOutB Tryz.prog = true := by kernel_rfl
theorem errStar : "*" ++ "errors.errorString" = "*errors.errorString" := by decide
theorem errRow (u : TypeId) (h : Tryz.prog.typeName? 3 u = some "*errors.errorString") : u = 164 :=
  typeName_ptr_named (nm := "errors.errorString") (by rw [errStar]; kernel_rfl) (by kernel_rfl) (by decide) u (by rw [errStar]; exact h)
theorem tabType : (Tryz.prog.globals[1]?).map (·.type) = some 138 := by kernel_rfl
theorem rangeType : (Tryz.prog.globals[6]?).map (·.type) = some 97 := by kernel_rfl
theorem opsType : (Tryz.prog.globals[0]?).map (·.type) = some 93 := by kernel_rfl
theorem tabCells : Tryz.prog.cellsOf 138 = 20 := by kernel_rfl
theorem opsCells : Tryz.prog.cellsOf 93 = 52 := by kernel_rfl
theorem opCells : Tryz.prog.cellsOf 92 = 4 := by kernel_rfl
theorem u64Cells : Tryz.prog.cellsOf 102 = 1 := by kernel_rfl
theorem u8Cells : Tryz.prog.cellsOf 5 = 1 := by kernel_rfl
theorem intCells : Tryz.prog.cellsOf 3 = 1 := by kernel_rfl
theorem strCells1 : Tryz.prog.cellsOf 9 = 1 := by kernel_rfl
theorem errCells : Tryz.prog.cellsOf 166 = 1 := by kernel_rfl

/-- An operation as a datum. -/
def od {H : Type} (o : Cd.Opn) : DataW H := .agg [.lit (.string o.name), .lit (.string o.form), .lit (.int .i64 o.least), .lit (.int .i64 o.most)]
/-- An array of operations that reads as a list of operations holds it, cell for cell. -/
theorem ops_of_trod {H : Type} {enc : TypeId × Value → H} {w : World} {base : Nat} {sp : Nat → Bool} {held : Bool} {fuel : Nat} {cs : List Value} {ops : List Cd.Opn} {p : List MemPlace}
    (h : DataW.trod enc Tryz.prog w base sp held fuel 93 cs = some (.agg (ops.map od), p)) : cs = ov ops := by
  cases fuel with
  | zero => simp [DataW.trod] at h
  | succ fuel =>
    simp only [DataW.trod, Tryz.underlying93, opCells, opsCells] at h
    split at h
    · rename_i hl
      obtain ⟨xs, hm, hx⟩ := Option.map_eq_some_iff.1 h
      have hxs : xs.map (·.1) = ops.map (od (H := H)) := by
        have := congrArg Prod.fst hx
        simpa using this
      have hxl : xs.length = 13 := by simpa using Lib.mapM_length hm
      have hol : ops.length = 13 := by
        have := congrArg List.length hxs
        simp at this
        omega
      have key : ∀ i, (hi : i < 13) → cs[i * 4]? = (ov ops)[i * 4]? ∧ cs[i * 4 + 1]? = (ov ops)[i * 4 + 1]? ∧ cs[i * 4 + 2]? = (ov ops)[i * 4 + 2]? ∧ cs[i * 4 + 3]? = (ov ops)[i * 4 + 3]? := by
        intro i hi
        obtain ⟨b, hb, hf⟩ := Lib.mapM_at hm i i (by simp [hi])
        have hio : i < ops.length := by omega
        have hbo : b.1 = od ops[i] := by
          have h2 : (xs.map (·.1))[i]? = some b.1 := by simp [hb]
          rw [hxs] at h2
          simpa [hio] using h2.symm
        obtain ⟨y0, y1, y2, y3, n, rfl, _, g0, g1, g2, g3⟩ := Joins.trod_struct4 Tryz.underlying92 hf
        simp only [od, DataW.agg.injEq, List.cons.injEq, and_true] at hbo
        obtain ⟨b0, b1, b2, b3⟩ := hbo
        obtain ⟨s0, e0, rfl, _⟩ := DataW.trod_string Tryz.underlying9 g0
        obtain ⟨s1, e1, rfl, _⟩ := DataW.trod_string Tryz.underlying9 g1
        obtain ⟨n2, e2, rfl, _⟩ := DataW.trod_int Tryz.underlying3 g2
        obtain ⟨n3, e3, rfl, _⟩ := DataW.trod_int Tryz.underlying3 g3
        simp only [DataW.lit.injEq, Lit.string.injEq, Lit.int.injEq, true_and] at b0 b1 b2 b3
        obtain ⟨o0, o1, o2, o3⟩ := ov_at hio
        rw [o0, o1, o2, o3]
        have c0 := congrArg (·[0]?) e0
        have c1 := congrArg (·[0]?) e1
        have c2 := congrArg (·[0]?) e2
        have c3 := congrArg (·[0]?) e3
        simp only [strCells1, intCells, List.getElem?_take, List.getElem?_drop, List.getElem?_cons_zero, Nat.zero_lt_one, if_true] at c0 c1 c2 c3
        have mk : ∀ (s : ByteArray) (l : List UInt8), s.data.toList = l → s = ⟨l.toArray⟩ := fun s l h => by subst h; rfl
        refine ⟨?_, ?_, ?_, ?_⟩
        · rw [← mk s0 _ b0]; simpa using c0
        · rw [← mk s1 _ b1]; simpa using c1
        · rw [← b2]; simpa using c2
        · rw [← b3]; simpa using c3
      apply List.ext_getElem?
      intro q
      by_cases hq : q < 52
      · obtain ⟨k0, k1, k2, k3⟩ := key (q / 4) (by omega)
        rcases (show q = q / 4 * 4 ∨ q = q / 4 * 4 + 1 ∨ q = q / 4 * 4 + 2 ∨ q = q / 4 * 4 + 3 by omega) with e | e | e | e
        · rw [e]; exact k0
        · rw [e]; exact k1
        · rw [e]; exact k2
        · rw [e]; exact k3
      · have hov : (ov ops).length = 52 := by
          have : ∀ l : List Cd.Opn, (ov l).length = l.length * 4 := by
            intro l
            induction l with
            | nil => rfl
            | cons a l ih =>
              rw [show ov (a :: l) = oc a ++ ov l from rfl, List.length_append, ih, List.length_cons]
              simp only [oc, List.length_cons, List.length_nil]
              omega
          rw [this, hol]
        rw [List.getElem?_eq_none (by omega), List.getElem?_eq_none (by omega)]
    · cases h

theorem laid_of {W : World} (h : laidMetH Tryz.prog Rows.codeBackRow.laid W) : Laid W ∧ LaidO W := by
  rw [MakeChecks.laidMetH_plain _ _ _ (by kernel_rfl)] at h
  have h3 := h.tail.tail
  refine ⟨⟨?_, Lib.tabIs_of_head gTab tabType Tryz.underlying138 Tryz.underlying102 u64Cells tabCells h3⟩, ?_⟩
  · obtain ⟨a, s, hv, _⟩ := laid_sentinel h3.tail gRange rangeType Tryz.underlying97 errRow Tryz.underlying164 Tryz.underlying166 rfl rfl Tryz.underlying9 errCells strCells1
    exact ⟨_, _, hv⟩
  · obtain ⟨ps, ⟨g', t', cs, fuel, p, q, hg', ht', hvar, hd, _, _⟩, _⟩ := h3.tail.tail.tail
    obtain rfl := Option.some.inj (gOps.symm.trans hg')
    obtain rfl := Option.some.inj (opsType.symm.trans ht')
    have e := ops_of_trod (ops := Cd.tbl) (p := p) hd
    unfold LaidO
    rw [hvar, ← e]

/-- The heap that start-up leaves. -/
noncomputable def doorW (os : Os) : World := World.doorLaid Tryz.prog 80 os
theorem door_met (os : Os) (args : Array Value) : laidMet Tryz.prog Rows.codeBackRow.laid (((doorW os).forCall (fun _ _ => 0) ⟨#[], args, []⟩).memory) :=
  laidMet_of_run' 8 (by kernel_rfl) (by kernel_rfl)

/-- A slice of bytes that came in. -/
theorem bytes_came {H : Type} {enc : TypeId × Value → H} {W : World} {base : Nat} {sp : Nat → Bool} {held : Bool} {fuel : Nat} {A : Option Addr} {n c : Nat} {x : DataW H × List MemPlace}
    (h : DataW.trod enc Tryz.prog W base sp held fuel 26 [.slice A n c] = some x) : ∃ l, Bytes W W.heap.size A n l ∧ n ≤ c ∧ c ≤ 9223372036854775807 := by
  rcases Go.ChangeShapes.open_ints Tryz.underlying26 Tryz.underlying5 u8Cells h with ⟨hcs, _⟩ | ⟨a, len, cap, zs, hcs, _, hl, hm, hz, _, hcell, hwf⟩
  · simp only [List.cons.injEq, Value.slice.injEq, and_true] at hcs
    obtain ⟨rfl, rfl, rfl⟩ := hcs
    exact ⟨[], Bytes.nil, by omega, by omega⟩
  · simp only [List.cons.injEq, Value.slice.injEq, and_true] at hcs
    obtain ⟨rfl, rfl, rfl⟩ := hcs
    have hlz : n ≤ zs.length := by rw [hz]; split <;> omega
    unfold maxLen at hm
    have hr : IsRow .u8 W (some a) n zs.length zs := .inr ⟨a, rfl, hlz, by rw [hz]; unfold maxLen; split <;> omega, rfl, hcell, hwf⟩
    obtain ⟨l, hl'⟩ := hr.bytes
    exact ⟨l, hl', by omega, by omega⟩
/-- A slice of strings that came in. -/
theorem strs_came {H : Type} {enc : TypeId × Value → H} {W : World} {base : Nat} {sp : Nat → Bool} {held : Bool} {fuel : Nat} {v : Value} {x : DataW H × List MemPlace}
    (h : DataW.trod enc Tryz.prog W base sp held fuel 23 [v] = some x) : ∃ A n c l, v = .slice A n c ∧ Strs W W.heap.size A n l ∧ n ≤ 9223372036854775807 ∧ ∀ y ∈ l, y.length ≤ 9223372036854775807 := by
  rcases Go.Deep.open_strs Tryz.underlying23 Tryz.underlying9 strCells1 h with ⟨hcs, _⟩ | ⟨a, len, cap, m, Sx, hcs, _, hl, hm, hmm, _, hx⟩
  · simp only [List.cons.injEq, and_true] at hcs
    exact ⟨none, 0, 0, [], hcs, Strs.nil, by omega, by simp⟩
  · simp only [List.cons.injEq, and_true] at hcs
    have hlm : len ≤ m := by rw [hmm]; split <;> omega
    unfold maxLen at hm
    refine ⟨some a, len, cap, (List.range len).map fun i => (Sx i).data.toList, hcs, ⟨by simp, by simp [sv], by simp, fun hne => ?_⟩, by omega, ?_⟩
    · have h0 : 0 < len := by
        rcases Nat.eq_zero_or_pos len with h0 | h0
        · subst h0; simp [sv] at hne
        · exact h0
      have hc0 := (hx 0 (by omega)).1
      obtain ⟨b, o, spot⟩ := a
      have hspot : spot = none := by simpa [Addr.add] using World.cell?_spot hc0
      subst hspot
      have hlt := World.block_lt_of_cell? W _ hc0
      rw [add_spot] at hlt
      refine ⟨b, o, rfl, hlt, fun j u hu => ?_⟩
      have hj : j < len := by
        have := (List.getElem?_eq_some_iff.1 hu).1
        simpa [sv] using this
      have := (hx j (by omega)).1
      rw [add_spot] at this
      rw [this]
      rw [sv, List.map_map, List.getElem?_map, List.getElem?_range hj] at hu
      simp only [Option.map_some, Function.comp, Option.some.injEq] at hu
      rw [← hu, Lib.mk_data]
    · intro y hy
      simp only [List.mem_map, List.mem_range] at hy
      obtain ⟨i, hi, rfl⟩ := hy
      have := (hx i (by omega)).2
      unfold maxLen at this
      rw [← Lib.size_eq]
      omega
theorem insCells : Tryz.prog.cellsOf 32 = 4 := by kernel_rfl
/-- An instruction that came in. -/
theorem ins_came {H : Type} {enc : TypeId × Value → H} {W : World} {base : Nat} {sp : Nat → Bool} {held : Bool} {fuel : Nat} {cs : List Value} {x : DataW H × List MemPlace}
    (h : DataW.trod enc Tryz.prog W base sp held fuel 32 cs = some x) : ∃ y : Cd.Ins, (cs[0]? = some (.int .i64 y.op) ∧ cs[1]? = some (.int .i64 y.a) ∧ cs[2]? = some (.int .i64 y.b) ∧ cs[3]? = some (.int .i64 y.c)) ∧ Cd.in64 y := by
  obtain ⟨y0, y1, y2, y3, n, rfl, _, g0, g1, g2, g3⟩ := Joins.trod_struct4 Tryz.underlying32 h
  obtain ⟨n0, e0, rfl, b0⟩ := DataW.trod_int Tryz.underlying3 g0
  obtain ⟨n1, e1, rfl, b1⟩ := DataW.trod_int Tryz.underlying3 g1
  obtain ⟨n2, e2, rfl, b2⟩ := DataW.trod_int Tryz.underlying3 g2
  obtain ⟨n3, e3, rfl, b3⟩ := DataW.trod_int Tryz.underlying3 g3
  have c0 := congrArg (·[0]?) e0
  have c1 := congrArg (·[0]?) e1
  have c2 := congrArg (·[0]?) e2
  have c3 := congrArg (·[0]?) e3
  simp only [intCells, List.getElem?_take, List.getElem?_drop, List.getElem?_cons_zero, Nat.zero_lt_one, if_true] at c0 c1 c2 c3
  exact ⟨⟨n0, n1, n2, n3⟩, ⟨by simpa using c0, by simpa using c1, by simpa using c2, by simpa using c3⟩, ⟨wf_i64 b0, wf_i64 b1, wf_i64 b2, wf_i64 b3⟩⟩
/-- A slice of instructions that came in. -/
theorem inss_came {H : Type} {enc : TypeId × Value → H} {W : World} {base : Nat} {sp : Nat → Bool} {held : Bool} {fuel : Nat} {v : Value} {x : DataW H × List MemPlace}
    (h : DataW.trod enc Tryz.prog W base sp held fuel 22 [v] = some x) : ∃ A n c l, v = .slice A n c ∧ Inss W W.heap.size A n l ∧ n ≤ 9223372036854775807 ∧ ∀ y ∈ l, Cd.in64 y := by
  rcases DataW.trod_slice Tryz.underlying22 h with ⟨hcs, _⟩ | ⟨a, len, cap, elems, rest, m, _, hcs, _, _, hl, hm, hlen, hel, _⟩
  · simp only [List.cons.injEq, and_true] at hcs
    exact ⟨none, 0, 0, [], hcs, Inss.nil, by omega, by simp⟩
  · simp only [List.cons.injEq, and_true] at hcs
    unfold maxLen at hm
    have each : ∀ i, i < len → ∃ y : Cd.Ins, (W.cell? ((a.add (i * 4)).add 0) = some (.int .i64 y.op) ∧ W.cell? ((a.add (i * 4)).add 1) = some (.int .i64 y.a) ∧ W.cell? ((a.add (i * 4)).add 2) = some (.int .i64 y.b) ∧ W.cell? ((a.add (i * 4)).add 3) = some (.int .i64 y.c)) ∧ Cd.in64 y := by
      intro i hi
      have he := hel i hi
      rw [insCells, List.getElem?_eq_getElem (by omega)] at he
      obtain ⟨cs, h1, h2⟩ := Option.bind_eq_some_iff.1 he
      obtain ⟨_, hl4, hcell⟩ := World.cells?_some h1
      obtain ⟨y, ⟨c0, c1, c2, c3⟩, hy⟩ := ins_came h2
      exact ⟨y, ⟨(hcell 0 (by omega)).trans c0, (hcell 1 (by omega)).trans c1, (hcell 2 (by omega)).trans c2, (hcell 3 (by omega)).trans c3⟩, hy⟩
    haveI : Inhabited Cd.Ins := ⟨⟨0, 0, 0, 0⟩⟩
    obtain ⟨Y, hY⟩ := Go.Deep.choose_lt each
    refine ⟨some a, len, cap, (List.range len).map Y, hcs, ⟨by simp, by rw [iv_length]; simp, by simp, fun hne => ?_⟩, by omega, ?_⟩
    · have h0 : 0 < len := by
        rcases Nat.eq_zero_or_pos len with h0 | h0
        · subst h0; simp [iv] at hne
        · exact h0
      have hc0 := (hY 0 h0).1.1
      obtain ⟨b, o, spot⟩ := a
      have hspot : spot = none := by simpa [Addr.add] using World.cell?_spot hc0
      subst hspot
      have hlt := World.block_lt_of_cell? W _ hc0
      rw [add_spot, add_spot] at hlt
      refine ⟨b, o, rfl, hlt, fun j u hu => ?_⟩
      have hj : j < len * 4 := by
        have := (List.getElem?_eq_some_iff.1 hu).1
        rw [iv_length] at this
        simpa using this
      have hi : j / 4 < len := by omega
      have hil : j / 4 < ((List.range len).map Y).length := by simpa using hi
      obtain ⟨i0, i1, i2, i3⟩ := iv_at hil
      obtain ⟨⟨c0, c1, c2, c3⟩, _⟩ := hY (j / 4) hi
      rw [add_spot, add_spot] at c0 c1 c2 c3
      have hg : ((List.range len).map Y)[j / 4] = Y (j / 4) := by simp
      rw [hg] at i0 i1 i2 i3
      rcases (show j = j / 4 * 4 ∨ j = j / 4 * 4 + 1 ∨ j = j / 4 * 4 + 2 ∨ j = j / 4 * 4 + 3 by omega) with e | e | e | e
      · rw [e, i0] at hu
        rw [e, show o + j / 4 * 4 = o + j / 4 * 4 + 0 by omega]
        exact c0.trans hu
      · rw [e, i1] at hu
        rw [e, ← Nat.add_assoc]
        exact c1.trans hu
      · rw [e, i2] at hu
        rw [e, ← Nat.add_assoc]
        exact c2.trans hu
      · rw [e, i3] at hu
        rw [e, ← Nat.add_assoc]
        exact c3.trans hu
    · intro y hy
      simp only [List.mem_map, List.mem_range] at hy
      obtain ⟨i, hi, rfl⟩ := hy
      exact (hY i hi).2
end Go.Proofs.YtfjekckcpkkdiaaGreatDoor
