/- What came in, as the walks of plain rows read it: slices of bytes and strings, instructions, programs, processors. -/
import Derived.Test.YtddbohnappogkaaRows
import Derived.Test.YtddbohnappogkaaCpuCell
import Derived.Test.YtddbohnappogkaaCameB
import Derived.Deep.Strs
import Derived.Lib.SmallJoins
import Derived.MakeChecks
import Derived.OpenShut
import Derived.ProofKit
import Derived.ChangeMaps5
import Derived.Carry
namespace Go.Proofs.Ytddbohnappogkaa
open Go.ChangeShapes Go.WideShapes Go.ChangeAt Go.RowKit

theorem intCells : Try.prog.cellsOf 3 = 1 := by kernel_rfl
theorem i64Cells : Try.prog.cellsOf 2 = 1 := by kernel_rfl
theorem strCells1 : Try.prog.cellsOf 9 = 1 := by kernel_rfl
theorem regsCells : Try.prog.cellsOf 28 = 8 := by kernel_rfl
theorem cpuCells : Try.prog.cellsOf 30 = 9 := by kernel_rfl

/-- A slice of strings that came in. -/
theorem strs_came {H : Type} {enc : TypeId × Value → H} {W : World} {base : Nat} {sp : Nat → Bool} {held : Bool} {fuel : Nat} {v : Value} {x : DataW H × List MemPlace}
    (h : DataW.trod enc Try.prog W base sp held fuel 25 [v] = some x) : ∃ A n c l, v = .slice A n c ∧ Strs W W.heap.size A n l ∧ n ≤ 9223372036854775807 ∧ ∀ y ∈ l, y.length ≤ 9223372036854775807 := by
  rcases Go.Deep.open_strs Try.underlying25 Try.underlying9 strCells1 h with ⟨hcs, _⟩ | ⟨a, len, cap, m, Sx, hcs, _, hl, hm, hmm, _, hx⟩
  · simp only [List.cons.injEq, and_true] at hcs
    exact ⟨none, 0, 0, [], hcs, Strs.nil, by omega, by simp⟩
  · simp only [List.cons.injEq, and_true] at hcs
    have hlm : len ≤ m := by rw [hmm]; split <;> omega
    unfold maxLen at hm
    refine ⟨some a, len, cap, (List.range len).map fun i => (Sx i).data.toList, hcs, ⟨by simp, by simp [sv], by simp, fun hne => ?_⟩, by omega, ?_⟩
    · have h0 : 0 < len := by
        rcases Nat.eq_zero_or_pos len with h0 | h0
        · subst h0; simp [sv] at hne
        · exact h0
      have hc0 := (hx 0 (by omega)).1
      obtain ⟨b, o, spot⟩ := a
      have hspot : spot = none := by simpa [Addr.add] using World.cell?_spot hc0
      subst hspot
      have hlt := World.block_lt_of_cell? W _ hc0
      rw [add_spot] at hlt
      refine ⟨b, o, rfl, hlt, fun j u hu => ?_⟩
      have hj : j < len := by
        have := (List.getElem?_eq_some_iff.1 hu).1
        simpa [sv] using this
      have := (hx j (by omega)).1
      rw [add_spot] at this
      rw [this]
      rw [sv, List.map_map, List.getElem?_map, List.getElem?_range hj] at hu
      simp only [Option.map_some, Function.comp, Option.some.injEq] at hu
      rw [← hu, Lib.mk_data]
    · intro y hy
      simp only [List.mem_map, List.mem_range] at hy
      obtain ⟨i, hi, rfl⟩ := hy
      have := (hx i (by omega)).2
      unfold maxLen at this
      rw [← Lib.size_eq]
      omega
theorem insCells : Try.prog.cellsOf 84 = 4 := by kernel_rfl
/-- An instruction that came in. -/
theorem ins_came {H : Type} {enc : TypeId × Value → H} {W : World} {base : Nat} {sp : Nat → Bool} {held : Bool} {fuel : Nat} {cs : List Value} {x : DataW H × List MemPlace}
    (h : DataW.trod enc Try.prog W base sp held fuel 84 cs = some x) : ∃ y : Cd.Ins, (cs[0]? = some (.int .i64 y.op) ∧ cs[1]? = some (.int .i64 y.a) ∧ cs[2]? = some (.int .i64 y.b) ∧ cs[3]? = some (.int .i64 y.c)) ∧ Cd.in64 y := by
  obtain ⟨y0, y1, y2, y3, n, rfl, _, g0, g1, g2, g3⟩ := Joins.trod_struct4 Try.underlying84 h
  obtain ⟨n0, e0, rfl, b0⟩ := DataW.trod_int Try.underlying3 g0
  obtain ⟨n1, e1, rfl, b1⟩ := DataW.trod_int Try.underlying3 g1
  obtain ⟨n2, e2, rfl, b2⟩ := DataW.trod_int Try.underlying3 g2
  obtain ⟨n3, e3, rfl, b3⟩ := DataW.trod_int Try.underlying3 g3
  have c0 := congrArg (·[0]?) e0
  have c1 := congrArg (·[0]?) e1
  have c2 := congrArg (·[0]?) e2
  have c3 := congrArg (·[0]?) e3
  simp only [intCells, List.getElem?_take, List.getElem?_drop, List.getElem?_cons_zero, Nat.zero_lt_one, if_true] at c0 c1 c2 c3
  exact ⟨⟨n0, n1, n2, n3⟩, ⟨by simpa using c0, by simpa using c1, by simpa using c2, by simpa using c3⟩, ⟨wf_i64 b0, wf_i64 b1, wf_i64 b2, wf_i64 b3⟩⟩
/-- A slice of instructions that came in. -/
theorem inss_came {H : Type} {enc : TypeId × Value → H} {W : World} {base : Nat} {sp : Nat → Bool} {held : Bool} {fuel : Nat} {v : Value} {x : DataW H × List MemPlace}
    (h : DataW.trod enc Try.prog W base sp held fuel 24 [v] = some x) : ∃ A n c l, v = .slice A n c ∧ Inss W W.heap.size A n l ∧ n ≤ 9223372036854775807 ∧ ∀ y ∈ l, Cd.in64 y := by
  rcases DataW.trod_slice Try.underlying24 h with ⟨hcs, _⟩ | ⟨a, len, cap, elems, rest, m, _, hcs, _, _, hl, hm, hlen, hel, _⟩
  · simp only [List.cons.injEq, and_true] at hcs
    exact ⟨none, 0, 0, [], hcs, Inss.nil, by omega, by simp⟩
  · simp only [List.cons.injEq, and_true] at hcs
    unfold maxLen at hm
    have each : ∀ i, i < len → ∃ y : Cd.Ins, (W.cell? ((a.add (i * 4)).add 0) = some (.int .i64 y.op) ∧ W.cell? ((a.add (i * 4)).add 1) = some (.int .i64 y.a) ∧ W.cell? ((a.add (i * 4)).add 2) = some (.int .i64 y.b) ∧ W.cell? ((a.add (i * 4)).add 3) = some (.int .i64 y.c)) ∧ Cd.in64 y := by
      intro i hi
      have he := hel i hi
      rw [insCells, List.getElem?_eq_getElem (by omega)] at he
      obtain ⟨cs, h1, h2⟩ := Option.bind_eq_some_iff.1 he
      obtain ⟨_, hl4, hcell⟩ := World.cells?_some h1
      obtain ⟨y, ⟨c0, c1, c2, c3⟩, hy⟩ := ins_came h2
      exact ⟨y, ⟨(hcell 0 (by omega)).trans c0, (hcell 1 (by omega)).trans c1, (hcell 2 (by omega)).trans c2, (hcell 3 (by omega)).trans c3⟩, hy⟩
    haveI : Inhabited Cd.Ins := ⟨⟨0, 0, 0, 0⟩⟩
    obtain ⟨Y, hY⟩ := Go.Deep.choose_lt each
    refine ⟨some a, len, cap, (List.range len).map Y, hcs, ⟨by simp, by rw [iv_length]; simp, by simp, fun hne => ?_⟩, by omega, ?_⟩
    · have h0 : 0 < len := by
        rcases Nat.eq_zero_or_pos len with h0 | h0
        · subst h0; simp [iv] at hne
        · exact h0
      have hc0 := (hY 0 h0).1.1
      obtain ⟨b, o, spot⟩ := a
      have hspot : spot = none := by simpa [Addr.add] using World.cell?_spot hc0
      subst hspot
      have hlt := World.block_lt_of_cell? W _ hc0
      rw [add_spot, add_spot] at hlt
      refine ⟨b, o, rfl, hlt, fun j u hu => ?_⟩
      have hj : j < len * 4 := by
        have := (List.getElem?_eq_some_iff.1 hu).1
        rw [iv_length] at this
        simpa using this
      have hi : j / 4 < len := by omega
      have hil : j / 4 < ((List.range len).map Y).length := by simpa using hi
      obtain ⟨i0, i1, i2, i3⟩ := iv_at hil
      obtain ⟨⟨c0, c1, c2, c3⟩, _⟩ := hY (j / 4) hi
      rw [add_spot, add_spot] at c0 c1 c2 c3
      have hg : ((List.range len).map Y)[j / 4] = Y (j / 4) := by simp
      rw [hg] at i0 i1 i2 i3
      rcases (show j = j / 4 * 4 ∨ j = j / 4 * 4 + 1 ∨ j = j / 4 * 4 + 2 ∨ j = j / 4 * 4 + 3 by omega) with e | e | e | e
      · rw [e, i0] at hu
        rw [e, show o + j / 4 * 4 = o + j / 4 * 4 + 0 by omega]
        exact c0.trans hu
      · rw [e, i1] at hu
        rw [e, ← Nat.add_assoc]
        exact c1.trans hu
      · rw [e, i2] at hu
        rw [e, ← Nat.add_assoc]
        exact c2.trans hu
      · rw [e, i3] at hu
        rw [e, ← Nat.add_assoc]
        exact c3.trans hu
    · intro y hy
      simp only [List.mem_map, List.mem_range] at hy
      obtain ⟨i, hi, rfl⟩ := hy
      exact (hY i hi).2
/-- Numbers that came in by value. -/
theorem nums_came {H : Type} {enc : TypeId × Value → H} {W : World} {base : Nat} {sp : Nat → Bool} {held : Bool} {fuel : Nat} {cs : List Value} {x : DataW H × List MemPlace}
    (h : DataW.trod enc Try.prog W base sp held fuel 28 cs = some x) : ∃ L : List Int, cs = nv .i64 L ∧ L.length = 8 ∧ ∀ v ∈ L, Cp.i64 v := by
  obtain ⟨xs, m, _, _, hl, hx, hel⟩ := DataW.trod_array Try.underlying28 h
  rw [regsCells] at hl
  have each : ∀ i, i < 8 → ∃ v : Int, cs[i]? = some (.int .i64 v) ∧ Cp.i64 v := by
    intro i hi
    have he := hel i hi
    rw [i64Cells, List.getElem?_eq_getElem (by omega)] at he
    obtain ⟨n0, e0, _, b0⟩ := DataW.trod_int Try.underlying2 he
    have c0 := congrArg (·[0]?) e0
    simp only [List.getElem?_take, List.getElem?_drop, List.getElem?_cons_zero, Nat.zero_lt_one, if_true] at c0
    exact ⟨n0, by simpa using c0, wf_i64 b0⟩
  obtain ⟨Y, hY⟩ := Go.Deep.choose_lt each
  refine ⟨(List.range 8).map Y, ?_, by simp, fun v hv => ?_⟩
  · apply List.ext_getElem?
    intro i
    by_cases hi : i < 8
    · rw [(hY i hi).1, nv, List.map_map, List.getElem?_map, List.getElem?_range hi]
      rfl
    · rw [List.getElem?_eq_none (by omega), List.getElem?_eq_none (by simp [nv]; omega)]
  · simp only [List.mem_map, List.mem_range] at hv
    obtain ⟨i, hi, rfl⟩ := hv
    exact (hY i hi).2
set_option maxRecDepth 100000 in
/-- A processor that came in. -/
theorem cpu_came {H : Type} {enc : TypeId × Value → H} {W : World} {base b0 : Nat} {r : Reach} {sp : Nat → Bool} {held : Bool} {v : Value} {d : DataW H} {p : List MemPlace}
    (hv : Value.okWide Try.prog W r b0 30 v) (h : DataW.Trod enc Try.prog W base sp held 30 v d p) : ∃ c : Cp.Cpu, v = .agg (cc c) ∧ Cp.Ok c := by
  obtain ⟨cs, rfl, hsz⟩ := okWide_struct Try.underlying30 hv
  rw [cpuCells] at hsz
  obtain ⟨fuel, hf⟩ := h
  obtain ⟨y0, y1, n, _, _, h0, h1⟩ := Go.ChangeShapes.trod_struct2 Try.underlying30 hf
  obtain ⟨n0, e0, _, b0⟩ := DataW.trod_int Try.underlying3 h0
  obtain ⟨L, e1, hl, hL⟩ := nums_came h1
  simp only [intCells, regsCells, Value.cells, List.drop_zero] at e0 e1
  have e2 : cs.toList = .int .i64 n0 :: nv .i64 L := by
    rw [← e1, ← List.singleton_append, ← e0, List.take_of_length_le (l := cs.toList.drop 1) (by simp; omega), List.take_append_drop]
  exact ⟨⟨n0, L⟩, by rw [cc, ← e2], hl, hL, wf_i64 b0⟩
set_option maxRecDepth 100000 in
/-- An instruction that came in by value. -/
theorem instr_came {H : Type} {enc : TypeId × Value → H} {W : World} {base b0 : Nat} {r : Reach} {sp : Nat → Bool} {held : Bool} {v : Value} {d : DataW H} {p : List MemPlace}
    (hv : Value.okWide Try.prog W r b0 84 v) (h : DataW.Trod enc Try.prog W base sp held 84 v d p) : ∃ x : Cd.Ins, v = .agg #[.int .i64 x.op, .int .i64 x.a, .int .i64 x.b, .int .i64 x.c] ∧ Cd.in64 x := by
  obtain ⟨cs, rfl, hsz⟩ := okWide_struct Try.underlying84 hv
  rw [insCells] at hsz
  obtain ⟨fuel, hf⟩ := h
  obtain ⟨x, ⟨c0, c1, c2, c3⟩, h64⟩ := ins_came hf
  simp only [Value.cells, Array.getElem?_toList] at c0 c1 c2 c3
  refine ⟨x, ?_, h64⟩
  congr 1
  apply Array.ext_getElem?
  intro i
  rcases i with _ | _ | _ | _ | i
  · simpa using c0
  · simpa using c1
  · simpa using c2
  · simpa using c3
  · rw [Array.getElem?_eq_none (by omega), Array.getElem?_eq_none (by simp)]
end Go.Proofs.Ytddbohnappogkaa
