/- Slots and tables that came in. -/
import Derived.Test.YtbbibbniphmgbaaTbMem
import Derived.Test.YtbbibbniphmgbaaCameB
import Derived.Lib.SmallJoins
import Derived.MakeChecks
import Derived.OpenShut
namespace Go.Proofs.Ytbbibbniphmgbaa
open Go.ChangeShapes Go.WideShapes Go.ChangeAt Go.RowKit

theorem slInt : Try.prog.cellsOf 3 = 1 := by kernel_rfl
theorem slU64 : Try.prog.cellsOf 23 = 1 := by kernel_rfl
theorem slotCells : Try.prog.cellsOf 25 = 4 := by kernel_rfl
/-- A slot that came in. -/
theorem slot1_came {H : Type} {enc : TypeId × Value → H} {W : World} {base : Nat} {sp : Nat → Bool} {held : Bool} {fuel : Nat} {cs : List Value} {x : DataW H × List MemPlace}
    (h : DataW.trod enc Try.prog W base sp held fuel 25 cs = some x) : ∃ y : Tb.Slot, (cs[0]? = some (.int .i64 y.kind) ∧ cs[1]? = some (.int .u64 y.desc) ∧ cs[2]? = some (.int .u64 y.target) ∧ cs[3]? = some (.int .i64 y.fin)) ∧ True := by
  obtain ⟨y0, y1, y2, y3, n, rfl, _, g0, g1, g2, g3⟩ := Joins.trod_struct4 Try.underlying25 h
  obtain ⟨n0, e0, rfl, b0⟩ := DataW.trod_int Try.underlying3 g0
  obtain ⟨n1, e1, rfl, b1⟩ := DataW.trod_int Try.underlying23 g1
  obtain ⟨n2, e2, rfl, b2⟩ := DataW.trod_int Try.underlying23 g2
  obtain ⟨n3, e3, rfl, b3⟩ := DataW.trod_int Try.underlying3 g3
  have c0 := congrArg (·[0]?) e0
  have c1 := congrArg (·[0]?) e1
  have c2 := congrArg (·[0]?) e2
  have c3 := congrArg (·[0]?) e3
  simp only [slInt, slU64, List.getElem?_take, List.getElem?_drop, List.getElem?_cons_zero, Nat.zero_lt_one, if_true] at c0 c1 c2 c3
  exact ⟨⟨n0, n1, n2, n3⟩, ⟨by simpa using c0, by simpa using c1, by simpa using c2, by simpa using c3⟩, trivial⟩
/-- A slice of slots that came in. -/
theorem slots0_came {H : Type} {enc : TypeId × Value → H} {W : World} {base : Nat} {sp : Nat → Bool} {held : Bool} {fuel : Nat} {v : Value} {x : DataW H × List MemPlace}
    (h : DataW.trod enc Try.prog W base sp held fuel 22 [v] = some x) : ∃ A n c l, v = .slice A n c ∧ Slots W W.heap.size A n l ∧ (n ≤ c ∧ c ≤ 9223372036854775807) ∧ True := by
  rcases DataW.trod_slice Try.underlying22 h with ⟨hcs, _⟩ | ⟨a, len, cap, elems, rest, m, _, hcs, _, _, hl, hm, hlen, hel, _⟩
  · simp only [List.cons.injEq, and_true] at hcs
    exact ⟨none, 0, 0, [], hcs, Slots.nil, by omega, trivial⟩
  · simp only [List.cons.injEq, and_true] at hcs
    unfold maxLen at hm
    have each : ∀ i, i < len → ∃ y : Tb.Slot, (W.cell? ((a.add (i * 4)).add 0) = some (.int .i64 y.kind) ∧ W.cell? ((a.add (i * 4)).add 1) = some (.int .u64 y.desc) ∧ W.cell? ((a.add (i * 4)).add 2) = some (.int .u64 y.target) ∧ W.cell? ((a.add (i * 4)).add 3) = some (.int .i64 y.fin)) ∧ True := by
      intro i hi
      have he := hel i hi
      rw [slotCells, List.getElem?_eq_getElem (by omega)] at he
      obtain ⟨cs, h1, h2⟩ := Option.bind_eq_some_iff.1 he
      obtain ⟨_, hl4, hcell⟩ := World.cells?_some h1
      obtain ⟨y, ⟨c0, c1, c2, c3⟩, hy⟩ := slot1_came h2
      exact ⟨y, ⟨(hcell 0 (by omega)).trans c0, (hcell 1 (by omega)).trans c1, (hcell 2 (by omega)).trans c2, (hcell 3 (by omega)).trans c3⟩, hy⟩
    haveI : Inhabited Tb.Slot := ⟨⟨0, 0, 0, 0⟩⟩
    obtain ⟨Y, hY⟩ := Go.Deep.choose_lt each
    refine ⟨some a, len, cap, (List.range len).map Y, hcs, ⟨by simp, by rw [stv_length]; simp, by simp, fun hne => ?_⟩, by omega, ?_⟩
    · have h0 : 0 < len := by
        rcases Nat.eq_zero_or_pos len with h0 | h0
        · subst h0; simp [stv] at hne
        · exact h0
      have hc0 := (hY 0 h0).1.1
      obtain ⟨b, o, spot⟩ := a
      have hspot : spot = none := by simpa [Addr.add] using World.cell?_spot hc0
      subst hspot
      have hlt := World.block_lt_of_cell? W _ hc0
      rw [add_spot, add_spot] at hlt
      refine ⟨b, o, rfl, hlt, fun j u hu => ?_⟩
      have hj : j < len * 4 := by
        have := (List.getElem?_eq_some_iff.1 hu).1
        rw [stv_length] at this
        simpa using this
      have hi : j / 4 < len := by omega
      have hil : j / 4 < ((List.range len).map Y).length := by simpa using hi
      have i0 := stv_get hil (show 0 < 4 by omega)
      have i1 := stv_get hil (show 1 < 4 by omega)
      have i2 := stv_get hil (show 2 < 4 by omega)
      have i3 := stv_get hil (show 3 < 4 by omega)
      simp only [stc, Nat.add_zero, List.getElem?_cons_zero, List.getElem?_cons_succ] at i0 i1 i2 i3
      obtain ⟨⟨c0, c1, c2, c3⟩, _⟩ := hY (j / 4) hi
      rw [add_spot, add_spot] at c0 c1 c2 c3
      have hg : ((List.range len).map Y)[j / 4] = Y (j / 4) := by simp
      rw [hg] at i0 i1 i2 i3
      rcases (show j = j / 4 * 4 ∨ j = j / 4 * 4 + 1 ∨ j = j / 4 * 4 + 2 ∨ j = j / 4 * 4 + 3 by omega) with e | e | e | e
      · rw [e, i0] at hu
        rw [e, show o + j / 4 * 4 = o + j / 4 * 4 + 0 by omega]
        exact c0.trans hu
      · rw [e, i1] at hu
        rw [e, ← Nat.add_assoc]
        exact c1.trans hu
      · rw [e, i2] at hu
        rw [e, ← Nat.add_assoc]
        exact c2.trans hu
      · rw [e, i3] at hu
        rw [e, ← Nat.add_assoc]
        exact c3.trans hu
    · trivial
set_option maxRecDepth 100000 in
/-- A slot that came in by value. -/
theorem slot_came {H : Type} {enc : TypeId × Value → H} {W : World} {base b0 : Nat} {r : Reach} {sp : Nat → Bool} {held : Bool} {v : Value} {d : DataW H} {p : List MemPlace}
    (hv : Value.okWide Try.prog W r b0 25 v) (h : DataW.Trod enc Try.prog W base sp held 25 v d p) : ∃ x : Tb.Slot, v = .agg #[.int .i64 x.kind, .int .u64 x.desc, .int .u64 x.target, .int .i64 x.fin] ∧ True := by
  obtain ⟨cs, rfl, hsz⟩ := okWide_struct Try.underlying25 hv
  rw [slotCells] at hsz
  obtain ⟨fuel, hf⟩ := h
  obtain ⟨x, ⟨c0, c1, c2, c3⟩, h64⟩ := slot1_came hf
  simp only [Value.cells, Array.getElem?_toList] at c0 c1 c2 c3
  refine ⟨x, ?_, h64⟩
  congr 1
  apply Array.ext_getElem?
  intro i
  rcases i with _ | _ | _ | _ | i
  · simpa using c0
  · simpa using c1
  · simpa using c2
  · simpa using c3
  · rw [Array.getElem?_eq_none (by omega), Array.getElem?_eq_none (by simp)]
theorem table_came {H : Type} {enc : TypeId × Value → H} {W : World} {base : Nat} {sp : Nat → Bool} {held : Bool} {fuel : Nat} {A : Option Addr} {n c : Nat} {x : DataW H × List MemPlace}
    (h : DataW.trod enc Try.prog W base sp held fuel 22 [.slice A n c] = some x) : ∃ l, Slots W W.heap.size A n l ∧ n ≤ c ∧ c ≤ 9223372036854775807 := by
  obtain ⟨A', n', c', l, e, h1, h2⟩ := slots0_came h
  cases e
  exact ⟨l, h1, h2.1⟩
end Go.Proofs.Ytbbibbniphmgbaa
