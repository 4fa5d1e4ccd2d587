/- A slice of two processes, a slice of two or three numbers; one loaded out of them. -/
import Derived.Test.YtjdbljbghpmacaaPrMem
namespace Go.Proofs.Ytjdbljbghpmacaa
open Go.RowKit

theorem fill2p (a b : Ob) : Instr.fill (fun i => some (i * 20, 20)) ((Array.range (2 * 20)).map ((pcell Ob.zero)[· % (pcell Ob.zero).size]!)) [(0, .agg (pcell a)), (1, .agg (pcell b))] = some (pcs a ++ pcs b).toArray := by kernel_rfl
theorem run_slice2p (w : World) (a b : Ob) : (Instr.buildSlice 44 2 #[(0, .agg (pcell a)), (1, .agg (pcell b))]).run Try.prog w = .ok (.slice (some ⟨w.heap.size, 0, none⟩) 2 2) (w.alloc (.cells (pcs a ++ pcs b).toArray 34)) := by
  have hz : (zeroValue 34).run Try.prog w = .ok (.agg (pcell Ob.zero)) w := by kernel_rfl
  have hs : (sizeOf 34).run Try.prog w = .ok 20 w := by kernel_rfl
  have hf := fill2p a b
  simp only [Instr.buildSlice, Sem.run_bind, run_underlying Try.underlying44, Result.andThen_ok, hs]
  rw [if_neg (by decide), if_neg (by decide)]
  simp only [Sem.run_bind, hz, Result.andThen_ok, Sem.run_pure, Value.cells, hf, newRow, run_newObj_alloc]
theorem exec_slice2p {o : Oper} {act : Act} {w : World} {x y : Operand} (ho : o.op = .buildSlice 44 2 #[(0, x), (1, y)]) {a b : Ob} (hx : act.eval x = .agg (pcell a)) (hy : act.eval y = .agg (pcell b)) :
    (execOp act.eval o).run Try.prog w = .ok (.value (.slice (some ⟨w.heap.size, 0, none⟩) 2 2)) (w.alloc (.cells (pcs a ++ pcs b).toArray 34)) := by
  have hr := run_slice2p w a b
  unfold execOp
  simp only [ho, hx, hy, List.map_toArray, List.map_cons, List.map_nil, Sem.run_bind, hr, Result.andThen_ok, Sem.run_pure]
theorem pcs_len (y : Ob) : (pcs y).length = 20 := by simp [pcs]
theorem twop_at {a b : Ob} {k : Nat} {x : Ob} (hx : [a, b][k]? = some x) (j : Nat) (v : Value) (h : (pcs x)[j]? = some v) : (pcs a ++ pcs b).toArray[k * 20 + j]? = some v := by
  have hj : j < 20 := by have := (List.getElem?_eq_some_iff.1 h).1; rw [pcs_len] at this; exact this
  rw [List.getElem?_toArray]
  rcases k with _ | _ | k
  · simp only [List.getElem?_cons_zero, Option.some.injEq] at hx
    subst hx
    rw [List.getElem?_append_left (by rw [pcs_len]; omega), show 0 * 20 + j = j by omega]
    exact h
  · simp only [List.getElem?_cons_succ, List.getElem?_cons_zero, Option.some.injEq] at hx
    subst hx
    rw [List.getElem?_append_right (by rw [pcs_len]; omega), pcs_len, show (0 + 1) * 20 + j - 20 = j by omega]
    exact h
  · simp at hx
theorem exec_load_twop {o : Oper} {act : Act} {w : World} {p : Operand} (ho : o.op = .load 34 p) {g k : Nat} (hp : act.eval p = .pointer (some ⟨g, k * 20, none⟩)) {t : TypeId} {a b x : Ob} (h : Obl w g t (pcs a ++ pcs b).toArray) (hx : [a, b][k]? = some x) :
    (execOp act.eval o).run Try.prog w = .ok (.value (.agg (pcell x))) w := exec_load_mid ho hp h (pcs x) (twop_at hx) rfl Try.underlying34 procSize
theorem start_ints2 (w : World) (a b : Int) : ∃ w1, w.alloc (.cells #[.int .i64 a, .int .i64 b] 2) = w1 ∧ ∃ g, w.heap.size = g ∧ Obl w1 g 2 #[.int .i64 a, .int .i64 b] ∧ Below w.heap.size w w1 ∧ w1.heap.size = g + 1 :=
  ⟨_, rfl, _, rfl, Obl.make w _ _, (Below.refl _ _).alloc (Nat.le_refl _) _, by simp⟩
theorem ints2_at {w : World} {g : Nat} {t : TypeId} {a b : Int} (h : Obl w g t #[.int .i64 a, .int .i64 b]) {j : Nat} (hj : j < 2) : ∃ s, [a, b][j]? = some s ∧ w.cell? ⟨g, j, none⟩ = some (.int .i64 s) := by
  rcases j with _ | _ | j
  · exact ⟨a, rfl, h.cell 0⟩
  · exact ⟨b, rfl, h.cell 1⟩
  · omega
theorem start_ints3 (w : World) (a b c : Int) : ∃ w1, w.alloc (.cells #[.int .i64 a, .int .i64 b, .int .i64 c] 2) = w1 ∧ ∃ g, w.heap.size = g ∧ Obl w1 g 2 #[.int .i64 a, .int .i64 b, .int .i64 c] ∧ Below w.heap.size w w1 ∧ w1.heap.size = g + 1 :=
  ⟨_, rfl, _, rfl, Obl.make w _ _, (Below.refl _ _).alloc (Nat.le_refl _) _, by simp⟩
theorem ints3_at {w : World} {g : Nat} {t : TypeId} {a b c : Int} (h : Obl w g t #[.int .i64 a, .int .i64 b, .int .i64 c]) {j : Nat} (hj : j < 3) : ∃ s, [a, b, c][j]? = some s ∧ w.cell? ⟨g, j, none⟩ = some (.int .i64 s) := by
  rcases j with _ | _ | _ | j
  · exact ⟨a, rfl, h.cell 0⟩
  · exact ⟨b, rfl, h.cell 1⟩
  · exact ⟨c, rfl, h.cell 2⟩
  · omega
theorem wpList_yield {ops : Array Oper} {rest : List Oper} {o : Oper} {a : Act} {w w' : World} {Q : Exit → Act → World → Prop} {v : Value} (hgd : o.guard = none) (hr : (execOp a.eval o).run Try.prog w = .ok (.value v) w') (h : wpList Try.prog ops Q rest (a.put o.dst v) w') : wpList Try.prog ops Q (o :: rest) a w :=
  wpList_plain hgd fun _ hK => wp_yield hr (hK _ _ h)
end Go.Proofs.Ytjdbljbghpmacaa
