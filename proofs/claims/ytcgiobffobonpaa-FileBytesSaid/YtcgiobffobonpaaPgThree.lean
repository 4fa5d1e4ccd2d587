/- A slice of three objects, written out; an object loaded out of one. -/
import Derived.Test.YtcgiobffobonpaaOb
namespace Go.Proofs.Ytcgiobffobonpaa
open Go.RowKit

theorem fill3 (a b c : Ob) : Instr.fill (fun i => some (i * 36, 36)) ((Array.range (3 * 36)).map ((oc Ob.zero)[· % (oc Ob.zero).size]!)) [(0, .agg (oc a)), (1, .agg (oc b)), (2, .agg (oc c))] = some (ocl a ++ (ocl b ++ ocl c)).toArray := by kernel_rfl
theorem run_slice3 (w : World) (a b c : Ob) : (Instr.buildSlice 49 3 #[(0, .agg (oc a)), (1, .agg (oc b)), (2, .agg (oc c))]).run Try.prog w = .ok (.slice (some ⟨w.heap.size, 0, none⟩) 3 3) (w.alloc (.cells (ocl a ++ (ocl b ++ ocl c)).toArray 41)) := by
  have hz : (zeroValue 41).run Try.prog w = .ok (.agg (oc Ob.zero)) w := by kernel_rfl
  have hs : (sizeOf 41).run Try.prog w = .ok 36 w := by kernel_rfl
  have hf := fill3 a b c
  simp only [Instr.buildSlice, Sem.run_bind, run_underlying Try.underlying49, Result.andThen_ok, hs]
  rw [if_neg (by decide), if_neg (by decide)]
  simp only [Sem.run_bind, hz, Result.andThen_ok, Sem.run_pure, Value.cells, hf, newRow, run_newObj_alloc]
theorem exec_slice3 {o : Oper} {act : Act} {w : World} {x y z : Operand} (ho : o.op = .buildSlice 49 3 #[(0, x), (1, y), (2, z)]) {a b c : Ob} (hx : act.eval x = .agg (oc a)) (hy : act.eval y = .agg (oc b)) (hz : act.eval z = .agg (oc c)) :
    (execOp act.eval o).run Try.prog w = .ok (.value (.slice (some ⟨w.heap.size, 0, none⟩) 3 3)) (w.alloc (.cells (ocl a ++ (ocl b ++ ocl c)).toArray 41)) := by
  have hr := run_slice3 w a b c
  unfold execOp
  simp only [ho, hx, hy, hz, List.map_toArray, List.map_cons, List.map_nil, Sem.run_bind, hr, Result.andThen_ok, Sem.run_pure]
theorem ocl_len (y : Ob) : (ocl y).length = 36 := by simp [ocl, pcs]
/-- The k-th of three. -/
theorem three_at {a b c : Ob} {k : Nat} {x : Ob} (hx : [a, b, c][k]? = some x) (j : Nat) (v : Value) (h : (ocl x)[j]? = some v) : (ocl a ++ (ocl b ++ ocl c)).toArray[k * 36 + j]? = some v := by
  have hj : j < 36 := by have := (List.getElem?_eq_some_iff.1 h).1; rw [ocl_len] at this; exact this
  rw [List.getElem?_toArray]
  rcases k with _ | _ | _ | k
  · simp only [List.getElem?_cons_zero, Option.some.injEq] at hx
    subst hx
    rw [List.getElem?_append_left (by rw [ocl_len]; omega), show 0 * 36 + j = j by omega]
    exact h
  · simp only [List.getElem?_cons_succ, List.getElem?_cons_zero, Option.some.injEq] at hx
    subst hx
    rw [List.getElem?_append_right (by rw [ocl_len]; omega), List.getElem?_append_left (by rw [ocl_len, ocl_len]; omega), ocl_len, show (0 + 1) * 36 + j - 36 = j by omega]
    exact h
  · simp only [List.getElem?_cons_succ, List.getElem?_cons_zero, Option.some.injEq] at hx
    subst hx
    rw [List.getElem?_append_right (by rw [ocl_len]; omega), List.getElem?_append_right (by rw [ocl_len, ocl_len]; omega), ocl_len, ocl_len, show (0 + 1 + 1) * 36 + j - 36 - 36 = j by omega]
    exact h
  · simp at hx
theorem exec_load_three {o : Oper} {act : Act} {w : World} {p : Operand} (ho : o.op = .load 41 p) {g k : Nat} (hp : act.eval p = .pointer (some ⟨g, k * 36, none⟩)) {t : TypeId} {a b c x : Ob} (h : Obl w g t (ocl a ++ (ocl b ++ ocl c)).toArray) (hx : [a, b, c][k]? = some x) :
    (execOp act.eval o).run Try.prog w = .ok (.value (.agg (oc x))) w := exec_load_mid ho hp h (ocl x) (three_at hx) rfl Try.underlying41 obSize
end Go.Proofs.Ytcgiobffobonpaa
