/- A slice of four objects, written out; an object loaded out of one. -/
import Derived.Test.YtddbohnappogkaaObCame
import Derived.Test.YtddbohnappogkaaSmMath
namespace Go.Proofs.Ytddbohnappogkaa
open Go.RowKit

def four (a b c d : Ob) : List Value := ocl a ++ (ocl b ++ (ocl c ++ ocl d))
theorem fill4 (a b c d : Ob) : Instr.fill (fun i => some (i * 36, 36)) ((Array.range (4 * 36)).map ((oc Ob.zero)[· % (oc Ob.zero).size]!)) [(0, .agg (oc a)), (1, .agg (oc b)), (2, .agg (oc c)), (3, .agg (oc d))] = some (four a b c d).toArray := by kernel_rfl
theorem run_slice4 (w : World) (a b c d : Ob) : (Instr.buildSlice 48 4 #[(0, .agg (oc a)), (1, .agg (oc b)), (2, .agg (oc c)), (3, .agg (oc d))]).run Try.prog w = .ok (.slice (some ⟨w.heap.size, 0, none⟩) 4 4) (w.alloc (.cells (four a b c d).toArray 41)) := by
  have hz : (zeroValue 41).run Try.prog w = .ok (.agg (oc Ob.zero)) w := by kernel_rfl
  have hs : (sizeOf 41).run Try.prog w = .ok 36 w := by kernel_rfl
  have hf := fill4 a b c d
  simp only [Instr.buildSlice, Sem.run_bind, run_underlying Try.underlying48, Result.andThen_ok, hs]
  rw [if_neg (by decide), if_neg (by decide)]
  simp only [Sem.run_bind, hz, Result.andThen_ok, Sem.run_pure, Value.cells, hf, newRow, run_newObj_alloc]
theorem exec_slice4 {o : Oper} {act : Act} {w : World} {x y z u : Operand} (ho : o.op = .buildSlice 48 4 #[(0, x), (1, y), (2, z), (3, u)]) {a b c d : Ob} (hx : act.eval x = .agg (oc a)) (hy : act.eval y = .agg (oc b)) (hz : act.eval z = .agg (oc c)) (hu : act.eval u = .agg (oc d)) :
    (execOp act.eval o).run Try.prog w = .ok (.value (.slice (some ⟨w.heap.size, 0, none⟩) 4 4)) (w.alloc (.cells (four a b c d).toArray 41)) := by
  have hr := run_slice4 w a b c d
  unfold execOp
  simp only [ho, hx, hy, hz, hu, List.map_toArray, List.map_cons, List.map_nil, Sem.run_bind, hr, Result.andThen_ok, Sem.run_pure]
/-- The k-th of four. -/
theorem four_at {a b c d : Ob} {k : Nat} {x : Ob} (hx : [a, b, c, d][k]? = some x) (j : Nat) (v : Value) (h : (ocl x)[j]? = some v) : (four a b c d).toArray[k * 36 + j]? = some v := by
  have hj : j < 36 := by have := (List.getElem?_eq_some_iff.1 h).1; rw [ocl_len] at this; exact this
  rw [List.getElem?_toArray, four]
  rcases k with _ | _ | _ | _ | k
  · simp only [List.getElem?_cons_zero, Option.some.injEq] at hx
    subst hx
    rw [List.getElem?_append_left (by rw [ocl_len]; omega), show 0 * 36 + j = j by omega]
    exact h
  · simp only [List.getElem?_cons_succ, List.getElem?_cons_zero, Option.some.injEq] at hx
    subst hx
    rw [List.getElem?_append_right (by rw [ocl_len]; omega), List.getElem?_append_left (by rw [ocl_len, ocl_len]; omega), ocl_len, show (0 + 1) * 36 + j - 36 = j by omega]
    exact h
  · simp only [List.getElem?_cons_succ, List.getElem?_cons_zero, Option.some.injEq] at hx
    subst hx
    rw [List.getElem?_append_right (by rw [ocl_len]; omega), List.getElem?_append_right (by rw [ocl_len, ocl_len]; omega), List.getElem?_append_left (by rw [ocl_len, ocl_len, ocl_len]; omega), ocl_len, ocl_len, show (0 + 1 + 1) * 36 + j - 36 - 36 = j by omega]
    exact h
  · simp only [List.getElem?_cons_succ, List.getElem?_cons_zero, Option.some.injEq] at hx
    subst hx
    rw [List.getElem?_append_right (by rw [ocl_len]; omega), List.getElem?_append_right (by rw [ocl_len, ocl_len]; omega), List.getElem?_append_right (by rw [ocl_len, ocl_len, ocl_len]; omega), ocl_len, ocl_len, ocl_len, show (0 + 1 + 1 + 1) * 36 + j - 36 - 36 - 36 = j by omega]
    exact h
  · simp at hx
theorem exec_load_four {o : Oper} {act : Act} {w : World} {p : Operand} (ho : o.op = .load 41 p) {g k : Nat} (hp : act.eval p = .pointer (some ⟨g, k * 36, none⟩)) {t : TypeId} {a b c d x : Ob} (h : Obl w g t (four a b c d).toArray) (hx : [a, b, c, d][k]? = some x) :
    (execOp act.eval o).run Try.prog w = .ok (.value (.agg (oc x))) w := exec_load_mid ho hp h (ocl x) (four_at hx) rfl Try.underlying41 obSize
theorem built_sem (id n : Int) : Try.prog.built 41 [(0, .int .u64 id), (1, .int .i64 8), (13, .int .i64 n)] = some (oc (Ob.sem id n)) := by kernel_rfl
end Go.Proofs.Ytddbohnappogkaa
