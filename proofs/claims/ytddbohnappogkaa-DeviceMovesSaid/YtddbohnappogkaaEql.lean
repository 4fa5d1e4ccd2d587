/- '==' on arrays of numbers, on processors and on actions. -/
import Derived.Test.YtddbohnappogkaaCpuCell
import Derived.Test.YtddbohnappogkaaVal
import Derived.Laws.StructEq
import Derived.ChangeKeysEq
namespace Go.Proofs.Ytddbohnappogkaa
open Go.RowKit

theorem regsSize : (Try.prog.info? 28).map (·.size) = some 8 := by kernel_rfl
theorem i64Size : (Try.prog.info? 2).map (·.size) = some 1 := by kernel_rfl
theorem cpuFields : Try.prog.underlying 30 = some (.struct (Try.prog.fieldsOf 30)) := by kernel_rfl
set_option maxRecDepth 100000 in
theorem equal_cpu (x y : Cp.Cpu) (hx : x.regs.length = 8) (hy : y.regs.length = 8) (w : World) : (Op.equalIn 10000 30 (.agg (cc x)) (.agg (cc y))).run Try.prog w = .ok (decide (x = y)) w := by
  rw [show (10000 : Nat) = 9999 + 1 from rfl, run_equalIn_agg w 9999 _ _ _ cpuFields (by kernel_rfl)]
  have hf : (Try.prog.fieldsOf 30).toList.map (fun f => (f.name, f.type, f.offset)) = [("PC", 3, 0), ("Regs", 28, 1)] := by kernel_rfl
  generalize (Try.prog.fieldsOf 30).toList = fs at hf ⊢
  have hl : fs.length = 2 := by simpa using congrArg List.length hf
  match fs, hl with
  | [f0, f1], _ =>
    simp only [List.map_cons, List.map_nil, List.cons.injEq, Prod.mk.injEq, and_true] at hf
    obtain ⟨⟨n0, t0, o0⟩, n1, t1, o1⟩ := hf
    have e0 : ∀ c : Cp.Cpu, (part 3 (cc c) 0).run Try.prog w = .ok (.int .i64 c.pc) w := fun c => run_part_one Try.underlying3 rfl (by simp [cc])
    have e1 : ∀ c : Cp.Cpu, c.regs.length = 8 → (part 28 (cc c) 1).run Try.prog w = .ok (.agg (nv .i64 c.regs).toArray) w := fun c hc => by
      rw [run_part_row Try.underlying28 rfl regsSize]
      congr 2
      simp [cc, nv, List.take_of_length_le, hc]
    have e2 : (Op.equalIn 9999 28 (.agg (nv .i64 x.regs).toArray) (.agg (nv .i64 y.regs).toArray)).run Try.prog w = .ok (decide (x.regs = y.regs)) w := run_equal_nums (d := 9997) Try.underlying28 Try.underlying2 i64Size x.regs y.regs hx hy
    have e3 : (Op.equalIn 9999 3 (.int .i64 x.pc) (.int .i64 y.pc)).run Try.prog w = .ok (x.pc == y.pc) w := run_equalIn_int w 9998 3 .i64 .i64 _ _ Try.underlying3
    simp only [Op.eqFields, n0, n1, t0, t1, o0, o1, ne_eq, String.reduceEq, not_false_eq_true, if_true, Sem.run_bind, e0, e3, Result.andThen_ok, Sem.run_ite, e1 x hx, e1 y hy, e2, Sem.run_pure]
    obtain ⟨p, r⟩ := x
    obtain ⟨q, s⟩ := y
    by_cases h1 : p = q
    · by_cases h2 : r = s <;> simp [h1, h2]
    · simp [h1]
section
variable {w : World} {a : Act} {o : Oper}
theorem exec_eql_cpu {p q : Operand} {t : TypeId} (ho : o.op = .binOp .eql 30 p q t) {x y : Cp.Cpu} (hp : a.eval p = .agg (cc x)) (hq : a.eval q = .agg (cc y)) (hx : x.regs.length = 8) (hy : y.regs.length = 8) :
    (execOp a.eval o).run Try.prog w = .ok (.value (.bool (decide (x = y)))) w := by
  unfold execOp
  simp only [ho, hp, hq, Sem.run_bind, run_eqGuard_agg w .eql 30 p q (cc x) (cc y) (show Try.prog.eqGuardType Try.prog.depth 30 = false by kernel_rfl), run_eql_struct, equal_cpu x y hx hy, Result.andThen_ok, Sem.run_pure]
theorem exec_same_cpu {p q : Operand} {t : TypeId} (ho : o.op = .binOp .eql 30 p q t) {x : Cp.Cpu} (hp : a.eval p = .agg (cc x)) (hq : a.eval q = .agg (cc x)) (hx : x.regs.length = 8) :
    (execOp a.eval o).run Try.prog w = .ok (.value (.bool true)) w := by
  rw [exec_eql_cpu ho hp hq hx hx]
  simp
theorem exec_neq_cpu {p q : Operand} {t : TypeId} (ho : o.op = .binOp .neq 30 p q t) {x y : Cp.Cpu} (hp : a.eval p = .agg (cc x)) (hq : a.eval q = .agg (cc y)) (hx : x.regs.length = 8) (hy : y.regs.length = 8) :
    (execOp a.eval o).run Try.prog w = .ok (.value (.bool (!decide (x = y)))) w := by
  unfold execOp
  simp only [ho, hp, hq, Sem.run_bind, run_eqGuard_agg w .neq 30 p q (cc x) (cc y) (show Try.prog.eqGuardType Try.prog.depth 30 = false by kernel_rfl), run_neq_struct, equal_cpu x y hx hy, Result.andThen_ok, Sem.run_pure]
end
end Go.Proofs.Ytddbohnappogkaa
