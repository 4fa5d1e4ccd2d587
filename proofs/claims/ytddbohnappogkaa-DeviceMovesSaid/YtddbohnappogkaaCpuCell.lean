/- How a processor lies in memory. -/
import Derived.Test.YtddbohnappogkaaCpuMath
import Derived.Test.YtddbohnappogkaaIns
import Derived.Test.YtddbohnappogkaaRowMem
namespace Go.Proofs.Ytddbohnappogkaa
open Go.RowKit

def cc (c : Cp.Cpu) : Array Value := (Value.int .i64 c.pc :: nv .i64 c.regs).toArray
abbrev ca (c : Cp.Cpu) : Value := .agg (cc c)
theorem cpuSize : (Try.prog.info? 30).map (·.size) = some 9 := by kernel_rfl
theorem cc_size {c : Cp.Cpu} (h : c.regs.length = 8) : (cc c).size = 9 := by simp [cc, nv, h]
theorem cc_one (c : Cp.Cpu) : (cc c).all (·.oneCell') = true := by simp [cc, nv, Value.oneCell']
section
variable {w : World} {g : Nat} {c : Cp.Cpu} {t : TypeId}
theorem cc_pc (h : Obl w g t (cc c)) : w.cell? ⟨g, 0, none⟩ = some (.int .i64 c.pc) := by rw [h.cell]; simp [cc]
theorem cc_reg (h : Obl w g t (cc c)) (h8 : c.regs.length = 8) {i : Int} (hi : 0 ≤ i ∧ i < 8) : w.cell? ⟨g, 1 + i.toNat, none⟩ = some (.int .i64 (Cp.get c i)) := by
  have hl : i.toNat < c.regs.length := by omega
  rw [h.cell]
  unfold cc Cp.get
  rw [Nat.add_comm]
  simp only [List.getElem?_toArray, List.getElem?_cons_succ, nv_at hl, Cd.getD_at _ _ hl]
theorem cc_putpc (c : Cp.Cpu) (v : Int) : (cc c).setIfInBounds 0 (.int .i64 v) = cc ⟨v, c.regs⟩ := by simp [cc]
theorem cc_put (c : Cp.Cpu) (i v : Int) : (cc c).setIfInBounds (1 + i.toNat) (.int .i64 v) = cc (Cp.put c i v) := by
  unfold cc Cp.put nv
  rw [Nat.add_comm]
  simp
end
section
variable {ops : Array Oper} {rest : List Oper} {o : Oper} {a : Act} {w : World} {Q : Exit → Act → World → Prop}
theorem load_cpu (hgd : o.guard = none) (x : Operand) (ho : o.op = .load 30 x) {g : Nat} (hx : a.eval x = .pointer (some ⟨g, 0, none⟩)) {c : Cp.Cpu} {t : TypeId} (h : Obl w g t (cc c)) (h8 : c.regs.length = 8)
    (hK : wpList Try.prog ops Q rest (a.put o.dst (ca c)) w) : wpList Try.prog ops Q (o :: rest) a w :=
  wpList_load_row hgd _ x ho g hx t (cc c) (0, 0) _ h Try.underlying30 rfl (by rw [cc_size h8]; exact cpuSize) hK
theorem load_ins (hgd : o.guard = none) (x : Operand) (ho : o.op = .load 84 x) {g : Nat} (hx : a.eval x = .pointer (some ⟨g, 0, none⟩)) {p q r s : Value} {t : TypeId} (h : Obl w g t #[p, q, r, s])
    (hK : wpList Try.prog ops Q rest (a.put o.dst (.agg #[p, q, r, s])) w) : wpList Try.prog ops Q (o :: rest) a w :=
  wpList_load_row hgd _ x ho g hx t #[p, q, r, s] (0, 0) _ h Try.underlying84 rfl insSize hK
theorem store_cpu (hgd : o.guard = none) (x y : Operand) (ho : o.op = .store 30 x y) {g : Nat} (hx : a.eval x = .pointer (some ⟨g, 0, none⟩)) {c : Cp.Cpu} (hy : a.eval y = ca c) {old : Array Value} {t : TypeId} (h : Obl w g t old) (hold : old.size = 9) (h8 : c.regs.length = 8)
    (hK : wpList Try.prog ops Q rest (a.put o.dst undef) (w.setRow g (cc c))) : wpList Try.prog ops Q (o :: rest) a w :=
  wpList_store_row hgd _ x y ho g (cc c) hx hy t old h (by rw [cc_size h8]; exact cpuSize) (by rw [cc_size h8]; exact hold) (cc_one c) hK
theorem exec_load_cpu {x : Operand} (ho : o.op = .load 30 x) {g : Nat} (hx : a.eval x = .pointer (some ⟨g, 0, none⟩)) {t : TypeId} {c : Cp.Cpu} (h : Obl w g t (cc c)) (h8 : c.regs.length = 8) :
    (execOp a.eval o).run Try.prog w = .ok (.value (.agg (cc c))) w := exec_load_row ho hx h rfl Try.underlying30 (by rw [cc_size h8]; exact cpuSize)
theorem exec_load_ins {x : Operand} (ho : o.op = .load 84 x) {g : Nat} (hx : a.eval x = .pointer (some ⟨g, 0, none⟩)) {t : TypeId} {p q r s : Value} (h : Obl w g t #[p, q, r, s]) :
    (execOp a.eval o).run Try.prog w = .ok (.value (.agg #[p, q, r, s])) w := exec_load_row ho hx h rfl Try.underlying84 insSize
end
end Go.Proofs.Ytddbohnappogkaa
