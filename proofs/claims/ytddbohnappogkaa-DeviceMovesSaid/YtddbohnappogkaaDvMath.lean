/- Layer 17: which objects are devices; an object's numbers without its lists, in memory, compared. -/
import Derived.Test.YtddbohnappogkaaSmMath
namespace Go.Proofs.Ytddbohnappogkaa
open Go.RowKit

/-- A device. -/
def Ob.Dev (o : Ob) : Prop := o.kind = 9 ∧ o.id ≠ 0 ∧ o.SmOthers
/-- The device id with this count. -/
def Ob.dev (id n : Int) : Ob := { Ob.zero with id := id, kind := 9, count := n }
/-- No list of a process; no list at all. -/
def Ob.DvPLists (o : Ob) : Prop := o.children.n = 0 ∧ o.code.n = 0 ∧ o.strs.n = 0 ∧ o.pages.n = 0 ∧ o.table.n = 0
def Ob.DvLists (o : Ob) : Prop := o.Listless ∧ o.DvPLists
/-- The same numbers. -/
def SamePn (x y : Ob) : Prop := x.state = y.state ∧ x.parent = y.parent ∧ x.ppages = y.ppages ∧ x.cpu = y.cpu ∧ x.pending = y.pending ∧ x.alarm = y.alarm ∧ x.status = y.status
def SameDn (x y : Ob) : Prop := x.id = y.id ∧ x.kind = y.kind ∧ x.refs = y.refs ∧ SamePn x y ∧ x.offset = y.offset ∧ x.target = y.target ∧ x.readers = y.readers ∧ x.writers = y.writers ∧ [x.e0, x.e1] = [y.e0, y.e1] ∧ x.count = y.count
instance (o : Ob) : Decidable o.Dev := by unfold Ob.Dev; infer_instance
instance (o : Ob) : Decidable o.DvPLists := by unfold Ob.DvPLists; infer_instance
instance (o : Ob) : Decidable o.DvLists := by unfold Ob.DvLists; infer_instance
instance (x y : Ob) : Decidable (SamePn x y) := by unfold SamePn; infer_instance
instance (x y : Ob) : Decidable (SameDn x y) := by unfold SameDn; infer_instance
theorem dev_others (id n : Int) : (Ob.dev id n).SmOthers := by
  have h : Ob.zero.SmOthers := by decide
  exact h
theorem dev_dev {id n : Int} (hid : id ≠ 0) : (Ob.dev id n).Dev := ⟨rfl, hid, dev_others _ _⟩
/-- What package device asks. -/
theorem dev_iff (o : Ob) : o.Dev ↔ o.id ≠ 0 ∧ o.DvLists ∧ SameDn o (Ob.dev o.id o.count) := by
  constructor
  · rintro ⟨h1, h2, ⟨n1, n2, n3, n4, n5, n6⟩, hl, p1, p2, p3, ⟨p4, p5, p6⟩, p7, p8, p9, p10, p11, p12⟩
    exact ⟨h2, ⟨hl, p3, p4, p5, p8, p9⟩, rfl, h1, n1, ⟨p1, p2, p6, p7, p10, p11, p12⟩, n2, n3, n4, n5, n6, rfl⟩
  · rintro ⟨h2, ⟨hl, p3, p4, p5, p8, p9⟩, _, h1, n1, ⟨p1, p2, p6, p7, p10, p11, p12⟩, n2, n3, n4, n5, n6, _⟩
    exact ⟨h1, h2, ⟨n1, n2, n3, n4, n5, n6⟩, hl, p1, p2, p3, ⟨p4, p5, p6⟩, p7, p8, p9, p10, p11, p12⟩
/-- The error of a request. -/
def Ob.dvErr (o : Ob) : Int := if o.Dev then 0 else 1
theorem dev_dvErr {id n : Int} (hid : id ≠ 0) : (Ob.dev id n).dvErr = 0 := by unfold Ob.dvErr; rw [if_pos (dev_dev hid)]
theorem like_dev (id n : Int) : SmLike (Ob.dev id n) id 9 n := ⟨⟨rfl, rfl, rfl⟩, dev_others _ _⟩
theorem like_dcount {o : Ob} (h : o.Dev) (n : Int) : SmLike { o with count := n } o.id 9 n := ⟨⟨rfl, h.1, rfl⟩, h.2.2⟩
/-- What a request answers: a number, the object, the error. -/
def DvGives (v : Int) (y : Ob) (r : Int) (w : World) (e : Ending) (w' : World) : Prop := e = .returned (.tuple #[.int .i64 v, .agg (oc y), .int .i64 r]) ∧ Below w.heap.size w w'
/-- The cells of a process's numbers, of an object's. -/
def pnl (o : Ob) : List Value := [.int .i64 o.state, .int .u64 o.parent, .int .i64 o.ppages, .int .i64 o.pc, .int .i64 o.r0, .int .i64 o.r1, .int .i64 o.r2, .int .i64 o.r3, .int .i64 o.r4, .int .i64 o.r5, .int .i64 o.r6, .int .i64 o.r7, .int .i64 o.pending, .int .i64 o.alarm, .int .i64 o.status]
def pn (o : Ob) : Array Value := (pnl o).toArray
def dnl (o : Ob) : List Value := [.int .u64 o.id, .int .i64 o.kind, .int .i64 o.refs] ++ (pnl o ++ [.int .i64 o.offset, .int .u64 o.target, .int .i64 o.readers, .int .i64 o.writers, .int .i64 o.e0, .int .i64 o.e1, .int .i64 o.count])
def dn (o : Ob) : Array Value := (dnl o).toArray
theorem pn_one (o : Ob) : (pn o).all (·.oneCell') = true := by simp [pn, pnl, Value.oneCell']
theorem dn_one (o : Ob) : (dn o).all (·.oneCell') = true := by simp [dn, dnl, pnl, Value.oneCell']
theorem pnSize : (Try.prog.info? 71).map (·.size) = some 15 := by kernel_rfl
theorem dnSize : (Try.prog.info? 73).map (·.size) = some 25 := by kernel_rfl
theorem built_pn (o : Ob) : Try.prog.built 71 [(0, .int .i64 o.state), (1, .int .u64 o.parent), (2, .int .i64 o.ppages), (3, .agg (cc o.cpu)), (4, .int .i64 o.pending), (5, .int .i64 o.alarm), (6, .int .i64 o.status)] = some (pn o) := by kernel_rfl
theorem built_dn (o : Ob) : Try.prog.built 73 [(0, .int .u64 o.id), (1, .int .i64 o.kind), (2, .int .i64 o.refs), (3, .agg (pn o)), (4, .int .i64 o.offset), (5, .int .u64 o.target), (6, .int .i64 o.readers), (7, .int .i64 o.writers), (8, .agg (nv .i64 [o.e0, o.e1]).toArray), (9, .int .i64 o.count)] = some (dn o) := by kernel_rfl
section
variable {ops : Array Oper} {rest : List Oper} {o : Oper} {a : Act} {w : World} {Q : Exit → Act → World → Prop}
theorem store_pn (hgd : o.guard = none) (x y : Operand) (ho : o.op = .store 71 x y) {g : Nat} (hx : a.eval x = .pointer (some ⟨g, 0, none⟩)) {c : Ob} (hy : a.eval y = .agg (pn c)) {old : Array Value} {t : TypeId} (h : Obl w g t old) (hold : old.size = 15)
    (hK : wpList Try.prog ops Q rest (a.put o.dst undef) (w.setRow g (pn c))) : wpList Try.prog ops Q (o :: rest) a w :=
  wpList_store_row hgd _ x y ho g (pn c) hx hy t old h pnSize hold (pn_one c) hK
theorem wp_store_dn {K : Act → World → Prop} {x y : Operand} (ho : o.op = .store 73 x y) {g : Nat} (hx : a.eval x = .pointer (some ⟨g, 0, none⟩)) {c : Ob} (hy : a.eval y = .agg (dn c)) {old : Array Value} {t : TypeId} (h : Obl w g t old) (hold : old.size = 25)
    (hK : K (a.put o.dst undef) (w.setRow g (dn c))) : o.wp Try.prog a w K Q := wp_store_row _ x y ho g (dn c) hx hy t old h dnSize hold (dn_one c) hK
theorem wp_store_dob {K : Act → World → Prop} {x y : Operand} (ho : o.op = .store 41 x y) {g : Nat} (hx : a.eval x = .pointer (some ⟨g, 0, none⟩)) {c : Ob} (hy : a.eval y = .agg (oc c)) {old : Array Value} {t : TypeId} (h : Obl w g t old) (hold : old.size = 36)
    (hK : K (a.put o.dst undef) (w.setRow g (oc c))) : o.wp Try.prog a w K Q := wp_store_row _ x y ho g (oc c) hx hy t old h obSize hold (oc_one c) hK
end
theorem ret_pn {w : World} {fn : Func} {p : Tmp} (hr : fn.results = #[.cell p 71]) (tmps : Array Value) {g : Nat} (hp : tmps.getD p undef = .pointer (some ⟨g, 0, none⟩)) {y : Ob} {t : TypeId} (h : Obl w g t (pn y)) :
    (results fn tmps).run Try.prog w = .ok (.agg (pn y)) w := results_cell_1 hr tmps hp h Try.underlying71 rfl pnSize
theorem ret_dn {w : World} {fn : Func} {p : Tmp} (hr : fn.results = #[.cell p 73]) (tmps : Array Value) {g : Nat} (hp : tmps.getD p undef = .pointer (some ⟨g, 0, none⟩)) {y : Ob} {t : TypeId} (h : Obl w g t (dn y)) :
    (results fn tmps).run Try.prog w = .ok (.agg (dn y)) w := results_cell_1 hr tmps hp h Try.underlying73 rfl dnSize
theorem ret_dv {w : World} {fn : Func} {s p u : Tmp} (hr : fn.results = #[.tmp s, .cell p 41, .tmp u]) (tmps : Array Value) {g : Nat} (hp : tmps.getD p undef = .pointer (some ⟨g, 0, none⟩)) {y : Ob} {t : TypeId} (h : Obl w g t (oc y)) :
    (results fn tmps).run Try.prog w = .ok (.tuple #[tmps.getD s undef, .agg (oc y), tmps.getD u undef]) w := results_tcell_3 hr tmps hp h Try.underlying41 rfl obSize

-- numbers compared
theorem dvCpuFields : Try.prog.underlying 30 = some (.struct (Try.prog.fieldsOf 30)) := by kernel_rfl
theorem pnFields : Try.prog.underlying 71 = some (.struct (Try.prog.fieldsOf 71)) := by kernel_rfl
theorem dnFields : Try.prog.underlying 73 = some (.struct (Try.prog.fieldsOf 73)) := by kernel_rfl
theorem dvRegsSize : (Try.prog.info? 28).map (·.size) = some 8 := by kernel_rfl
set_option maxRecDepth 100000 in
theorem equal_pcpu (x y : Ob) (w : World) : (Op.equalIn 9998 30 (.agg (cc x.cpu)) (.agg (cc y.cpu))).run Try.prog w = .ok (decide (x.cpu = y.cpu)) w := by
  have hx : x.cpu.regs.length = 8 := rfl
  have hy : y.cpu.regs.length = 8 := rfl
  generalize x.cpu = x at *
  generalize y.cpu = y at *
  rw [show (9998 : Nat) = 9997 + 1 from rfl, run_equalIn_agg w 9997 _ _ _ dvCpuFields (by kernel_rfl)]
  have hf : (Try.prog.fieldsOf 30).toList.map (fun f => (f.name, f.type, f.offset)) = [("PC", 3, 0), ("Regs", 28, 1)] := by kernel_rfl
  generalize (Try.prog.fieldsOf 30).toList = fs at hf ⊢
  have hl : fs.length = 2 := by simpa using congrArg List.length hf
  match fs, hl with
  | [f0, f1], _ =>
    simp only [List.map_cons, List.map_nil, List.cons.injEq, Prod.mk.injEq, and_true] at hf
    obtain ⟨⟨n0, t0, o0⟩, n1, t1, o1⟩ := hf
    have e0 : ∀ c : Cp.Cpu, (part 3 (cc c) 0).run Try.prog w = .ok (.int .i64 c.pc) w := fun c => run_part_one Try.underlying3 rfl (by simp [cc])
    have e1 : ∀ c : Cp.Cpu, c.regs.length = 8 → (part 28 (cc c) 1).run Try.prog w = .ok (.agg (nv .i64 c.regs).toArray) w := fun c hc => by
      rw [run_part_row Try.underlying28 rfl dvRegsSize]
      congr 2
      simp [cc, nv, List.take_of_length_le, hc]
    have e2 : (Op.equalIn 9997 28 (.agg (nv .i64 x.regs).toArray) (.agg (nv .i64 y.regs).toArray)).run Try.prog w = .ok (decide (x.regs = y.regs)) w := run_equal_nums (d := 9995) Try.underlying28 Try.underlying2 i64Size x.regs y.regs hx hy
    have e3 : (Op.equalIn 9997 3 (.int .i64 x.pc) (.int .i64 y.pc)).run Try.prog w = .ok (x.pc == y.pc) w := run_equalIn_int w 9996 3 .i64 .i64 _ _ Try.underlying3
    simp only [Op.eqFields, n0, n1, t0, t1, o0, o1, ne_eq, String.reduceEq, not_false_eq_true, if_true, Sem.run_bind, e0, e3, Result.andThen_ok, Sem.run_ite, e1 x hx, e1 y hy, e2, Sem.run_pure]
    obtain ⟨p, r⟩ := x
    obtain ⟨q, s⟩ := y
    by_cases h1 : p = q
    · by_cases h2 : r = s <;> simp [h1, h2]
    · simp [h1]
theorem dvCpuSize : (Try.prog.info? 30).map (·.size) = some 9 := by kernel_rfl
set_option maxRecDepth 100000 in
set_option maxHeartbeats 1000000 in
theorem equal_pn (x y : Ob) (w : World) : (Op.equalIn 9999 71 (.agg (pn x)) (.agg (pn y))).run Try.prog w = .ok (decide (SamePn x y)) w := by
  rw [show (9999 : Nat) = 9998 + 1 from rfl, run_equalIn_agg w 9998 _ _ _ pnFields (by kernel_rfl)]
  have hf : (Try.prog.fieldsOf 71).toList.map (fun f => (f.name, f.type, f.offset)) = [("state", 3, 0), ("parent", 22, 1), ("pages", 3, 2), ("cpu", 30, 3), ("pending", 2, 12), ("alarm", 2, 13), ("status", 2, 14)] := by kernel_rfl
  generalize (Try.prog.fieldsOf 71).toList = fs at hf ⊢
  have hl : fs.length = 7 := by simpa using congrArg List.length hf
  match fs, hl with
  | [f0, f1, f2, f3, f4, f5, f6], _ =>
    simp only [List.map_cons, List.map_nil, List.cons.injEq, Prod.mk.injEq, and_true] at hf
    obtain ⟨⟨n0, t0, o0⟩, ⟨n1, t1, o1⟩, ⟨n2, t2, o2⟩, ⟨n3, t3, o3⟩, ⟨n4, t4, o4⟩, ⟨n5, t5, o5⟩, n6, t6, o6⟩ := hf
    have e0 : ∀ c : Ob, (part 3 (pn c) 0).run Try.prog w = .ok (.int .i64 c.state) w := fun c => run_part_one Try.underlying3 rfl rfl
    have e1 : ∀ c : Ob, (part 22 (pn c) 1).run Try.prog w = .ok (.int .u64 c.parent) w := fun c => run_part_one Try.underlying22 rfl rfl
    have e2 : ∀ c : Ob, (part 3 (pn c) 2).run Try.prog w = .ok (.int .i64 c.ppages) w := fun c => run_part_one Try.underlying3 rfl rfl
    have e3 : ∀ c : Ob, (part 30 (pn c) 3).run Try.prog w = .ok (.agg (cc c.cpu)) w := fun c => by
      rw [run_part_row Try.underlying30 rfl dvCpuSize]
      rfl
    have e4 : ∀ c : Ob, (part 2 (pn c) 12).run Try.prog w = .ok (.int .i64 c.pending) w := fun c => run_part_one Try.underlying2 rfl rfl
    have e5 : ∀ c : Ob, (part 2 (pn c) 13).run Try.prog w = .ok (.int .i64 c.alarm) w := fun c => run_part_one Try.underlying2 rfl rfl
    have e6 : ∀ c : Ob, (part 2 (pn c) 14).run Try.prog w = .ok (.int .i64 c.status) w := fun c => run_part_one Try.underlying2 rfl rfl
    have q0 : ∀ u v : Int, (Op.equalIn 9998 3 (.int .i64 u) (.int .i64 v)).run Try.prog w = .ok (u == v) w := fun u v => run_equalIn_int w 9997 3 .i64 .i64 _ _ Try.underlying3
    have q1 : ∀ u v : Int, (Op.equalIn 9998 22 (.int .u64 u) (.int .u64 v)).run Try.prog w = .ok (u == v) w := fun u v => run_equalIn_int w 9997 22 .u64 .u64 _ _ Try.underlying22
    have q2 : ∀ u v : Int, (Op.equalIn 9998 2 (.int .i64 u) (.int .i64 v)).run Try.prog w = .ok (u == v) w := fun u v => run_equalIn_int w 9997 2 .i64 .i64 _ _ Try.underlying2
    simp only [Op.eqFields, n0, n1, n2, n3, n4, n5, n6, t0, t1, t2, t3, t4, t5, t6, o0, o1, o2, o3, o4, o5, o6, ne_eq, String.reduceEq, not_false_eq_true, if_true, Sem.run_bind, e0, e1, e2, e3, e4, e5, e6, q0, q1, q2, equal_pcpu x y, Result.andThen_ok, Sem.run_ite, Sem.run_pure]
    unfold SamePn
    by_cases h0 : x.state = y.state
    · by_cases h1 : x.parent = y.parent
      · by_cases h2 : x.ppages = y.ppages
        · by_cases h3 : x.cpu = y.cpu
          · by_cases h4 : x.pending = y.pending
            · by_cases h5 : x.alarm = y.alarm
              · by_cases h6 : x.status = y.status <;> simp [h0, h1, h2, h3, h4, h5, h6]
              · simp [h0, h1, h2, h3, h4, h5]
            · simp [h0, h1, h2, h3, h4]
          · simp [h0, h1, h2, h3]
        · simp [h0, h1, h2]
      · simp [h0, h1]
    · simp [h0]
theorem dvEndsSize : (Try.prog.info? 38).map (·.size) = some 2 := by kernel_rfl
set_option maxRecDepth 100000 in
set_option maxHeartbeats 1000000 in
theorem equal_dn (x y : Ob) (w : World) : (Op.equalIn 10000 73 (.agg (dn x)) (.agg (dn y))).run Try.prog w = .ok (decide (SameDn x y)) w := by
  rw [show (10000 : Nat) = 9999 + 1 from rfl, run_equalIn_agg w 9999 _ _ _ dnFields (by kernel_rfl)]
  have hf : (Try.prog.fieldsOf 73).toList.map (fun f => (f.name, f.type, f.offset)) = [("id", 22, 0), ("kind", 3, 1), ("refs", 3, 2), ("process", 71, 3), ("offset", 3, 18), ("target", 22, 19), ("readers", 3, 20), ("writers", 3, 21), ("ends", 38, 22), ("count", 2, 24)] := by kernel_rfl
  generalize (Try.prog.fieldsOf 73).toList = fs at hf ⊢
  have hl : fs.length = 10 := by simpa using congrArg List.length hf
  match fs, hl with
  | [f0, f1, f2, f3, f4, f5, f6, f7, f8, f9], _ =>
    simp only [List.map_cons, List.map_nil, List.cons.injEq, Prod.mk.injEq, and_true] at hf
    obtain ⟨⟨n0, t0, o0⟩, ⟨n1, t1, o1⟩, ⟨n2, t2, o2⟩, ⟨n3, t3, o3⟩, ⟨n4, t4, o4⟩, ⟨n5, t5, o5⟩, ⟨n6, t6, o6⟩, ⟨n7, t7, o7⟩, ⟨n8, t8, o8⟩, n9, t9, o9⟩ := hf
    have e0 : ∀ c : Ob, (part 22 (dn c) 0).run Try.prog w = .ok (.int .u64 c.id) w := fun c => run_part_one Try.underlying22 rfl rfl
    have e1 : ∀ c : Ob, (part 3 (dn c) 1).run Try.prog w = .ok (.int .i64 c.kind) w := fun c => run_part_one Try.underlying3 rfl rfl
    have e2 : ∀ c : Ob, (part 3 (dn c) 2).run Try.prog w = .ok (.int .i64 c.refs) w := fun c => run_part_one Try.underlying3 rfl rfl
    have e3 : ∀ c : Ob, (part 71 (dn c) 3).run Try.prog w = .ok (.agg (pn c)) w := fun c => by
      rw [run_part_row Try.underlying71 rfl pnSize]
      rfl
    have e4 : ∀ c : Ob, (part 3 (dn c) 18).run Try.prog w = .ok (.int .i64 c.offset) w := fun c => run_part_one Try.underlying3 rfl rfl
    have e5 : ∀ c : Ob, (part 22 (dn c) 19).run Try.prog w = .ok (.int .u64 c.target) w := fun c => run_part_one Try.underlying22 rfl rfl
    have e6 : ∀ c : Ob, (part 3 (dn c) 20).run Try.prog w = .ok (.int .i64 c.readers) w := fun c => run_part_one Try.underlying3 rfl rfl
    have e7 : ∀ c : Ob, (part 3 (dn c) 21).run Try.prog w = .ok (.int .i64 c.writers) w := fun c => run_part_one Try.underlying3 rfl rfl
    have e8 : ∀ c : Ob, (part 38 (dn c) 22).run Try.prog w = .ok (.agg (nv .i64 [c.e0, c.e1]).toArray) w := fun c => by
      rw [run_part_row Try.underlying38 rfl dvEndsSize]
      rfl
    have e9 : ∀ c : Ob, (part 2 (dn c) 24).run Try.prog w = .ok (.int .i64 c.count) w := fun c => run_part_one Try.underlying2 rfl rfl
    have q0 : ∀ u v : Int, (Op.equalIn 9999 3 (.int .i64 u) (.int .i64 v)).run Try.prog w = .ok (u == v) w := fun u v => run_equalIn_int w 9998 3 .i64 .i64 _ _ Try.underlying3
    have q1 : ∀ u v : Int, (Op.equalIn 9999 22 (.int .u64 u) (.int .u64 v)).run Try.prog w = .ok (u == v) w := fun u v => run_equalIn_int w 9998 22 .u64 .u64 _ _ Try.underlying22
    have q2 : ∀ u v : Int, (Op.equalIn 9999 2 (.int .i64 u) (.int .i64 v)).run Try.prog w = .ok (u == v) w := fun u v => run_equalIn_int w 9998 2 .i64 .i64 _ _ Try.underlying2
    have q3 : (Op.equalIn 9999 38 (.agg (nv .i64 [x.e0, x.e1]).toArray) (.agg (nv .i64 [y.e0, y.e1]).toArray)).run Try.prog w = .ok (decide ([x.e0, x.e1] = [y.e0, y.e1])) w := run_equal_nums (d := 9997) Try.underlying38 Try.underlying3 intSize1 _ _ rfl rfl
    simp only [Op.eqFields, n0, n1, n2, n3, n4, n5, n6, n7, n8, n9, t0, t1, t2, t3, t4, t5, t6, t7, t8, t9, o0, o1, o2, o3, o4, o5, o6, o7, o8, o9, ne_eq, String.reduceEq, not_false_eq_true, if_true, Sem.run_bind, e0, e1, e2, e3, e4, e5, e6, e7, e8, e9, q0, q1, q2, q3, equal_pn x y, Result.andThen_ok, Sem.run_ite, Sem.run_pure]
    unfold SameDn
    by_cases h0 : x.id = y.id
    · by_cases h1 : x.kind = y.kind
      · by_cases h2 : x.refs = y.refs
        · by_cases h3 : SamePn x y
          · by_cases h4 : x.offset = y.offset
            · by_cases h5 : x.target = y.target
              · by_cases h6 : x.readers = y.readers
                · by_cases h7 : x.writers = y.writers
                  · by_cases h8 : [x.e0, x.e1] = [y.e0, y.e1]
                    · by_cases h9 : x.count = y.count <;> simp [h0, h1, h2, h3, h4, h5, h6, h7, h8, h9]
                    · simp [h0, h1, h2, h3, h4, h5, h6, h7, h8]
                  · simp [h0, h1, h2, h3, h4, h5, h6, h7]
                · simp [h0, h1, h2, h3, h4, h5, h6]
              · simp [h0, h1, h2, h3, h4, h5]
            · simp [h0, h1, h2, h3, h4]
          · simp [h0, h1, h2, h3]
        · simp [h0, h1, h2]
      · simp [h0, h1]
    · simp [h0]
theorem exec_eql_dn {w : World} {a : Act} {o : Oper} {p q : Operand} {t : TypeId} (ho : o.op = .binOp .eql 73 p q t) {x y : Ob} (hp : a.eval p = .agg (dn x)) (hq : a.eval q = .agg (dn y)) :
    (execOp a.eval o).run Try.prog w = .ok (.value (.bool (decide (SameDn x y)))) w := by
  unfold execOp
  simp only [ho, hp, hq, Sem.run_bind, run_eqGuard_agg w .eql 73 p q _ _ (show Try.prog.eqGuardType Try.prog.depth 73 = false by kernel_rfl), run_eql_struct, equal_dn x y, Result.andThen_ok, Sem.run_pure]
end Go.Proofs.Ytddbohnappogkaa
