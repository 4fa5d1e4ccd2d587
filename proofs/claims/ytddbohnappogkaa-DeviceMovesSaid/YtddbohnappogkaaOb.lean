/- How an object lies in memory, loaded and stored whole; which objects are pages. -/
import Derived.Test.YtddbohnappogkaaCpuCell
import Derived.Test.YtddbohnappogkaaEql
namespace Go.Proofs.Ytddbohnappogkaa
open Go.RowKit

/-- A slice as a value. -/
structure Sl where
  A : Option Addr
  n : Nat
  c : Nat
/-- An object, field by field. -/
structure Ob where
  id : Int
  kind : Int
  refs : Int
  state : Int
  parent : Int
  children : Sl
  code : Sl
  strs : Sl
  ppages : Int
  pc : Int
  r0 : Int
  r1 : Int
  r2 : Int
  r3 : Int
  r4 : Int
  r5 : Int
  r6 : Int
  r7 : Int
  pages : Sl
  table : Sl
  pending : Int
  alarm : Int
  status : Int
  words : Sl
  data : Sl
  offset : Int
  target : Int
  readers : Int
  writers : Int
  backlog : Sl
  q0 : Sl
  q1 : Sl
  e0 : Int
  e1 : Int
  count : Int
  names : Sl
namespace Ob
def cpu (o : Ob) : Cp.Cpu := ⟨o.pc, [o.r0, o.r1, o.r2, o.r3, o.r4, o.r5, o.r6, o.r7]⟩
def noCpu : Cp.Cpu := ⟨0, [0, 0, 0, 0, 0, 0, 0, 0]⟩
def Counts (o : Ob) : Prop := o.refs = 0 ∧ o.offset = 0 ∧ o.target = 0 ∧ o.readers = 0 ∧ o.writers = 0 ∧ [o.e0, o.e1] = [0, 0] ∧ o.count = 0
def Contents (o : Ob) : Prop := o.data.n = 0 ∧ o.backlog.n = 0 ∧ o.names.n = 0 ∧ o.q0.n = 0 ∧ o.q1.n = 0
def NoProg (o : Ob) : Prop := o.code.n = 0 ∧ o.strs.n = 0 ∧ o.ppages = 0
def NoProc (o : Ob) : Prop := o.state = 0 ∧ o.parent = 0 ∧ o.children.n = 0 ∧ o.NoProg ∧ o.cpu = noCpu ∧ o.pages.n = 0 ∧ o.table.n = 0 ∧ o.pending = 0 ∧ o.alarm = 0 ∧ o.status = 0
def Bare (o : Ob) : Prop := o.Counts ∧ o.Contents ∧ o.NoProc
/-- Nothing but identifier and kind. -/
def Clear (o : Ob) : Prop := o.words.n = 0 ∧ o.Bare
/-- No list of an object's own. -/
def Listless (o : Ob) : Prop := o.words.n = 0 ∧ o.Contents
def Page (o : Ob) : Prop := o.kind = 2 ∧ o.id ≠ 0 ∧ o.words.n = 16 ∧ o.Bare
instance (o : Ob) : Decidable o.Counts := by unfold Counts; infer_instance
instance (o : Ob) : Decidable o.Contents := by unfold Contents; infer_instance
instance (o : Ob) : Decidable o.NoProg := by unfold NoProg; infer_instance
instance (o : Ob) : Decidable o.NoProc := by unfold NoProc; infer_instance
instance (o : Ob) : Decidable o.Bare := by unfold Bare; infer_instance
instance (o : Ob) : Decidable o.Clear := by unfold Clear; infer_instance
instance (o : Ob) : Decidable o.Listless := by unfold Listless; infer_instance
instance (o : Ob) : Decidable o.Page := by unfold Page; infer_instance
/-- An object of which nothing is laid. -/
def zero : Ob := ⟨0, 0, 0, 0, 0, ⟨none, 0, 0⟩, ⟨none, 0, 0⟩, ⟨none, 0, 0⟩, 0, 0, 0, 0, 0, 0, 0, 0, 0, 0, ⟨none, 0, 0⟩, ⟨none, 0, 0⟩, 0, 0, 0, ⟨none, 0, 0⟩, ⟨none, 0, 0⟩, 0, 0, 0, 0, ⟨none, 0, 0⟩, ⟨none, 0, 0⟩, ⟨none, 0, 0⟩, 0, 0, 0, ⟨none, 0, 0⟩⟩
/-- The page id with words there. -/
def page (id : Int) (words : Sl) : Ob := { zero with id := id, kind := 2, words := words }
theorem zero_bare : zero.Bare := by decide
theorem page_bare (id : Int) (words : Sl) : (page id words).Bare := zero_bare
theorem page_page {id : Int} {words : Sl} (h : id ≠ 0) (hn : words.n = 16) : (page id words).Page := ⟨rfl, h, hn, page_bare _ _⟩
theorem zero_not : ¬ zero.Page := by decide
end Ob
/-- The cells of a process, of an object. -/
def pcs (o : Ob) : List Value := [.int .i64 o.state, .int .u64 o.parent, .slice o.children.A o.children.n o.children.c, .slice o.code.A o.code.n o.code.c, .slice o.strs.A o.strs.n o.strs.c, .int .i64 o.ppages,
  .int .i64 o.pc, .int .i64 o.r0, .int .i64 o.r1, .int .i64 o.r2, .int .i64 o.r3, .int .i64 o.r4, .int .i64 o.r5, .int .i64 o.r6, .int .i64 o.r7,
  .slice o.pages.A o.pages.n o.pages.c, .slice o.table.A o.table.n o.table.c, .int .i64 o.pending, .int .i64 o.alarm, .int .i64 o.status]
def ocl (o : Ob) : List Value := [.int .u64 o.id, .int .i64 o.kind, .int .i64 o.refs] ++ (pcs o ++ [.slice o.words.A o.words.n o.words.c, .slice o.data.A o.data.n o.data.c, .int .i64 o.offset, .int .u64 o.target, .int .i64 o.readers, .int .i64 o.writers,
  .slice o.backlog.A o.backlog.n o.backlog.c, .slice o.q0.A o.q0.n o.q0.c, .slice o.q1.A o.q1.n o.q1.c, .int .i64 o.e0, .int .i64 o.e1, .int .i64 o.count, .slice o.names.A o.names.n o.names.c])
def oc (o : Ob) : Array Value := (ocl o).toArray
def pcell (o : Ob) : Array Value := (pcs o).toArray
theorem obSize : (Try.prog.info? 41).map (·.size) = some 36 := by kernel_rfl
theorem procSize : (Try.prog.info? 34).map (·.size) = some 20 := by kernel_rfl
theorem oc_one (o : Ob) : (oc o).all (·.oneCell') = true := by simp [oc, ocl, pcs, Value.oneCell']
theorem pcell_one (o : Ob) : (pcell o).all (·.oneCell') = true := by simp [pcell, pcs, Value.oneCell']
theorem oc_zero : oc Ob.zero = #[.int .u64 0, .int .i64 0, .int .i64 0, .int .i64 0, .int .u64 0, .slice none 0 0, .slice none 0 0, .slice none 0 0, .int .i64 0, .int .i64 0, .int .i64 0, .int .i64 0, .int .i64 0, .int .i64 0, .int .i64 0, .int .i64 0, .int .i64 0, .int .i64 0,
  .slice none 0 0, .slice none 0 0, .int .i64 0, .int .i64 0, .int .i64 0, .slice none 0 0, .slice none 0 0, .int .i64 0, .int .u64 0, .int .i64 0, .int .i64 0, .slice none 0 0, .slice none 0 0, .slice none 0 0, .int .i64 0, .int .i64 0, .int .i64 0, .slice none 0 0] := rfl

section
variable {ops : Array Oper} {rest : List Oper} {o : Oper} {a : Act} {w : World} {Q : Exit → Act → World → Prop}
theorem load_ob (hgd : o.guard = none) (x : Operand) (ho : o.op = .load 41 x) {g : Nat} (hx : a.eval x = .pointer (some ⟨g, 0, none⟩)) {y : Ob} {t : TypeId} (h : Obl w g t (oc y))
    (hK : wpList Try.prog ops Q rest (a.put o.dst (.agg (oc y))) w) : wpList Try.prog ops Q (o :: rest) a w :=
  wpList_load_row hgd _ x ho g hx t (oc y) (0, 0) _ h Try.underlying41 rfl obSize hK
theorem store_ob (hgd : o.guard = none) (x y : Operand) (ho : o.op = .store 41 x y) {g : Nat} (hx : a.eval x = .pointer (some ⟨g, 0, none⟩)) {c : Ob} (hy : a.eval y = .agg (oc c)) {old : Array Value} {t : TypeId} (h : Obl w g t old) (hold : old.size = 36)
    (hK : wpList Try.prog ops Q rest (a.put o.dst undef) (w.setRow g (oc c))) : wpList Try.prog ops Q (o :: rest) a w :=
  wpList_store_row hgd _ x y ho g (oc c) hx hy t old h obSize hold (oc_one c) hK
theorem exec_load_ob {x : Operand} (ho : o.op = .load 41 x) {g : Nat} (hx : a.eval x = .pointer (some ⟨g, 0, none⟩)) {t : TypeId} {y : Ob} (h : Obl w g t (oc y)) :
    (execOp a.eval o).run Try.prog w = .ok (.value (.agg (oc y))) w := exec_load_row ho hx h rfl Try.underlying41 obSize
/-- A part of a row, loaded whole. -/
theorem exec_load_mid {P : Program} {x : Operand} {ty : TypeId} (ho : o.op = .load ty x) {g k : Nat} (hx : a.eval x = .pointer (some ⟨g, k, none⟩)) {t : TypeId} {cs : Array Value} (h : Obl w g t cs) (pt : List Value) (hp : ∀ (j : Nat) (v : Value), pt[j]? = some v → cs[k + j]? = some v) {d : TypeDesc}
    (hd : d.isRow = true) (hu : P.underlying ty = some d) (hi : (P.info? ty).map (·.size) = some pt.length) : (execOp a.eval o).run P w = .ok (.value (.agg pt.toArray)) w := by
  have hr := run_loadVar_mid (P := P) w g k ty pt d (fun j v hv => by rw [h.cell]; exact hp j v hv) hu hd hi
  unfold execOp
  simp only [ho, hx, Instr.loadAt, Instr.sureAddr, Sem.run_bind, Sem.run_pure, Result.andThen_ok, hr]
theorem ocl_mid (y : Ob) (j : Nat) (v : Value) (h : (pcs y)[j]? = some v) : (oc y)[3 + j]? = some v := by
  have hj : j < (pcs y).length := (List.getElem?_eq_some_iff.1 h).1
  unfold oc ocl
  rw [List.getElem?_toArray, List.getElem?_append_right (by simp), List.getElem?_append_left (by simpa using hj)]
  simpa using h
theorem exec_load_proc {x : Operand} (ho : o.op = .load 34 x) {g : Nat} (hx : a.eval x = .pointer (some ⟨g, 3, none⟩)) {t : TypeId} {y : Ob} (h : Obl w g t (oc y)) :
    (execOp a.eval o).run Try.prog w = .ok (.value (.agg (pcell y))) w := exec_load_mid ho hx h (pcs y) (ocl_mid y) rfl Try.underlying34 procSize
theorem three_mid (p : Nat → Option Value) (x y z : Value) (h0 : p 0 = some x) (h1 : p 1 = some y) (h2 : p 2 = some z) (j : Nat) (v : Value) (h : [x, y, z][j]? = some v) : p j = some v := by
  rcases j with _ | _ | _ | j
  · simpa [h0] using h
  · simpa [h1] using h
  · simpa [h2] using h
  · simp at h
theorem exec_load_prog {x : Operand} (ho : o.op = .load 27 x) {g : Nat} (hx : a.eval x = .pointer (some ⟨g, 3, none⟩)) {t : TypeId} {y : Ob} (h : Obl w g t (pcell y)) :
    (execOp a.eval o).run Try.prog w = .ok (.value (.agg #[.slice y.code.A y.code.n y.code.c, .slice y.strs.A y.strs.n y.strs.c, .int .i64 y.ppages])) w :=
  exec_load_mid ho hx h [_, _, _] (three_mid (fun j => (pcell y)[3 + j]?) _ _ _ rfl rfl rfl) rfl Try.underlying27 prSize
theorem exec_load_pcpu {x : Operand} (ho : o.op = .load 30 x) {g : Nat} (hx : a.eval x = .pointer (some ⟨g, 6, none⟩)) {t : TypeId} {y : Ob} (h : Obl w g t (pcell y)) :
    (execOp a.eval o).run Try.prog w = .ok (.value (.agg (cc y.cpu))) w := by
  refine exec_load_mid ho hx h (Value.int .i64 y.cpu.pc :: nv .i64 y.cpu.regs) ?_ rfl Try.underlying30 cpuSize
  intro j v hv
  rcases j with _ | _ | _ | _ | _ | _ | _ | _ | _ | j
  all_goals first | exact hv | (simp [nv, Ob.cpu] at hv)
theorem endsSize : (Try.prog.info? 38).map (·.size) = some 2 := by kernel_rfl
theorem intSize1 : (Try.prog.info? 3).map (·.size) = some 1 := by kernel_rfl
theorem exec_load_ends {x : Operand} (ho : o.op = .load 38 x) {g : Nat} (hx : a.eval x = .pointer (some ⟨g, 32, none⟩)) {t : TypeId} {y : Ob} (h : Obl w g t (oc y)) :
    (execOp a.eval o).run Try.prog w = .ok (.value (.agg (nv .i64 [y.e0, y.e1]).toArray)) w := by
  refine exec_load_mid ho hx h (nv .i64 [y.e0, y.e1]) ?_ rfl Try.underlying38 endsSize
  intro j v hv
  rcases j with _ | _ | j
  · exact hv
  · exact hv
  · simp [nv] at hv
theorem exec_eql_ends {p q : Operand} {t : TypeId} (ho : o.op = .binOp .eql 38 p q t) {L M : List Int} (hp : a.eval p = .agg (nv .i64 L).toArray) (hq : a.eval q = .agg (nv .i64 M).toArray) (hL : L.length = 2) (hM : M.length = 2) :
    (execOp a.eval o).run Try.prog w = .ok (.value (.bool (decide (L = M)))) w := by
  unfold execOp
  have e2 : (Op.equalIn 10000 38 (.agg (nv .i64 L).toArray) (.agg (nv .i64 M).toArray)).run Try.prog w = .ok (decide (L = M)) w := run_equal_nums (d := 9998) Try.underlying38 Try.underlying3 intSize1 L M hL hM
  simp only [ho, hp, hq, Sem.run_bind, run_eqGuard_agg w .eql 38 p q _ _ (show Try.prog.eqGuardType Try.prog.depth 38 = false by kernel_rfl), run_eql_struct, e2, Result.andThen_ok, Sem.run_pure]
theorem exec_neq_ends {p q : Operand} {t : TypeId} (ho : o.op = .binOp .neq 38 p q t) {L M : List Int} (hp : a.eval p = .agg (nv .i64 L).toArray) (hq : a.eval q = .agg (nv .i64 M).toArray) (hL : L.length = 2) (hM : M.length = 2) :
    (execOp a.eval o).run Try.prog w = .ok (.value (.bool (!decide (L = M)))) w := by
  unfold execOp
  have e2 : (Op.equalIn 10000 38 (.agg (nv .i64 L).toArray) (.agg (nv .i64 M).toArray)).run Try.prog w = .ok (decide (L = M)) w := run_equal_nums (d := 9998) Try.underlying38 Try.underlying3 intSize1 L M hL hM
  simp only [ho, hp, hq, Sem.run_bind, run_eqGuard_agg w .neq 38 p q _ _ (show Try.prog.eqGuardType Try.prog.depth 38 = false by kernel_rfl), run_neq_struct, e2, Result.andThen_ok, Sem.run_pure]
end
theorem built_ends : Try.prog.built 38 [] = some (nv .i64 [0, 0]).toArray := by kernel_rfl
theorem built_nocpu : Try.prog.built 30 [] = some (cc Ob.noCpu) := by kernel_rfl
theorem built_zero : Try.prog.built 41 [] = some (oc Ob.zero) := by kernel_rfl
theorem built_page (id : Int) (A : Option Addr) (n c : Nat) : Try.prog.built 41 [(0, .int .u64 id), (1, .int .i64 2), (4, .slice A n c)] = some (oc (Ob.page id ⟨A, n, c⟩)) := by kernel_rfl
/-- An answer, and what was there is there. -/
def BoolPost (b : Bool) (w : World) (e : Ending) (w' : World) : Prop := e = .returned (.bool b) ∧ Below w.heap.size w w'
theorem ret_ob {w : World} {fn : Func} {p : Tmp} (hr : fn.results = #[.cell p 41]) (tmps : Array Value) {g : Nat} (hp : tmps.getD p undef = .pointer (some ⟨g, 0, none⟩)) {y : Ob} {t : TypeId} (h : Obl w g t (oc y)) :
    (results fn tmps).run Try.prog w = .ok (.agg (oc y)) w := results_cell_1 hr tmps hp h Try.underlying41 rfl obSize
theorem ret_ob2 {w : World} {fn : Func} {p u : Tmp} (hr : fn.results = #[.cell p 41, .tmp u]) (tmps : Array Value) {g : Nat} (hp : tmps.getD p undef = .pointer (some ⟨g, 0, none⟩)) {y : Ob} {t : TypeId} (h : Obl w g t (oc y)) :
    (results fn tmps).run Try.prog w = .ok (.tuple #[.agg (oc y), tmps.getD u undef]) w := results_cell_2 hr tmps hp h Try.underlying41 rfl obSize
end Go.Proofs.Ytddbohnappogkaa
