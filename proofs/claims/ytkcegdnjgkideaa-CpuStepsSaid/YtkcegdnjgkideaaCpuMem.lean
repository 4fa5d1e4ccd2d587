/- How a processor and an action lie in memory, loaded and stored whole. -/
import Derived.Test.YtkcegdnjgkideaaCpuMath
import Derived.Test.YtkcegdnjgkideaaIns
import Derived.Laws.Tables
import Derived.Deep.MidRow
import Derived.WalkKit
namespace Go.Proofs.Ytkcegdnjgkideaa
open Go.RowKit

-- a row whose cells are all laid anew
section
variable {w w' : World} {g b : Nat} {t : TypeId} {cs old cells : Array Value}
theorem Obl.row_same (h : Obl w g t old) (cells : Array Value) : Obl (w.setRow g cells) g t cells := setRow_heap w g old cells t _ h
theorem setRow_other (w : World) (g : Nat) (cells : Array Value) {i : Nat} (hi : i ≠ g) : (w.setRow g cells).heap[i]? = w.heap[i]? := by
  simp [World.setRow, Array.getElem?_modify, Ne.symm hi]
theorem Obl.row_other (h : Obl w b t cs) (hne : b ≠ g) (cells : Array Value) : Obl (w.setRow g cells) b t cs := (setRow_other w g cells hne).trans h
theorem below_row {B : Nat} (h : Below B w w') (hg : B ≤ g) (cells : Array Value) : Below B w (w'.setRow g cells) :=
  ⟨h.os, h.tape, h.output, by simpa [World.setRow] using h.size, fun k hk => (setRow_other w' g cells (by omega)).trans (h.block k hk)⟩
end

def cc (c : Cp.Cpu) : Array Value := (Value.int .i64 c.pc :: nv .i64 c.regs).toArray
abbrev ca (c : Cp.Cpu) : Value := .agg (cc c)
def ac (x : Cp.Act) : Array Value := ([Value.int .i64 x.kind, .int .i64 x.addr, .int .i64 x.reg, .int .i64 x.value, .int .i64 x.number] ++ nv .i64 x.args).toArray
abbrev aa (x : Cp.Act) : Value := .agg (ac x)
theorem cpuSize : (Try.prog.info? 24).map (·.size) = some 9 := by kernel_rfl
theorem actSize : (Try.prog.info? 42).map (·.size) = some 8 := by kernel_rfl
theorem cc_size {c : Cp.Cpu} (h : c.regs.length = 8) : (cc c).size = 9 := by simp [cc, nv, h]
theorem ac_size {x : Cp.Act} (h : x.args.length = 3) : (ac x).size = 8 := by simp [ac, nv, h]
theorem cc_one (c : Cp.Cpu) : (cc c).all (·.oneCell') = true := by simp [cc, nv, Value.oneCell']
theorem ac_one (x : Cp.Act) : (ac x).all (·.oneCell') = true := by simp [ac, nv, Value.oneCell']

section
variable {w : World} {g : Nat} {c : Cp.Cpu} {t : TypeId}
theorem cc_pc (h : Obl w g t (cc c)) : w.cell? ⟨g, 0, none⟩ = some (.int .i64 c.pc) := by rw [h.cell]; simp [cc]
theorem cc_reg (h : Obl w g t (cc c)) (h8 : c.regs.length = 8) {i : Int} (hi : 0 ≤ i ∧ i < 8) : w.cell? ⟨g, 1 + i.toNat, none⟩ = some (.int .i64 (Cp.get c i)) := by
  have hl : i.toNat < c.regs.length := by omega
  rw [h.cell]
  unfold cc Cp.get
  rw [Nat.add_comm]
  simp only [List.getElem?_toArray, List.getElem?_cons_succ, nv_at hl, Cd.getD_at _ _ hl]
theorem cc_putpc (c : Cp.Cpu) (v : Int) : (cc c).setIfInBounds 0 (.int .i64 v) = cc ⟨v, c.regs⟩ := by simp [cc]
theorem cc_put (c : Cp.Cpu) (i v : Int) : (cc c).setIfInBounds (1 + i.toNat) (.int .i64 v) = cc (Cp.put c i v) := by
  unfold cc Cp.put nv
  rw [Nat.add_comm]
  simp
end

section
variable {ops : Array Oper} {rest : List Oper} {o : Oper} {a : Act} {w : World} {Q : Exit → Act → World → Prop}
theorem load_cpu (hgd : o.guard = none) (x : Operand) (ho : o.op = .load 24 x) {g : Nat} (hx : a.eval x = .pointer (some ⟨g, 0, none⟩)) {c : Cp.Cpu} {t : TypeId} (h : Obl w g t (cc c)) (h8 : c.regs.length = 8)
    (hK : wpList Try.prog ops Q rest (a.put o.dst (ca c)) w) : wpList Try.prog ops Q (o :: rest) a w :=
  wpList_load_row hgd _ x ho g hx t (cc c) (0, 0) _ h Try.underlying24 rfl (by rw [cc_size h8]; exact cpuSize) hK
theorem load_ins (hgd : o.guard = none) (x : Operand) (ho : o.op = .load 31 x) {g : Nat} (hx : a.eval x = .pointer (some ⟨g, 0, none⟩)) {p q r s : Value} {t : TypeId} (h : Obl w g t #[p, q, r, s])
    (hK : wpList Try.prog ops Q rest (a.put o.dst (.agg #[p, q, r, s])) w) : wpList Try.prog ops Q (o :: rest) a w :=
  wpList_load_row hgd _ x ho g hx t #[p, q, r, s] (0, 0) _ h Try.underlying31 rfl insSize hK
theorem store_cpu (hgd : o.guard = none) (x y : Operand) (ho : o.op = .store 24 x y) {g : Nat} (hx : a.eval x = .pointer (some ⟨g, 0, none⟩)) {c : Cp.Cpu} (hy : a.eval y = ca c) {old : Array Value} {t : TypeId} (h : Obl w g t old) (hold : old.size = 9) (h8 : c.regs.length = 8)
    (hK : wpList Try.prog ops Q rest (a.put o.dst undef) (w.setRow g (cc c))) : wpList Try.prog ops Q (o :: rest) a w :=
  wpList_store_row hgd _ x y ho g (cc c) hx hy t old h (by rw [cc_size h8]; exact cpuSize) (by rw [cc_size h8]; exact hold) (cc_one c) hK
theorem load_act (hgd : o.guard = none) (x : Operand) (ho : o.op = .load 42 x) {g : Nat} (hx : a.eval x = .pointer (some ⟨g, 0, none⟩)) {c : Cp.Act} {t : TypeId} (h : Obl w g t (ac c)) (h8 : c.args.length = 3)
    (hK : wpList Try.prog ops Q rest (a.put o.dst (aa c)) w) : wpList Try.prog ops Q (o :: rest) a w :=
  wpList_load_row hgd _ x ho g hx t (ac c) (0, 0) _ h Try.underlying42 rfl (by rw [ac_size h8]; exact actSize) hK
theorem store_act (hgd : o.guard = none) (x y : Operand) (ho : o.op = .store 42 x y) {g : Nat} (hx : a.eval x = .pointer (some ⟨g, 0, none⟩)) {c : Cp.Act} (hy : a.eval y = aa c) {old : Array Value} {t : TypeId} (h : Obl w g t old) (hold : old.size = 8) (h8 : c.args.length = 3)
    (hK : wpList Try.prog ops Q rest (a.put o.dst undef) (w.setRow g (ac c))) : wpList Try.prog ops Q (o :: rest) a w :=
  wpList_store_row hgd _ x y ho g (ac c) hx hy t old h (by rw [ac_size h8]; exact actSize) (by rw [ac_size h8]; exact hold) (ac_one c) hK
end

theorem built_args (p q r : Int) : Try.prog.built 40 [(0, .int .i64 p), (1, .int .i64 q), (2, .int .i64 r)] = some #[.int .i64 p, .int .i64 q, .int .i64 r] := by kernel_rfl
theorem built_call (n p q r : Int) : Try.prog.built 42 [(0, .int .i64 3), (4, .int .i64 n), (5, .agg #[.int .i64 p, .int .i64 q, .int .i64 r])] = some #[.int .i64 3, .int .i64 0, .int .i64 0, .int .i64 0, .int .i64 n, .int .i64 p, .int .i64 q, .int .i64 r] := by kernel_rfl
/-- A processor comes back. -/
def CpuPost (c : Cp.Cpu) (w : World) (e : Ending) (w' : World) : Prop := e = .returned (ca c) ∧ Below w.heap.size w w'
/-- A processor and an action come back. -/
def TwoPost (r : Cp.Cpu × Cp.Act) (w : World) (e : Ending) (w' : World) : Prop := e = .returned (.tuple #[ca r.1, aa r.2]) ∧ Below w.heap.size w w'
theorem ret_cpu {w : World} {fn : Func} {p : Tmp} (hr : fn.results = #[.cell p 24]) (tmps : Array Value) {g : Nat} (hp : tmps.getD p undef = .pointer (some ⟨g, 0, none⟩)) {c : Cp.Cpu} {t : TypeId} (h : Obl w g t (cc c)) (h8 : c.regs.length = 8) :
    (results fn tmps).run Try.prog w = .ok (ca c) w := results_cell_1 hr tmps hp h Try.underlying24 rfl (by rw [cc_size h8]; exact cpuSize)
theorem results_cells_2 {P : Program} {w : World} {fn : Func} {p q : Tmp} {ty uy : TypeId} (hr : fn.results = #[.cell p ty, .cell q uy]) (tmps : Array Value) {b b' : Nat} {t t' : TypeId} {cs cs' : Array Value} {d d' : TypeDesc}
    (hp : tmps.getD p undef = .pointer (some ⟨b, 0, none⟩)) (h : Obl w b t cs) (hu : P.underlying ty = some d) (hd : (match d with | .struct _ | .array _ _ => true | _ => false) = true) (hi : (P.info? ty).map (·.size) = some cs.size)
    (hq : tmps.getD q undef = .pointer (some ⟨b', 0, none⟩)) (h' : Obl w b' t' cs') (hu' : P.underlying uy = some d') (hd' : (match d' with | .struct _ | .array _ _ => true | _ => false) = true) (hi' : (P.info? uy).map (·.size) = some cs'.size) :
    (results fn tmps).run P w = .ok (.tuple #[.agg cs, .agg cs']) w := by
  have hp' : tmps[p]?.getD undef = .pointer (some ⟨b, 0, none⟩) := by simpa using hp
  have hq' : tmps[q]?.getD undef = .pointer (some ⟨b', 0, none⟩) := by simpa using hq
  simp [results, hr, hp', hq', asAddr, h.load hu hd hi, h'.load hu' hd' hi']
theorem ret_two {w : World} {fn : Func} {p q : Tmp} (hr : fn.results = #[.cell p 24, .cell q 42]) (tmps : Array Value) {g g' : Nat} (hp : tmps.getD p undef = .pointer (some ⟨g, 0, none⟩)) {c : Cp.Cpu} {t : TypeId} (h : Obl w g t (cc c)) (h8 : c.regs.length = 8)
    (hq : tmps.getD q undef = .pointer (some ⟨g', 0, none⟩)) {x : Cp.Act} {t' : TypeId} (h' : Obl w g' t' (ac x)) (h3 : x.args.length = 3) :
    (results fn tmps).run Try.prog w = .ok (.tuple #[ca c, aa x]) w := results_cells_2 hr tmps hp h Try.underlying24 rfl (by rw [cc_size h8]; exact cpuSize) hq h' Try.underlying42 rfl (by rw [ac_size h3]; exact actSize)
/-- What a new processor and a new action hold. -/
def zc : Array Value := #[.int .i64 0, .int .i64 0, .int .i64 0, .int .i64 0, .int .i64 0, .int .i64 0, .int .i64 0, .int .i64 0, .int .i64 0]
def za : Array Value := #[.int .i64 0, .int .i64 0, .int .i64 0, .int .i64 0, .int .i64 0, .int .i64 0, .int .i64 0, .int .i64 0]

/-- Where a function begins that copies a processor and gives one back. -/
theorem start_1 (w : World) (c : Cp.Cpu) : ∃ w1, (w.alloc (.cells (cc c) 24)).alloc (.cells #[.int .i64 0, .int .i64 0, .int .i64 0, .int .i64 0, .int .i64 0, .int .i64 0, .int .i64 0, .int .i64 0, .int .i64 0] 24) = w1 ∧
    Obl w1 w.heap.size 24 (cc c) ∧ Obl w1 (w.heap.size + 1) 24 zc ∧ Below w.heap.size w w1 :=
  ⟨_, rfl, (Obl.make w 24 (cc c)).alloc (.cells zc 24), by have := Obl.make (w.alloc (.cells (cc c) 24)) 24 zc; rwa [World.size_alloc] at this, ((Below.refl w.heap.size w).alloc (Nat.le_refl _) _).alloc (by simp) _⟩
/-- Where a function begins that copies a processor and gives a processor and an action back. -/
theorem start_2 (w : World) (c : Cp.Cpu) : ∃ w1, ((w.alloc (.cells (cc c) 24)).alloc (.cells #[.int .i64 0, .int .i64 0, .int .i64 0, .int .i64 0, .int .i64 0, .int .i64 0, .int .i64 0, .int .i64 0, .int .i64 0] 24)).alloc (.cells #[.int .i64 0, .int .i64 0, .int .i64 0, .int .i64 0, .int .i64 0, .int .i64 0, .int .i64 0, .int .i64 0] 42) = w1 ∧
    Obl w1 w.heap.size 24 (cc c) ∧ (Obl w1 (w.heap.size + 1) 24 zc ∧ Obl w1 (w.heap.size + 2) 42 za) ∧ Below w.heap.size w w1 :=
  ⟨_, rfl, ((Obl.make w 24 (cc c)).alloc (.cells zc 24)).alloc (.cells za 42),
    ⟨by have := (Obl.make (w.alloc (.cells (cc c) 24)) 24 zc).alloc (.cells za 42); rwa [World.size_alloc] at this,
      by have := Obl.make ((w.alloc (.cells (cc c) 24)).alloc (.cells zc 24)) 42 za; rwa [World.size_alloc, World.size_alloc] at this⟩,
    (((Below.refl w.heap.size w).alloc (Nat.le_refl _) _).alloc (by simp) _).alloc (by simp; omega) _⟩
/-- Where a function begins that copies a processor and an instruction. -/
structure StA (w u : World) (c : Cp.Cpu) (x : Cd.Ins) : Prop where
  o0 : Obl u w.heap.size 24 (cc c)
  oi : Obl u (w.heap.size + 1) 31 #[.int .i64 x.op, .int .i64 x.a, .int .i64 x.b, .int .i64 x.c]
  bel : Below w.heap.size w u
  size : w.heap.size + 2 ≤ u.heap.size
/-- .. and gives a processor and an action back. -/
structure StB (w u : World) : Prop where
  o1 : Obl u (w.heap.size + 2) 24 zc
  o2 : Obl u (w.heap.size + 3) 42 za
section
variable {w u u' : World} {c : Cp.Cpu} {x : Cd.Ins}
theorem StA.drew (h : StA w u c x) : StA w u.drew c x := ⟨h.o0, h.oi, ⟨h.bel.os, h.bel.tape, h.bel.output, h.bel.size, h.bel.block⟩, h.size⟩
theorem StB.drew (h : StB w u) : StB w u.drew := ⟨h.o1, h.o2⟩
theorem StA.next (h : StA w u c x) (hg : Below (w.heap.size + 2) u u') : StA w u' c x := ⟨h.o0.below hg (by omega), h.oi.below hg (by omega), h.bel.trans (hg.mono (by omega)), Nat.le_trans h.size hg.size⟩
theorem StB.next (h : StB w u) (hg : Below u.heap.size u u') : StB w u' := ⟨h.o1.below hg h.o1.lt, h.o2.below hg h.o2.lt⟩
theorem StA.later (h : StA w u c x) (hg : Below u.heap.size u u') : Below (w.heap.size + 2) u u' := hg.mono h.size
theorem StA.xo (h : StA w u c x) : u.cell? ⟨w.heap.size + 1, 0, none⟩ = some (.int .i64 x.op) := by have := h.oi.cell 0; simpa using this
theorem StA.xa (h : StA w u c x) : u.cell? ⟨w.heap.size + 1, 1, none⟩ = some (.int .i64 x.a) := by have := h.oi.cell 1; simpa using this
theorem StA.xb (h : StA w u c x) : u.cell? ⟨w.heap.size + 1, 2, none⟩ = some (.int .i64 x.b) := by have := h.oi.cell 2; simpa using this
theorem StA.xc (h : StA w u c x) : u.cell? ⟨w.heap.size + 1, 3, none⟩ = some (.int .i64 x.c) := by have := h.oi.cell 3; simpa using this
theorem StA.reg (h : StA w u c x) (h8 : c.regs.length = 8) {i : Int} (hi : 0 ≤ i ∧ i < 8) : u.cell? ⟨w.heap.size, 1 + i.toNat, none⟩ = some (.int .i64 (Cp.get c i)) := cc_reg h.o0 h8 hi
end
theorem start_a (w : World) (c : Cp.Cpu) (x : Cd.Ins) : ∃ w1, (w.alloc (.cells (cc c) 24)).alloc (.cells #[.int .i64 x.op, .int .i64 x.a, .int .i64 x.b, .int .i64 x.c] 31) = w1 ∧ StA w w1 c x :=
  ⟨_, rfl, (Obl.make w 24 (cc c)).alloc _, by have := Obl.make (w.alloc (.cells (cc c) 24)) 31 #[.int .i64 x.op, .int .i64 x.a, .int .i64 x.b, .int .i64 x.c]; rwa [World.size_alloc] at this,
    ((Below.refl w.heap.size w).alloc (Nat.le_refl _) (.cells (cc c) 24)).alloc (by simp) _, by simp⟩
theorem start_b (w : World) (c : Cp.Cpu) (x : Cd.Ins) : ∃ w1, (((w.alloc (.cells (cc c) 24)).alloc (.cells #[.int .i64 x.op, .int .i64 x.a, .int .i64 x.b, .int .i64 x.c] 31)).alloc (.cells #[.int .i64 0, .int .i64 0, .int .i64 0, .int .i64 0, .int .i64 0, .int .i64 0, .int .i64 0, .int .i64 0, .int .i64 0] 24)).alloc (.cells #[.int .i64 0, .int .i64 0, .int .i64 0, .int .i64 0, .int .i64 0, .int .i64 0, .int .i64 0, .int .i64 0] 42) = w1 ∧ StA w w1 c x ∧ StB w w1 := by
  obtain ⟨u, hu, h⟩ := start_a w c x
  have hs : u.heap.size = w.heap.size + 2 := by rw [← hu]; simp
  rw [hu]
  refine ⟨_, rfl, h.next ((((Below.refl _ _).alloc h.size _)).alloc (by simp; omega) _), ⟨?_, ?_⟩⟩
  · have := (Obl.make u 24 zc).alloc (.cells za 42)
    rwa [hs] at this
  · have := Obl.make (u.alloc (.cells zc 24)) 42 za
    rwa [World.size_alloc, hs] at this
section
variable {w : World} {a : Act} {o : Oper}
theorem exec_load_row {x : Operand} {ty : TypeId} (ho : o.op = .load ty x) {g : Nat} (hx : a.eval x = .pointer (some ⟨g, 0, none⟩)) {t : TypeId} {cs : Array Value} (h : Obl w g t cs) {d : TypeDesc}
    (hd : d.isRow = true) (hu : Try.prog.underlying ty = some d) (hi : (Try.prog.info? ty).map (·.size) = some cs.size) : (execOp a.eval o).run Try.prog w = .ok (.value (.agg cs)) w := by
  have hr := run_loadVar_mid (P := Try.prog) w g 0 ty cs.toList d (fun j v hv => by rw [Nat.zero_add, h.cell]; simpa using hv) hu hd (by simpa using hi)
  unfold execOp
  simp only [ho, hx, Instr.loadAt, Instr.sureAddr, Sem.run_bind, Sem.run_pure, Result.andThen_ok, hr, Array.toArray_toList]
theorem exec_load_cpu {x : Operand} (ho : o.op = .load 24 x) {g : Nat} (hx : a.eval x = .pointer (some ⟨g, 0, none⟩)) {t : TypeId} {c : Cp.Cpu} (h : Obl w g t (cc c)) (h8 : c.regs.length = 8) :
    (execOp a.eval o).run Try.prog w = .ok (.value (.agg (cc c))) w := exec_load_row ho hx h rfl Try.underlying24 (by rw [cc_size h8]; exact cpuSize)
theorem exec_load_ins {x : Operand} (ho : o.op = .load 31 x) {g : Nat} (hx : a.eval x = .pointer (some ⟨g, 0, none⟩)) {t : TypeId} {p q r s : Value} (h : Obl w g t #[p, q, r, s]) :
    (execOp a.eval o).run Try.prog w = .ok (.value (.agg #[p, q, r, s])) w := exec_load_row ho hx h rfl Try.underlying31 insSize
theorem exec_build {t : TypeId} {parts : Array (Nat × Operand)} (ho : o.op = .build t parts) {vs : List (Nat × Value)} (hp : (parts.map fun (i, x) => (i, a.eval x)).toList = vs) {cells : Array Value} (hb : Try.prog.built t vs = some cells) :
    (execOp a.eval o).run Try.prog w = .ok (.value (.agg cells)) w := by
  have hr := run_build (P := Try.prog) w t (parts.map fun (i, x) => (i, a.eval x)) cells (by rw [hp]; exact hb)
  unfold execOp
  simp only [ho, Sem.run_bind, Sem.run_pure, Result.andThen_ok, hr]
variable {K : Act → World → Prop} {Q : Exit → Act → World → Prop}
theorem wp_store_cpu {x y : Operand} (ho : o.op = .store 24 x y) {g : Nat} (hx : a.eval x = .pointer (some ⟨g, 0, none⟩)) {c : Cp.Cpu} (hy : a.eval y = .agg (cc c)) {old : Array Value} {t : TypeId} (h : Obl w g t old) (hold : old.size = 9) (h8 : c.regs.length = 8)
    (hK : K (a.put o.dst undef) (w.setRow g (cc c))) : o.wp Try.prog a w K Q := wp_store_row _ x y ho g (cc c) hx hy t old h (by rw [cc_size h8]; exact cpuSize) (by rw [cc_size h8]; exact hold) (cc_one c) hK
theorem wp_store_act {x y : Operand} (ho : o.op = .store 42 x y) {g : Nat} (hx : a.eval x = .pointer (some ⟨g, 0, none⟩)) {c : Cp.Act} (hy : a.eval y = .agg (ac c)) {old : Array Value} {t : TypeId} (h : Obl w g t old) (hold : old.size = 8) (h3 : c.args.length = 3)
    (hK : K (a.put o.dst undef) (w.setRow g (ac c))) : o.wp Try.prog a w K Q := wp_store_row _ x y ho g (ac c) hx hy t old h (by rw [ac_size h3]; exact actSize) (by rw [ac_size h3]; exact hold) (ac_one c) hK
end
/-- The end of a function that gives a processor and an action back: both are laid, and nothing else. -/
theorem ends_2 {w w1 : World} {g : Nat} {old old' : Array Value} (h : Obl w1 g 24 old) (h' : Obl w1 (g + 1) 42 old') (hb : Below w.heap.size w w1) (hg : w.heap.size ≤ g) (c : Cp.Cpu) (x : Cp.Act) :
    Obl ((w1.setRow g (cc c)).setRow (g + 1) (ac x)) g 24 (cc c) ∧ Obl (w1.setRow g (cc c)) (g + 1) 42 old' ∧ Obl ((w1.setRow g (cc c)).setRow (g + 1) (ac x)) (g + 1) 42 (ac x) ∧ Below w.heap.size w ((w1.setRow g (cc c)).setRow (g + 1) (ac x)) :=
  ⟨(h.row_same _).row_other (by omega) _, h'.row_other (by omega) _, (h'.row_other (by omega) _).row_same _, below_row (below_row hb hg _) (by omega) _⟩
end Go.Proofs.Ytkcegdnjgkideaa
