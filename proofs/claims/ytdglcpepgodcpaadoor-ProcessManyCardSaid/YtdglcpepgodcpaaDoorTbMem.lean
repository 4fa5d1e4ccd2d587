/- Layer 10, slots and how tables lie in memory. Nothing of the program but the types' numbers. -/
import Derived.Test.YtdglcpepgodcpaaDoorVal
namespace Go.Proofs.YtdglcpepgodcpaaDoor
open Go.RowKit
namespace Tb
/-- A slot of a table. -/
structure Slot where
  kind : Int
  desc : Int
  target : Int
  fin : Int
deriving DecidableEq
def Slot.zero : Slot := ⟨0, 0, 0, 0⟩
instance : Inhabited Slot := ⟨Slot.zero⟩
end Tb

/-- Slots as cells. -/
def stc (x : Tb.Slot) : List Value := [.int .i64 x.kind, .int .u64 x.desc, .int .u64 x.target, .int .i64 x.fin]
def stv (l : List Tb.Slot) : List Value := l.flatMap stc
abbrev sta (x : Tb.Slot) : Value := .agg #[.int .i64 x.kind, .int .u64 x.desc, .int .u64 x.target, .int .i64 x.fin]
theorem stv_cons (x : Tb.Slot) (l : List Tb.Slot) : stv (x :: l) = stc x ++ stv l := rfl
theorem stv_append (a b : List Tb.Slot) : stv (a ++ b) = stv a ++ stv b := by simp [stv]
theorem stv_snoc (l : List Tb.Slot) (x : Tb.Slot) : stv l ++ [.int .i64 x.kind, .int .u64 x.desc, .int .u64 x.target, .int .i64 x.fin] = stv (l ++ [x]) := by rw [stv_append]; simp [stv, stc]
theorem stv_length (l : List Tb.Slot) : (stv l).length = l.length * 4 := by
  induction l with
  | nil => rfl
  | cons x l ih => rw [stv_cons, List.length_append, ih, List.length_cons]; simp only [stc, List.length_cons, List.length_nil]; omega
theorem stv_get {l : List Tb.Slot} {k : Nat} (h : k < l.length) {j : Nat} (hj : j < 4) : (stv l)[k * 4 + j]? = (stc l[k])[j]? := by
  induction l generalizing k with
  | nil => simp at h
  | cons a l ih =>
    rw [stv_cons]
    rcases k with _ | k
    · rw [List.getElem?_append_left (by simp [stc]; omega)]
      simp
    · have := ih (k := k) (by simpa using h)
      rw [show (k + 1) * 4 + j = (stc a).length + (k * 4 + j) by simp [stc]; omega, List.getElem?_append_right (by omega)]
      simp only [List.getElem_cons_succ]
      rw [show (stc a).length + (k * 4 + j) - (stc a).length = k * 4 + j by omega]
      exact this
theorem stv_one (l : List Tb.Slot) : ∀ u ∈ stv l, u.oneCell' = true := by
  intro u hu
  simp only [stv, List.mem_flatMap] at hu
  obtain ⟨a, _, hu⟩ := hu
  simp only [stc, List.mem_cons, List.not_mem_nil, or_false] at hu
  rcases hu with rfl | rfl | rfl | rfl <;> rfl
theorem stv_take (l : List Tb.Slot) (k : Nat) : stv (l.take k) = (stv l).take (k * 4) := by
  induction l generalizing k with
  | nil => simp [stv]
  | cons a l ih =>
    rcases k with _ | k
    · simp [stv]
    · rw [List.take_succ_cons, stv_cons, stv_cons, ih, show (k + 1) * 4 = k * 4 + 4 by omega]
      simp [stc]
theorem stv_set (l : List Tb.Slot) (k : Nat) (h : k < l.length) (x : Tb.Slot) : ((((stv l).set (k * 4) (.int .i64 x.kind)).set (k * 4 + 1) (.int .u64 x.desc)).set (k * 4 + 2) (.int .u64 x.target)).set (k * 4 + 3) (.int .i64 x.fin) = stv (l.set k x) := by
  induction l generalizing k with
  | nil => simp at h
  | cons a l ih =>
    rcases k with _ | k
    · simp [stv, stc]
    · rw [List.set_cons_succ, stv_cons, stv_cons, ← ih k (by simpa using h)]
      simp only [stc, List.cons_append, List.nil_append, show (k + 1) * 4 = k * 4 + 1 + 1 + 1 + 1 by omega, show k * 4 + 1 + 1 + 1 + 1 + 1 = (k * 4 + 1) + 1 + 1 + 1 + 1 by omega, show k * 4 + 1 + 1 + 1 + 1 + 2 = (k * 4 + 2) + 1 + 1 + 1 + 1 by omega, show k * 4 + 1 + 1 + 1 + 1 + 3 = (k * 4 + 3) + 1 + 1 + 1 + 1 by omega, List.set_cons_succ]

/-- The slice of address A and n slots reads as l. -/
def Slots (w : World) (B : Nat) (A : Option Addr) (n : Nat) (l : List Tb.Slot) : Prop := l.length = n ∧ Row w B 4 A n (stv l)
section
variable {w w' : World} {B B' n : Nat} {A : Option Addr} {l : List Tb.Slot}
theorem Slots.len (h : Slots w B A n l) : l.length = n := h.1
theorem Slots.row (h : Slots w B A n l) : Row w B 4 A n (stv l) := h.2
theorem Slots.nil : Slots w B A 0 [] := ⟨rfl, Row.nil⟩
theorem Slots.mono (h : Slots w B A n l) (hB : B ≤ B') : Slots w B' A n l := ⟨h.1, h.2.mono hB⟩
theorem Slots.below (h : Slots w B A n l) (hb : Below B w w') : Slots w' B A n l := ⟨h.1, h.2.below hb⟩
theorem Slots.belowLe {C : Nat} (h : Slots w B A n l) (hb : Below C w w') (hC : B ≤ C) : Slots w' B A n l := h.below (hb.mono hC)
theorem Slots.later (h : Slots w w.heap.size A n l) (hb : Below w.heap.size w w') : Slots w' w'.heap.size A n l := (h.below hb).mono hb.size
theorem Slots.drewN (h : Slots w B A n l) (q : Nat) : Slots (w.drewN q) B A n l := h
theorem Slots.alloc (h : Slots w B A n l) (hB : B ≤ w.heap.size) (o : Obj) : Slots (w.alloc o) B A n l := ⟨h.1, h.2.alloc hB o⟩
theorem Slots.of_own {base : Nat} {e : TypeId} {c : Nat} (h : w.ownsRow base e 4 (.slice A n c) n (stv l)) : Slots w w.heap.size A n l := ⟨by have := h.1; rw [stv_length] at this; omega, Row.of_own h⟩
theorem Slots.takeN (h : Slots w B A n l) {m : Nat} (hm : m ≤ n) : Slots w B A m (l.take m) := by
  have hl := h.1
  refine ⟨by rw [List.length_take]; omega, ⟨by rw [stv_length, List.length_take]; omega, fun hA => ?_, ?_⟩⟩
  · have := h.2.2.1 hA
    omega
  · have := h.2.rd.take_ (m * 4)
    rwa [← stv_take] at this
/-- The i-th slot, where it lies. -/
theorem Slots.at_ (h : Slots w B A n l) {i : Nat} (hi : i < n) : ∃ b o, ∃ hl : i < l.length, A = some ⟨b, o, none⟩ ∧ b < B ∧ w.cell? ⟨b, o + i * 4, none⟩ = some (.int .i64 l[i].kind) ∧ w.cell? ⟨b, o + i * 4 + 1, none⟩ = some (.int .u64 l[i].desc) ∧
    w.cell? ⟨b, o + i * 4 + 2, none⟩ = some (.int .u64 l[i].target) ∧ w.cell? ⟨b, o + i * 4 + 3, none⟩ = some (.int .i64 l[i].fin) := by
  have hl : i < l.length := by rw [h.1]; exact hi
  have h0 := stv_get hl (show 0 < 4 by omega)
  have h1 := stv_get hl (show 1 < 4 by omega)
  have h2 := stv_get hl (show 2 < 4 by omega)
  have h3 := stv_get hl (show 3 < 4 by omega)
  simp only [stc, List.getElem?_cons_zero, List.getElem?_cons_succ] at h0 h1 h2 h3
  obtain ⟨b, o, e, hb, hc⟩ := h.2.rd.at_ h0
  have hR := h.2.rd
  subst e
  obtain ⟨b', o', e', _, hall⟩ := hR (by intro hx; rw [hx] at h0; simp at h0)
  simp only [Option.some.injEq, Addr.mk.injEq, and_true] at e'
  obtain ⟨rfl, rfl⟩ := e'
  exact ⟨_, _, hl, rfl, hb, hc, by rw [Nat.add_assoc]; exact hall _ _ h1, by rw [Nat.add_assoc]; exact hall _ _ h2, by rw [Nat.add_assoc]; exact hall _ _ h3⟩
end
theorem own_slots {w : World} {base n : Nat} {e : TypeId} {v : Value} {l : List Tb.Slot} (h : w.ownsRow base e 4 v n (stv l)) : l.length = n := by have := h.1; rw [stv_length] at this; omega

theorem slotTy : ElemTy Tryd.prog 34 86 4 32 := by
  obtain ⟨i0, hi, hz0, hz1, hz2⟩ := info_parts (show (Tryd.prog.info? 86).map (fun i => (i.zero, i.size, i.bytes)) = some (some (.agg #[.int .i64 0, .int .u64 0, .int .u64 0, .int .i64 0]), 4, 32) by kernel_rfl)
  exact ⟨i0, _, Tryd.underlying34, hi, hz0, hz1, hz2, rfl, by omega⟩
theorem slotSize : (Tryd.prog.info? 86).map (·.size) = some 4 := by kernel_rfl

section
variable {ops : Array Oper} {rest : List Oper} {o : Oper} {a : Act} {w : World} {Q : Exit → Act → World → Prop}
theorem load_slot (hgd : o.guard = none) (x : Operand) (ho : o.op = .load 86 x) {g : Nat} (hx : a.eval x = .pointer (some ⟨g, 0, none⟩)) {y : Tb.Slot} {t : TypeId} (h : Obl w g t #[.int .i64 y.kind, .int .u64 y.desc, .int .u64 y.target, .int .i64 y.fin])
    (hK : wpList Tryd.prog ops Q rest (a.put o.dst (sta y)) w) : wpList Tryd.prog ops Q (o :: rest) a w :=
  wpList_load_row hgd _ x ho g hx t _ (0, 0) _ h Tryd.underlying86 rfl slotSize hK
theorem exec_load_slot {x : Operand} (ho : o.op = .load 86 x) {g k : Nat} (hx : a.eval x = .pointer (some ⟨g, k, none⟩)) {y : Tb.Slot} (h0 : w.cell? ⟨g, k, none⟩ = some (.int .i64 y.kind)) (h1 : w.cell? ⟨g, k + 1, none⟩ = some (.int .u64 y.desc)) (h2 : w.cell? ⟨g, k + 2, none⟩ = some (.int .u64 y.target)) (h3 : w.cell? ⟨g, k + 3, none⟩ = some (.int .i64 y.fin)) :
    (execOp a.eval o).run Tryd.prog w = .ok (.value (sta y)) w := by
  have hr := run_loadVar_mid (P := Tryd.prog) w g k 86 [.int .i64 y.kind, .int .u64 y.desc, .int .u64 y.target, .int .i64 y.fin] _ (fun j v hv => by
    rcases j with _ | _ | _ | _ | j
    · rw [Nat.add_zero, h0]; exact hv
    · rw [h1]; exact hv
    · rw [h2]; exact hv
    · rw [h3]; exact hv
    · simp at hv) Tryd.underlying86 rfl slotSize
  unfold execOp
  simp only [ho, hx, Instr.loadAt, Instr.sureAddr, Sem.run_bind, Sem.run_pure, Result.andThen_ok, hr]
theorem exec_load_slot0 {x : Operand} (ho : o.op = .load 86 x) {g : Nat} (hx : a.eval x = .pointer (some ⟨g, 0, none⟩)) {y : Tb.Slot} {t : TypeId} (h : Obl w g t #[.int .i64 y.kind, .int .u64 y.desc, .int .u64 y.target, .int .i64 y.fin]) :
    (execOp a.eval o).run Tryd.prog w = .ok (.value (sta y)) w := exec_load_slot ho hx (h.cell 0) (h.cell 1) (h.cell 2) (h.cell 3)
end
theorem slot_one (x : Tb.Slot) : (#[.int .i64 x.kind, .int .u64 x.desc, .int .u64 x.target, .int .i64 x.fin] : Array Value).all (·.oneCell') = true := by simp [Value.oneCell']
theorem store_slot {ops : Array Oper} {rest : List Oper} {o : Oper} {a : Act} {w : World} {Q : Exit → Act → World → Prop} (hgd : o.guard = none) (x y : Operand) (ho : o.op = .store 86 x y) {g : Nat} (hx : a.eval x = .pointer (some ⟨g, 0, none⟩)) {c : Tb.Slot} (hy : a.eval y = sta c) {old : Array Value} {t : TypeId} (h : Obl w g t old) (hold : old.size = 4)
    (hK : wpList Tryd.prog ops Q rest (a.put o.dst undef) (w.setRow g #[.int .i64 c.kind, .int .u64 c.desc, .int .u64 c.target, .int .i64 c.fin])) : wpList Tryd.prog ops Q (o :: rest) a w :=
  wpList_store_row hgd _ x y ho g _ hx hy t old h slotSize hold (slot_one c) hK
/-- A new block for a slot, laid. -/
theorem start_zslot (w : World) (x : Tb.Slot) : ∃ w1, w.alloc (.cells #[.int .i64 0, .int .u64 0, .int .u64 0, .int .i64 0] 86) = w1 ∧ ∃ g, w.heap.size = g ∧ ∃ w2, w1.setRow g #[.int .i64 x.kind, .int .u64 x.desc, .int .u64 x.target, .int .i64 x.fin] = w2 ∧
    Obl w1 g 86 #[.int .i64 0, .int .u64 0, .int .u64 0, .int .i64 0] ∧ Obl w2 g 86 #[.int .i64 x.kind, .int .u64 x.desc, .int .u64 x.target, .int .i64 x.fin] ∧ Below g w w2 ∧ w2.heap.size = g + 1 := by
  have O1 : Obl (w.alloc (.cells #[.int .i64 0, .int .u64 0, .int .u64 0, .int .i64 0] 86)) w.heap.size 86 #[.int .i64 0, .int .u64 0, .int .u64 0, .int .i64 0] := Obl.make w _ _
  exact ⟨_, rfl, _, rfl, _, rfl, O1, O1.row_same _, below_row ((Below.refl _ _).alloc (Nat.le_refl _) _) (Nat.le_refl _) _, by simp [World.setRow]⟩
/-- A slot laid in a new block. -/
theorem start_sl (w : World) (x : Tb.Slot) : ∃ w1, w.alloc (.cells #[.int .i64 x.kind, .int .u64 x.desc, .int .u64 x.target, .int .i64 x.fin] 86) = w1 ∧ ∃ g, w.heap.size = g ∧ Obl w1 g 86 #[.int .i64 x.kind, .int .u64 x.desc, .int .u64 x.target, .int .i64 x.fin] ∧ Below g w w1 ∧ w1.heap.size = g + 1 :=
  ⟨_, rfl, _, rfl, Obl.make w _ _, (Below.refl _ _).alloc (Nat.le_refl _) _, by simp⟩

-- slots compared
theorem slotFields : Tryd.prog.underlying 86 = some (.struct (Tryd.prog.fieldsOf 86)) := by kernel_rfl
set_option maxRecDepth 100000 in
theorem equal_slot (x y : Tb.Slot) (w : World) : (Op.equalIn 10000 86 (sta x) (sta y)).run Tryd.prog w = .ok (decide (x = y)) w := by
  rw [show (10000 : Nat) = 9999 + 1 from rfl, run_equalIn_agg w 9999 _ _ _ slotFields (by kernel_rfl)]
  have hf : (Tryd.prog.fieldsOf 86).toList.map (fun f => (f.name, f.type, f.offset)) = [("Kind", 3, 0), ("Description", 24, 1), ("Target", 24, 2), ("End", 3, 3)] := by kernel_rfl
  generalize (Tryd.prog.fieldsOf 86).toList = fs at hf ⊢
  have hl : fs.length = 4 := by simpa using congrArg List.length hf
  match fs, hl with
  | [f0, f1, f2, f3], _ =>
    simp only [List.map_cons, List.map_nil, List.cons.injEq, Prod.mk.injEq, and_true] at hf
    obtain ⟨⟨n0, t0, o0⟩, ⟨n1, t1, o1⟩, ⟨n2, t2, o2⟩, n3, t3, o3⟩ := hf
    have e0 : ∀ c : Tb.Slot, (part 3 #[.int .i64 c.kind, .int .u64 c.desc, .int .u64 c.target, .int .i64 c.fin] 0).run Tryd.prog w = .ok (.int .i64 c.kind) w := fun c => run_part_one Tryd.underlying3 rfl (by simp)
    have e1 : ∀ c : Tb.Slot, (part 24 #[.int .i64 c.kind, .int .u64 c.desc, .int .u64 c.target, .int .i64 c.fin] 1).run Tryd.prog w = .ok (.int .u64 c.desc) w := fun c => run_part_one Tryd.underlying24 rfl (by simp)
    have e2 : ∀ c : Tb.Slot, (part 24 #[.int .i64 c.kind, .int .u64 c.desc, .int .u64 c.target, .int .i64 c.fin] 2).run Tryd.prog w = .ok (.int .u64 c.target) w := fun c => run_part_one Tryd.underlying24 rfl (by simp)
    have e3 : ∀ c : Tb.Slot, (part 3 #[.int .i64 c.kind, .int .u64 c.desc, .int .u64 c.target, .int .i64 c.fin] 3).run Tryd.prog w = .ok (.int .i64 c.fin) w := fun c => run_part_one Tryd.underlying3 rfl (by simp)
    have q0 : ∀ u v : Int, (Op.equalIn 9999 3 (.int .i64 u) (.int .i64 v)).run Tryd.prog w = .ok (u == v) w := fun u v => run_equalIn_int w 9998 3 .i64 .i64 _ _ Tryd.underlying3
    have q1 : ∀ u v : Int, (Op.equalIn 9999 24 (.int .u64 u) (.int .u64 v)).run Tryd.prog w = .ok (u == v) w := fun u v => run_equalIn_int w 9998 24 .u64 .u64 _ _ Tryd.underlying24
    simp only [Op.eqFields, n0, n1, n2, n3, t0, t1, t2, t3, o0, o1, o2, o3, ne_eq, String.reduceEq, not_false_eq_true, if_true, Sem.run_bind, e0, e1, e2, e3, q0, q1, Result.andThen_ok, Sem.run_ite, Sem.run_pure]
    obtain ⟨a, b, c, d⟩ := x
    obtain ⟨a', b', c', d'⟩ := y
    by_cases h1 : a = a'
    · by_cases h2 : b = b'
      · by_cases h3 : c = c'
        · by_cases h4 : d = d' <;> simp [h1, h2, h3, h4]
        · simp [h1, h2, h3]
      · simp [h1, h2]
    · simp [h1]
section
variable {w : World} {a : Act} {o : Oper}
theorem exec_eql_slot {p q : Operand} {t : TypeId} (ho : o.op = .binOp .eql 86 p q t) {x y : Tb.Slot} (hp : a.eval p = sta x) (hq : a.eval q = sta y) :
    (execOp a.eval o).run Tryd.prog w = .ok (.value (.bool (decide (x = y)))) w := by
  unfold execOp
  simp only [ho, hp, hq, Sem.run_bind, run_eqGuard_agg w .eql 86 p q _ _ (show Tryd.prog.eqGuardType Tryd.prog.depth 86 = false by kernel_rfl), run_eql_struct, equal_slot x y, Result.andThen_ok, Sem.run_pure]
theorem exec_neq_slot {p q : Operand} {t : TypeId} (ho : o.op = .binOp .neq 86 p q t) {x y : Tb.Slot} (hp : a.eval p = sta x) (hq : a.eval q = sta y) :
    (execOp a.eval o).run Tryd.prog w = .ok (.value (.bool (!decide (x = y)))) w := by
  unfold execOp
  simp only [ho, hp, hq, Sem.run_bind, run_eqGuard_agg w .neq 86 p q _ _ (show Tryd.prog.eqGuardType Tryd.prog.depth 86 = false by kernel_rfl), run_neq_struct, equal_slot x y, Result.andThen_ok, Sem.run_pure]
end
end Go.Proofs.YtdglcpepgodcpaaDoor
