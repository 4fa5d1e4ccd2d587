/- Layer 7, how address spaces lie in memory. Nothing of the program but the types' numbers. -/
import Derived.Test.YtdglcpepgodcpaaDoorIdTy
import Derived.Test.YtdglcpepgodcpaaDoorSpMath
import Derived.Test.YtdglcpepgodcpaaDoorRowMem
import Derived.Test.YtdglcpepgodcpaaDoorRegionX
namespace Go.Proofs.YtdglcpepgodcpaaDoor
open Go.RowKit

/-- Pages as cells. -/
def rc (x : Sp.Ref) : List Value := [.int .u64 x.id, .bool x.sh]
def rv (l : List Sp.Ref) : List Value := l.flatMap rc
abbrev ra (x : Sp.Ref) : Value := .agg #[.int .u64 x.id, .bool x.sh]
theorem rv_cons (x : Sp.Ref) (l : List Sp.Ref) : rv (x :: l) = rc x ++ rv l := rfl
theorem rv_append (a b : List Sp.Ref) : rv (a ++ b) = rv a ++ rv b := by simp [rv]
theorem rv_snoc (l : List Sp.Ref) (x : Sp.Ref) : rv l ++ [.int .u64 x.id, .bool x.sh] = rv (l ++ [x]) := by rw [rv_append]; simp [rv, rc]
theorem rv_length (l : List Sp.Ref) : (rv l).length = l.length * 2 := by
  induction l with
  | nil => rfl
  | cons x l ih => rw [rv_cons, List.length_append, ih, List.length_cons]; simp only [rc, List.length_cons, List.length_nil]; omega
theorem rv_at {l : List Sp.Ref} {k : Nat} (h : k < l.length) : (rv l)[k * 2]? = some (.int .u64 l[k].id) ∧ (rv l)[k * 2 + 1]? = some (.bool l[k].sh) := by
  induction l generalizing k with
  | nil => simp at h
  | cons a l ih =>
    rw [rv_cons]
    rcases k with _ | k
    · exact ⟨rfl, rfl⟩
    · have := ih (k := k) (by simpa using h)
      rw [show (k + 1) * 2 = (rc a).length + k * 2 by simp [rc]; omega, List.getElem?_append_right (by omega), List.getElem?_append_right (by omega)]
      simp only [List.getElem_cons_succ]
      rw [show (rc a).length + k * 2 - (rc a).length = k * 2 by omega, show (rc a).length + k * 2 + 1 - (rc a).length = k * 2 + 1 by omega]
      exact this
theorem rv_one (l : List Sp.Ref) : ∀ u ∈ rv l, u.oneCell' = true := by
  intro u hu
  simp only [rv, List.mem_flatMap] at hu
  obtain ⟨a, _, hu⟩ := hu
  simp only [rc, List.mem_cons, List.not_mem_nil, or_false] at hu
  rcases hu with rfl | rfl <;> rfl
theorem rv_take (l : List Sp.Ref) (k : Nat) : rv (l.take k) = (rv l).take (k * 2) := by
  induction l generalizing k with
  | nil => simp [rv]
  | cons a l ih =>
    rcases k with _ | k
    · simp [rv]
    · rw [List.take_succ_cons, rv_cons, rv_cons, ih, show (k + 1) * 2 = k * 2 + 2 by omega]
      simp [rc]

/-- The slice of address A and n pages reads as l. -/
def Refs (w : World) (B : Nat) (A : Option Addr) (n : Nat) (l : List Sp.Ref) : Prop := l.length = n ∧ Row w B 2 A n (rv l)
section
variable {w w' : World} {B B' n : Nat} {A : Option Addr} {l : List Sp.Ref}
theorem Refs.len (h : Refs w B A n l) : l.length = n := h.1
theorem Refs.row (h : Refs w B A n l) : Row w B 2 A n (rv l) := h.2
theorem Refs.nil : Refs w B A 0 [] := ⟨rfl, Row.nil⟩
theorem Refs.mono (h : Refs w B A n l) (hB : B ≤ B') : Refs w B' A n l := ⟨h.1, h.2.mono hB⟩
theorem Refs.below (h : Refs w B A n l) (hb : Below B w w') : Refs w' B A n l := ⟨h.1, h.2.below hb⟩
theorem Refs.belowLe {C : Nat} (h : Refs w B A n l) (hb : Below C w w') (hC : B ≤ C) : Refs w' B A n l := h.below (hb.mono hC)
theorem Refs.later (h : Refs w w.heap.size A n l) (hb : Below w.heap.size w w') : Refs w' w'.heap.size A n l := (h.below hb).mono hb.size
theorem Refs.drew (h : Refs w B A n l) : Refs w.drew B A n l := h
theorem Refs.drewN (h : Refs w B A n l) (q : Nat) : Refs (w.drewN q) B A n l := h
theorem Refs.alloc (h : Refs w B A n l) (hB : B ≤ w.heap.size) (o : Obj) : Refs (w.alloc o) B A n l := ⟨h.1, h.2.alloc hB o⟩
theorem Refs.of_own {base : Nat} {e : TypeId} {c : Nat} (h : w.ownsRow base e 2 (.slice A n c) n (rv l)) : Refs w w.heap.size A n l := ⟨by have := h.1; rw [rv_length] at this; omega, Row.of_own h⟩
theorem Refs.takeN (h : Refs w B A n l) {m : Nat} (hm : m ≤ n) : Refs w B A m (l.take m) := by
  have hl := h.1
  refine ⟨by rw [List.length_take]; omega, ⟨by rw [rv_length, List.length_take]; omega, fun hA => ?_, ?_⟩⟩
  · have := h.2.2.1 hA
    omega
  · have := h.2.rd.take_ (m * 2)
    rwa [← rv_take] at this
/-- The i-th page, where it lies. -/
theorem Refs.at_ (h : Refs w B A n l) {i : Nat} (hi : i < n) : ∃ b o, ∃ hl : i < l.length, A = some ⟨b, o, none⟩ ∧ b < B ∧ w.cell? ⟨b, o + i * 2, none⟩ = some (.int .u64 l[i].id) ∧ w.cell? ⟨b, o + i * 2 + 1, none⟩ = some (.bool l[i].sh) := by
  have hl : i < l.length := by rw [h.1]; exact hi
  obtain ⟨h0, h1⟩ := rv_at hl
  obtain ⟨b, o, e, hb, hc⟩ := h.2.rd.at_ h0
  have hR := h.2.rd
  subst e
  obtain ⟨b', o', e', _, hall⟩ := hR (by intro hx; rw [hx] at h0; simp at h0)
  simp only [Option.some.injEq, Addr.mk.injEq, and_true] at e'
  obtain ⟨rfl, rfl⟩ := e'
  exact ⟨_, _, hl, rfl, hb, hc, by rw [Nat.add_assoc]; exact hall _ _ h1⟩
end
theorem own_refs {w : World} {base n : Nat} {e : TypeId} {v : Value} {l : List Sp.Ref} (h : w.ownsRow base e 2 v n (rv l)) : l.length = n := by have := h.1; rw [rv_length] at this; omega

theorem refTy : ElemTy Tryd.prog 33 77 2 16 := by
  obtain ⟨i0, hi, hz0, hz1, hz2⟩ := info_parts (show (Tryd.prog.info? 77).map (fun i => (i.zero, i.size, i.bytes)) = some (some (.agg #[.int .u64 0, .bool false]), 2, 16) by kernel_rfl)
  exact ⟨i0, _, Tryd.underlying33, hi, hz0, hz1, hz2, rfl, by omega⟩
theorem Row.two (w : World) (x : Sp.Ref) (t : TypeId) : Row (w.alloc (.cells #[.int .u64 x.id, .bool x.sh] t)) (w.heap.size + 1) 2 (some ⟨w.heap.size, 0, none⟩) 1 [.int .u64 x.id, .bool x.sh] :=
  ⟨by simp, by simp, (Row.list w [.int .u64 x.id, .bool x.sh] t).rd⟩
theorem refSize : (Tryd.prog.info? 77).map (·.size) = some 2 := by kernel_rfl

section
variable {ops : Array Oper} {rest : List Oper} {o : Oper} {a : Act} {w : World} {Q : Exit → Act → World → Prop}
theorem load_ref (hgd : o.guard = none) (x : Operand) (ho : o.op = .load 77 x) {g : Nat} (hx : a.eval x = .pointer (some ⟨g, 0, none⟩)) {y : Sp.Ref} {t : TypeId} (h : Obl w g t #[.int .u64 y.id, .bool y.sh])
    (hK : wpList Tryd.prog ops Q rest (a.put o.dst (ra y)) w) : wpList Tryd.prog ops Q (o :: rest) a w :=
  wpList_load_row hgd _ x ho g hx t _ (0, 0) _ h Tryd.underlying77 rfl refSize hK
theorem exec_load_ref {x : Operand} (ho : o.op = .load 77 x) {g k : Nat} (hx : a.eval x = .pointer (some ⟨g, k, none⟩)) {y : Sp.Ref} (h0 : w.cell? ⟨g, k, none⟩ = some (.int .u64 y.id)) (h1 : w.cell? ⟨g, k + 1, none⟩ = some (.bool y.sh)) :
    (execOp a.eval o).run Tryd.prog w = .ok (.value (ra y)) w := by
  have hr := run_loadVar_mid (P := Tryd.prog) w g k 77 [.int .u64 y.id, .bool y.sh] _ (fun j v hv => by
    rcases j with _ | _ | j
    · rw [Nat.add_zero, h0]; exact hv
    · rw [h1]; exact hv
    · simp at hv) Tryd.underlying77 rfl refSize
  unfold execOp
  simp only [ho, hx, Instr.loadAt, Instr.sureAddr, Sem.run_bind, Sem.run_pure, Result.andThen_ok, hr]
end
theorem ref_one (x : Sp.Ref) : (#[.int .u64 x.id, .bool x.sh] : Array Value).all (·.oneCell') = true := by simp [Value.oneCell']
theorem store_ref {ops : Array Oper} {rest : List Oper} {o : Oper} {a : Act} {w : World} {Q : Exit → Act → World → Prop} (hgd : o.guard = none) (x y : Operand) (ho : o.op = .store 77 x y) {g : Nat} (hx : a.eval x = .pointer (some ⟨g, 0, none⟩)) {c : Sp.Ref} (hy : a.eval y = ra c) {old : Array Value} {t : TypeId} (h : Obl w g t old) (hold : old.size = 2)
    (hK : wpList Tryd.prog ops Q rest (a.put o.dst undef) (w.setRow g #[.int .u64 c.id, .bool c.sh])) : wpList Tryd.prog ops Q (o :: rest) a w :=
  wpList_store_row hgd _ x y ho g _ hx hy t old h refSize hold (ref_one c) hK
/-- A new block for a page, laid. -/
theorem start_slot (w : World) (x : Sp.Ref) : ∃ w1, w.alloc (.cells #[.int .u64 0, .bool false] 77) = w1 ∧ ∃ g, w.heap.size = g ∧ ∃ w2, w1.setRow g #[.int .u64 x.id, .bool x.sh] = w2 ∧
    Obl w1 g 77 #[.int .u64 0, .bool false] ∧ Obl w2 g 77 #[.int .u64 x.id, .bool x.sh] ∧ Below g w w2 ∧ w2.heap.size = g + 1 := by
  have O1 : Obl (w.alloc (.cells #[.int .u64 0, .bool false] 77)) w.heap.size 77 #[.int .u64 0, .bool false] := Obl.make w _ _
  exact ⟨_, rfl, _, rfl, _, rfl, O1, O1.row_same _, below_row ((Below.refl _ _).alloc (Nat.le_refl _) _) (Nat.le_refl _) _, by simp [World.setRow]⟩
/-- A page laid in a new block. -/
theorem start_ref (w : World) (x : Sp.Ref) : ∃ w1, w.alloc (.cells #[.int .u64 x.id, .bool x.sh] 77) = w1 ∧ ∃ g, w.heap.size = g ∧ Obl w1 g 77 #[.int .u64 x.id, .bool x.sh] ∧ Below g w w1 ∧ w1.heap.size = g + 1 :=
  ⟨_, rfl, _, rfl, Obl.make w _ _, (Below.refl _ _).alloc (Nat.le_refl _) _, by simp⟩
end Go.Proofs.YtdglcpepgodcpaaDoor
