/- Layer 4: how instructions and programs lie in memory; the table of operations. -/
import Derived.Test.YtfjekckcpkkdiaaGreatDoorCodeMath
import Derived.Test.YtfjekckcpkkdiaaGreatDoorNum
import Derived.Test.YtfjekckcpkkdiaaGreatDoorAgg
namespace Go.Proofs.YtfjekckcpkkdiaaGreatDoor
open Go.RowKit

/-- Instructions as cells. -/
def ic (x : Cd.Ins) : List Value := [.int .i64 x.op, .int .i64 x.a, .int .i64 x.b, .int .i64 x.c]
def iv (l : List Cd.Ins) : List Value := l.flatMap ic
def ia (x : Cd.Ins) : Value := .agg #[.int .i64 x.op, .int .i64 x.a, .int .i64 x.b, .int .i64 x.c]
theorem iv_cons (x : Cd.Ins) (l : List Cd.Ins) : iv (x :: l) = ic x ++ iv l := rfl
theorem iv_append (a b : List Cd.Ins) : iv (a ++ b) = iv a ++ iv b := by simp [iv]
theorem iv_snoc (l : List Cd.Ins) (x : Cd.Ins) : iv l ++ [.int .i64 x.op, .int .i64 x.a, .int .i64 x.b, .int .i64 x.c] = iv (l ++ [x]) := by rw [iv_append]; simp [iv, ic]
theorem iv_length (l : List Cd.Ins) : (iv l).length = l.length * 4 := by
  induction l with
  | nil => rfl
  | cons x l ih => rw [iv_cons, List.length_append, ih, List.length_cons]; simp only [ic, List.length_cons, List.length_nil]; omega
theorem iv_at {l : List Cd.Ins} {k : Nat} (h : k < l.length) : (iv l)[k * 4]? = some (.int .i64 l[k].op) ∧ (iv l)[k * 4 + 1]? = some (.int .i64 l[k].a) ∧ (iv l)[k * 4 + 2]? = some (.int .i64 l[k].b) ∧ (iv l)[k * 4 + 3]? = some (.int .i64 l[k].c) := by
  induction l generalizing k with
  | nil => simp at h
  | cons a l ih =>
    rw [iv_cons]
    rcases k with _ | k
    · exact ⟨rfl, rfl, rfl, rfl⟩
    · have := ih (k := k) (by simpa using h)
      rw [show (k + 1) * 4 = (ic a).length + k * 4 by simp [ic]; omega, List.getElem?_append_right (by omega), List.getElem?_append_right (by omega), List.getElem?_append_right (by omega), List.getElem?_append_right (by omega)]
      simp only [List.getElem_cons_succ]
      rw [show (ic a).length + k * 4 - (ic a).length = k * 4 by omega, show (ic a).length + k * 4 + 1 - (ic a).length = k * 4 + 1 by omega, show (ic a).length + k * 4 + 2 - (ic a).length = k * 4 + 2 by omega, show (ic a).length + k * 4 + 3 - (ic a).length = k * 4 + 3 by omega]
      exact this
theorem iv_one (l : List Cd.Ins) : ∀ u ∈ iv l, u.oneCell' = true := by
  intro u hu
  simp only [iv, List.mem_flatMap] at hu
  obtain ⟨a, _, hu⟩ := hu
  simp only [ic, List.mem_cons, List.not_mem_nil, or_false] at hu
  rcases hu with rfl | rfl | rfl | rfl <;> rfl

/-- The slice of address A and n instructions reads as l. -/
def Inss (w : World) (B : Nat) (A : Option Addr) (n : Nat) (l : List Cd.Ins) : Prop := l.length = n ∧ Row w B 4 A n (iv l)
section
variable {w w' : World} {B B' n : Nat} {A : Option Addr} {l : List Cd.Ins}
theorem Inss.len (h : Inss w B A n l) : l.length = n := h.1
theorem Inss.row (h : Inss w B A n l) : Row w B 4 A n (iv l) := h.2
theorem Inss.nil : Inss w B A 0 [] := ⟨rfl, Row.nil⟩
theorem Inss.mono (h : Inss w B A n l) (hB : B ≤ B') : Inss w B' A n l := ⟨h.1, h.2.mono hB⟩
theorem Inss.below (h : Inss w B A n l) (hb : Below B w w') : Inss w' B A n l := ⟨h.1, h.2.below hb⟩
theorem Inss.belowLe {C : Nat} (h : Inss w B A n l) (hb : Below C w w') (hC : B ≤ C) : Inss w' B A n l := h.below (hb.mono hC)
theorem Inss.drew (h : Inss w B A n l) : Inss w.drew B A n l := h
theorem Inss.drewN (h : Inss w B A n l) (q : Nat) : Inss (w.drewN q) B A n l := h
theorem Inss.alloc (h : Inss w B A n l) (hB : B ≤ w.heap.size) (o : Obj) : Inss (w.alloc o) B A n l := ⟨h.1, h.2.alloc hB o⟩
theorem Inss.of_own {base : Nat} {e : TypeId} {c : Nat} (h : w.ownsRow base e 4 (.slice A n c) n (iv l)) : Inss w w.heap.size A n l := ⟨by have := h.1; rw [iv_length] at this; omega, Row.of_own h⟩
/-- The i-th instruction, where it lies. -/
theorem Inss.at_ (h : Inss w B A n l) {i : Nat} (hi : i < n) : ∃ b o, ∃ hl : i < l.length, A = some ⟨b, o, none⟩ ∧ b < B ∧ w.cell? ⟨b, o + i * 4, none⟩ = some (.int .i64 l[i].op) ∧ w.cell? ⟨b, o + i * 4 + 1, none⟩ = some (.int .i64 l[i].a) ∧
    w.cell? ⟨b, o + i * 4 + 2, none⟩ = some (.int .i64 l[i].b) ∧ w.cell? ⟨b, o + i * 4 + 3, none⟩ = some (.int .i64 l[i].c) := by
  have hl : i < l.length := by rw [h.1]; exact hi
  obtain ⟨h0, h1, h2, h3⟩ := iv_at hl
  obtain ⟨b, o, e, hb, hc⟩ := h.2.rd.at_ h0
  have hR := h.2.rd
  subst e
  obtain ⟨b', o', e', _, hall⟩ := hR (by intro hx; rw [hx] at h0; simp at h0)
  simp only [Option.some.injEq, Addr.mk.injEq, and_true] at e'
  obtain ⟨rfl, rfl⟩ := e'
  exact ⟨_, _, hl, rfl, hb, hc, by rw [Nat.add_assoc]; exact hall _ _ h1, by rw [Nat.add_assoc]; exact hall _ _ h2, by rw [Nat.add_assoc]; exact hall _ _ h3⟩
end
theorem own_inss {w : World} {base n : Nat} {e : TypeId} {v : Value} {l : List Cd.Ins} (h : w.ownsRow base e 4 v n (iv l)) : l.length = n := by have := h.1; rw [iv_length] at this; omega

theorem insTy : ElemTy Tryz.prog 22 32 4 32 := by
  obtain ⟨i0, hi, hz0, hz1, hz2⟩ := info_parts (show (Tryz.prog.info? 32).map (fun i => (i.zero, i.size, i.bytes)) = some (some (.agg #[.int .i64 0, .int .i64 0, .int .i64 0, .int .i64 0]), 4, 32) by kernel_rfl)
  exact ⟨i0, _, Tryz.underlying22, hi, hz0, hz1, hz2, rfl, by omega⟩

/-- The table of operations as cells. -/
def oc (o : Cd.Opn) : List Value := [.string ⟨o.name.toArray⟩, .string ⟨o.form.toArray⟩, .int .i64 o.least, .int .i64 o.most]
def ov (l : List Cd.Opn) : List Value := l.flatMap oc
theorem ov_at {l : List Cd.Opn} {k : Nat} (h : k < l.length) : (ov l)[k * 4]? = some (.string ⟨l[k].name.toArray⟩) ∧ (ov l)[k * 4 + 1]? = some (.string ⟨l[k].form.toArray⟩) ∧ (ov l)[k * 4 + 2]? = some (.int .i64 l[k].least) ∧ (ov l)[k * 4 + 3]? = some (.int .i64 l[k].most) := by
  induction l generalizing k with
  | nil => simp at h
  | cons a l ih =>
    rw [show ov (a :: l) = oc a ++ ov l from rfl]
    rcases k with _ | k
    · exact ⟨rfl, rfl, rfl, rfl⟩
    · have := ih (k := k) (by simpa using h)
      rw [show (k + 1) * 4 = (oc a).length + k * 4 by simp [oc]; omega, List.getElem?_append_right (by omega), List.getElem?_append_right (by omega), List.getElem?_append_right (by omega), List.getElem?_append_right (by omega)]
      simp only [List.getElem_cons_succ]
      rw [show (oc a).length + k * 4 - (oc a).length = k * 4 by omega, show (oc a).length + k * 4 + 1 - (oc a).length = k * 4 + 1 by omega, show (oc a).length + k * 4 + 2 - (oc a).length = k * 4 + 2 by omega, show (oc a).length + k * 4 + 3 - (oc a).length = k * 4 + 3 by omega]
      exact this
/-- The variable holds the table. -/
def LaidO (w : World) : Prop := w.var? Tryz.prog "clusterkernel/code.operations" = some (ov Cd.tbl).toArray
theorem gOps : Tryz.prog.globalNamed "clusterkernel/code.operations" = some 0 := by kernel_rfl
theorem LaidO.lt {w : World} (h : LaidO w) : 0 < w.heap.size := var_lt gOps h
theorem LaidO.below {w w' : World} (h : LaidO w) (hb : Below w.heap.size w w') : LaidO w' := var?_below hb gOps (var_lt gOps h) h
theorem LaidO.belowLe {w w' : World} {B : Nat} (h : LaidO w) (hB : 0 < B) (hb : Below B w w') : LaidO w' := var?_below hb gOps hB h
theorem LaidO.alloc {w : World} (h : LaidO w) (o : Obj) : LaidO (w.alloc o) := h.below ((Below.refl _ _).alloc (Nat.le_refl _) _)
theorem LaidO.drew {w : World} (h : LaidO w) : LaidO w.drew := h
theorem LaidO.at_ {w : World} (h : LaidO w) {k : Nat} (hk : k < 13) :
    w.cell? ⟨0, k * 4, none⟩ = some (.string ⟨(Cd.opn (k : Int)).name.toArray⟩) ∧ w.cell? ⟨0, k * 4 + 1, none⟩ = some (.string ⟨(Cd.opn (k : Int)).form.toArray⟩) ∧
    w.cell? ⟨0, k * 4 + 2, none⟩ = some (.int .i64 (Cd.opn (k : Int)).least) ∧ w.cell? ⟨0, k * 4 + 3, none⟩ = some (.int .i64 (Cd.opn (k : Int)).most) := by
  obtain ⟨h0, h1, h2, h3⟩ := ov_at (l := Cd.tbl) (k := k) hk
  rw [Cd.opn_nat k hk]
  have c := World.var?_cell gOps h
  have e : ∀ i : Nat, (ov Cd.tbl).toArray[i]? = (ov Cd.tbl)[i]? := fun i => List.getElem?_toArray ..
  exact ⟨(c _).trans ((e _).trans h0), (c _).trans ((e _).trans h1), (c _).trans ((e _).trans h2), (c _).trans ((e _).trans h3)⟩
end Go.Proofs.YtfjekckcpkkdiaaGreatDoor
