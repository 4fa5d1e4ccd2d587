/- How instructions and programs lie in memory. Nothing of the program but the types' numbers. -/
import Derived.Test.YtddbohnappogkaaCodeMath
import Derived.Test.YtddbohnappogkaaAgg
namespace Go.Proofs.Ytddbohnappogkaa
open Go.RowKit

/-- Instructions as cells. -/
def ic (x : Cd.Ins) : List Value := [.int .i64 x.op, .int .i64 x.a, .int .i64 x.b, .int .i64 x.c]
def iv (l : List Cd.Ins) : List Value := l.flatMap ic
def ia (x : Cd.Ins) : Value := .agg #[.int .i64 x.op, .int .i64 x.a, .int .i64 x.b, .int .i64 x.c]
theorem iv_cons (x : Cd.Ins) (l : List Cd.Ins) : iv (x :: l) = ic x ++ iv l := rfl
theorem iv_append (a b : List Cd.Ins) : iv (a ++ b) = iv a ++ iv b := by simp [iv]
theorem iv_snoc (l : List Cd.Ins) (x : Cd.Ins) : iv l ++ [.int .i64 x.op, .int .i64 x.a, .int .i64 x.b, .int .i64 x.c] = iv (l ++ [x]) := by rw [iv_append]; simp [iv, ic]
theorem iv_length (l : List Cd.Ins) : (iv l).length = l.length * 4 := by
  induction l with
  | nil => rfl
  | cons x l ih => rw [iv_cons, List.length_append, ih, List.length_cons]; simp only [ic, List.length_cons, List.length_nil]; omega
theorem iv_at {l : List Cd.Ins} {k : Nat} (h : k < l.length) : (iv l)[k * 4]? = some (.int .i64 l[k].op) ∧ (iv l)[k * 4 + 1]? = some (.int .i64 l[k].a) ∧ (iv l)[k * 4 + 2]? = some (.int .i64 l[k].b) ∧ (iv l)[k * 4 + 3]? = some (.int .i64 l[k].c) := by
  induction l generalizing k with
  | nil => simp at h
  | cons a l ih =>
    rw [iv_cons]
    rcases k with _ | k
    · exact ⟨rfl, rfl, rfl, rfl⟩
    · have := ih (k := k) (by simpa using h)
      rw [show (k + 1) * 4 = (ic a).length + k * 4 by simp [ic]; omega, List.getElem?_append_right (by omega), List.getElem?_append_right (by omega), List.getElem?_append_right (by omega), List.getElem?_append_right (by omega)]
      simp only [List.getElem_cons_succ]
      rw [show (ic a).length + k * 4 - (ic a).length = k * 4 by omega, show (ic a).length + k * 4 + 1 - (ic a).length = k * 4 + 1 by omega, show (ic a).length + k * 4 + 2 - (ic a).length = k * 4 + 2 by omega, show (ic a).length + k * 4 + 3 - (ic a).length = k * 4 + 3 by omega]
      exact this
theorem iv_one (l : List Cd.Ins) : ∀ u ∈ iv l, u.oneCell' = true := by
  intro u hu
  simp only [iv, List.mem_flatMap] at hu
  obtain ⟨a, _, hu⟩ := hu
  simp only [ic, List.mem_cons, List.not_mem_nil, or_false] at hu
  rcases hu with rfl | rfl | rfl | rfl <;> rfl

/-- The slice of address A and n instructions reads as l. -/
def Inss (w : World) (B : Nat) (A : Option Addr) (n : Nat) (l : List Cd.Ins) : Prop := l.length = n ∧ Row w B 4 A n (iv l)
section
variable {w w' : World} {B B' n : Nat} {A : Option Addr} {l : List Cd.Ins}
theorem Inss.len (h : Inss w B A n l) : l.length = n := h.1
theorem Inss.row (h : Inss w B A n l) : Row w B 4 A n (iv l) := h.2
theorem Inss.nil : Inss w B A 0 [] := ⟨rfl, Row.nil⟩
theorem Inss.mono (h : Inss w B A n l) (hB : B ≤ B') : Inss w B' A n l := ⟨h.1, h.2.mono hB⟩
theorem Inss.below (h : Inss w B A n l) (hb : Below B w w') : Inss w' B A n l := ⟨h.1, h.2.below hb⟩
theorem Inss.belowLe {C : Nat} (h : Inss w B A n l) (hb : Below C w w') (hC : B ≤ C) : Inss w' B A n l := h.below (hb.mono hC)
theorem Inss.drew (h : Inss w B A n l) : Inss w.drew B A n l := h
theorem Inss.drewN (h : Inss w B A n l) (q : Nat) : Inss (w.drewN q) B A n l := h
theorem Inss.alloc (h : Inss w B A n l) (hB : B ≤ w.heap.size) (o : Obj) : Inss (w.alloc o) B A n l := ⟨h.1, h.2.alloc hB o⟩
theorem Inss.of_own {base : Nat} {e : TypeId} {c : Nat} (h : w.ownsRow base e 4 (.slice A n c) n (iv l)) : Inss w w.heap.size A n l := ⟨by have := h.1; rw [iv_length] at this; omega, Row.of_own h⟩
/-- The i-th instruction, where it lies. -/
theorem Inss.at_ (h : Inss w B A n l) {i : Nat} (hi : i < n) : ∃ b o, ∃ hl : i < l.length, A = some ⟨b, o, none⟩ ∧ b < B ∧ w.cell? ⟨b, o + i * 4, none⟩ = some (.int .i64 l[i].op) ∧ w.cell? ⟨b, o + i * 4 + 1, none⟩ = some (.int .i64 l[i].a) ∧
    w.cell? ⟨b, o + i * 4 + 2, none⟩ = some (.int .i64 l[i].b) ∧ w.cell? ⟨b, o + i * 4 + 3, none⟩ = some (.int .i64 l[i].c) := by
  have hl : i < l.length := by rw [h.1]; exact hi
  obtain ⟨h0, h1, h2, h3⟩ := iv_at hl
  obtain ⟨b, o, e, hb, hc⟩ := h.2.rd.at_ h0
  have hR := h.2.rd
  subst e
  obtain ⟨b', o', e', _, hall⟩ := hR (by intro hx; rw [hx] at h0; simp at h0)
  simp only [Option.some.injEq, Addr.mk.injEq, and_true] at e'
  obtain ⟨rfl, rfl⟩ := e'
  exact ⟨_, _, hl, rfl, hb, hc, by rw [Nat.add_assoc]; exact hall _ _ h1, by rw [Nat.add_assoc]; exact hall _ _ h2, by rw [Nat.add_assoc]; exact hall _ _ h3⟩
end
theorem own_inss {w : World} {base n : Nat} {e : TypeId} {v : Value} {l : List Cd.Ins} (h : w.ownsRow base e 4 v n (iv l)) : l.length = n := by have := h.1; rw [iv_length] at this; omega

theorem insTy : ElemTy Try.prog 24 84 4 32 := by
  obtain ⟨i0, hi, hz0, hz1, hz2⟩ := info_parts (show (Try.prog.info? 84).map (fun i => (i.zero, i.size, i.bytes)) = some (some (.agg #[.int .i64 0, .int .i64 0, .int .i64 0, .int .i64 0]), 4, 32) by kernel_rfl)
  exact ⟨i0, _, Try.underlying24, hi, hz0, hz1, hz2, rfl, by omega⟩

theorem Row.four (w : World) (x : Cd.Ins) (t : TypeId) : Row (w.alloc (.cells #[.int .i64 x.op, .int .i64 x.a, .int .i64 x.b, .int .i64 x.c] t)) (w.heap.size + 1) 4 (some ⟨w.heap.size, 0, none⟩) 1 [.int .i64 x.op, .int .i64 x.a, .int .i64 x.b, .int .i64 x.c] :=
  ⟨by simp, by simp, (Row.list w [.int .i64 x.op, .int .i64 x.a, .int .i64 x.b, .int .i64 x.c] t).rd⟩
theorem results_cell_1 {P : Program} {w : World} {fn : Func} {p : Tmp} {ty : TypeId} (hr : fn.results = #[.cell p ty]) (tmps : Array Value) {b : Nat} {t : TypeId} {cs : Array Value} {d : TypeDesc}
    (hp : tmps.getD p undef = .pointer (some ⟨b, 0, none⟩)) (h : Obl w b t cs) (hu : P.underlying ty = some d) (hd : (match d with | .struct _ | .array _ _ => true | _ => false) = true) (hi : (P.info? ty).map (·.size) = some cs.size) :
    (results fn tmps).run P w = .ok (.agg cs) w := by
  have hp' : tmps[p]?.getD undef = .pointer (some ⟨b, 0, none⟩) := by simpa using hp
  simp [results, hr, hp', asAddr, h.load hu hd hi]
/-- A program, as a value: two slices and a number. -/
def pa (A : Option Addr) (n c : Nat) (D : Option Addr) (m d : Nat) (pages : Int) : Value := .agg #[.slice A n c, .slice D m d, .int .i64 pages]
theorem insSize : (Try.prog.info? 84).map (·.size) = some 4 := by kernel_rfl
theorem prSize : (Try.prog.info? 27).map (·.size) = some 3 := by kernel_rfl
/-- The program's block holds 'cells'; the rows of instructions and strings are its own. -/
def RqP (w : World) (base b : Nat) (cells : Array Value) (A : Option Addr) (n c : Nat) (D : Option Addr) (m d : Nat) (code : List Cd.Ins) (strs : List (List UInt8)) : Prop :=
  Obl w b 27 cells ∧ base ≤ w.heap.size ∧ w.ownsRow base 84 4 (.slice A n c) n (iv code) ∧ w.ownsRow base 9 1 (.slice D m d) m (sv strs)
section
variable {w w' : World} {base b n c m d : Nat} {cells : Array Value} {A D : Option Addr} {code : List Cd.Ins} {strs : List (List UInt8)}
theorem RqP.below (h : RqP w base b cells A n c D m d code strs) (hb : Below w.heap.size w w') : RqP w' base b cells A n c D m d code strs := ⟨h.1.below hb h.1.lt, Nat.le_trans h.2.1 hb.size, own_below h.2.2.1 hb, own_below h.2.2.2 hb⟩
theorem RqP.alloc (h : RqP w base b cells A n c D m d code strs) (o : Obj) : RqP (w.alloc o) base b cells A n c D m d code strs := h.below ((Below.refl _ _).alloc (Nat.le_refl _) _)
theorem RqP.put (h : RqP w base b cells A n c D m d code strs) (i : Nat) (u : Value) : RqP (w.setCell ⟨b, i, none⟩ u) base b (cells.setIfInBounds i u) A n c D m d code strs := by
  refine ⟨h.1.put i u, by simpa [World.setCell] using h.2.1, ownsRow_setCell_other h.2.2.1 ?_ u, ownsRow_setCell_other h.2.2.2 ?_ u⟩
  · rw [ownBlock_slice]; exact fun e => h.1.apart h.2.2.1 (by decide) e.symm
  · rw [ownBlock_slice]; exact fun e => h.1.apart h.2.2.2 (by decide) e.symm
theorem RqP.withStrs (h : RqP w base b cells A n c D m d code strs) (hg : w.grownBy w' (blk D)) {D' : Option Addr} {m' d' : Nat} {strs' : List (List UInt8)} (hown : w'.ownsRow base 9 1 (.slice D' m' d') m' (sv strs')) : RqP w' base b cells A n c D' m' d' code strs' :=
  ⟨h.1.grown hg (h.1.apart h.2.2.2 (by decide)), Nat.le_trans h.2.1 hg.size, h.2.2.1.kept hg (own_apart h.2.2.1 h.2.2.2 (by decide)), hown⟩
theorem RqP.withCode (h : RqP w base b cells A n c D m d code strs) (hg : w.grownBy w' (blk A)) {A' : Option Addr} {n' c' : Nat} {code' : List Cd.Ins} (hown : w'.ownsRow base 84 4 (.slice A' n' c') n' (iv code')) : RqP w' base b cells A' n' c' D m d code' strs :=
  ⟨h.1.grown hg (h.1.apart h.2.2.1 (by decide)), Nat.le_trans h.2.1 hg.size, hown, h.2.2.2.kept hg (own_apart h.2.2.2 h.2.2.1 (by decide))⟩
end
end Go.Proofs.Ytddbohnappogkaa
