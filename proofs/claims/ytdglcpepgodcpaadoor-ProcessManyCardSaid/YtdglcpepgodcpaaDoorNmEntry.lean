/- The reference of name spaces: which strings are paths: a contract. | Layer 9, how entries lie in memory, with what they hold. | The reference of name spaces: which are right, copies: contracts (written by tools/mkentry.py). -/
import Derived.Test.YtdglcpepgodcpaaDoorObMem
import Derived.Test.YtdglcpepgodcpaaDoorNxMath
import Derived.Test.YtdglcpepgodcpaaDoorObOwn
import Derived.Test.YtdglcpepgodcpaaDoorIdTy
namespace Go.Proofs.YtdglcpepgodcpaaDoor
open Go.RowKit

/-- Some answer, and nothing else. -/
def BoolSame (w : World) (e : Ending) (w' : World) : Prop := ∃ v, e = .returned (.bool v) ∧ w' = w
/-- A counter from lo to n. -/
def AtPlace (lo n : Nat) (s : Value) : Prop := ∃ k : Nat, s = .int .i64 (k : Int) ∧ lo ≤ k ∧ k ≤ n
theorem str_getD {s : ByteArray} {k : Nat} (h : k < s.size) : s.data.toList.getD k 0 = s[k] := by rw [List.getD_eq_getElem?_getD, str_at h]; rfl
/-- A yes or no, and nothing else. -/
def YesNo (b : Bool) (w : World) (e : Ending) (w' : World) : Prop := e = .returned (.bool b) ∧ w' = w
theorem YesNo.no {p : Prop} [Decidable p] (h : ¬ p) (w : World) : YesNo (decide p) w (.returned (.bool false)) w := ⟨by rw [decide_eq_false h], rfl⟩
theorem YesNo.yes {p : Prop} [Decidable p] (h : p) (w : World) : YesNo (decide p) w (.returned (.bool true)) w := ⟨by rw [decide_eq_true h], rfl⟩
end Go.Proofs.YtdglcpepgodcpaaDoor
namespace Go.Proofs.YtdglcpepgodcpaaDoor
open Go.RowKit

/-- The slice of address A and n entries reads as l, and l holds E. -/
def Ents (w : World) (B : Nat) (A : Option Addr) (n : Nat) (l : List Nm) (E : List Nx.Ent) : Prop :=
  Nms w B A n l ∧ E.length = n ∧ ∀ (k : Nat) (h : k < l.length) (h' : k < E.length), l[k].path = E[k].path ∧ l[k].kind = E[k].kind ∧ Nums .u64 w B l[k].ids.A l[k].ids.n E[k].ids
section
variable {w w' : World} {B B' n : Nat} {A : Option Addr} {l : List Nm} {E : List Nx.Ent}
theorem Ents.nms (h : Ents w B A n l E) : Nms w B A n l := h.1
theorem Ents.len (h : Ents w B A n l E) : E.length = n := h.2.1
theorem Ents.nil : Ents w B A 0 [] [] := ⟨Nms.nil, rfl, fun k h => by simp at h⟩
theorem Ents.mono (h : Ents w B A n l E) (hB : B ≤ B') : Ents w B' A n l E := ⟨h.1.mono hB, h.2.1, fun k h1 h2 => ⟨(h.2.2 k h1 h2).1, (h.2.2 k h1 h2).2.1, (h.2.2 k h1 h2).2.2.mono hB⟩⟩
theorem Ents.below (h : Ents w B A n l E) (hb : Below B w w') : Ents w' B A n l E := ⟨h.1.below hb, h.2.1, fun k h1 h2 => ⟨(h.2.2 k h1 h2).1, (h.2.2 k h1 h2).2.1, (h.2.2 k h1 h2).2.2.below hb⟩⟩
theorem Ents.later (h : Ents w w.heap.size A n l E) (hb : Below w.heap.size w w') : Ents w' w'.heap.size A n l E := (h.below hb).mono hb.size
/-- Entries hold something. -/
theorem Nms.ents (h : Nms w B A n l) : ∃ E, Ents w B A n l E := by
  have h0 := h.1
  have hall : ∀ m, m ≤ l.length → ∃ E : List Nx.Ent, E.length = m ∧ ∀ (k : Nat) (h : k < l.length) (h' : k < E.length), l[k].path = E[k].path ∧ l[k].kind = E[k].kind ∧ Nums .u64 w B l[k].ids.A l[k].ids.n E[k].ids := by
    intro m
    induction m with
    | zero => exact fun _ => ⟨[], rfl, fun k h1 h2 => by simp at h2⟩
    | succ m ih =>
      intro hm
      obtain ⟨E, hE, hk⟩ := ih (by omega)
      obtain ⟨I, hI⟩ := h.2.2 _ (List.getElem_mem (show m < l.length by omega))
      refine ⟨E ++ [⟨l[m].path, l[m].kind, I⟩], by simp [hE], fun k h1 h2 => ?_⟩
      by_cases hkm : k < m
      · rw [List.getElem_append_left (by omega)]
        exact hk k h1 (by omega)
      · have : k = m := by simp [hE] at h2; omega
        subst this
        rw [List.getElem_append_right (by omega)]
        simp only [hE, Nat.sub_self, List.getElem_cons_zero]
        exact ⟨trivial, trivial, hI⟩
  obtain ⟨E, hE, hk⟩ := hall l.length (Nat.le_refl _)
  exact ⟨E, h, by omega, hk⟩
theorem Ents.ent (h : Ents w B A n l E) {k : Nat} (hk : k < n) : ∃ (h1 : k < l.length) (h2 : k < E.length), (⟨l[k].path, l[k].kind, E[k].ids⟩ : Nx.Ent) = E[k] ∧ Nums .u64 w B l[k].ids.A l[k].ids.n E[k].ids := by
  have h1 : k < l.length := by have := h.1.1; omega
  have h2 : k < E.length := by have := h.2.1; omega
  obtain ⟨a, b, c⟩ := h.2.2 k h1 h2
  exact ⟨h1, h2, by rw [a, b], c⟩
end
/-- A name space. -/
def Ob.Names (o : Ob) (E : List Nx.Ent) : Prop := o.kind = 10 ∧ o.id = 1 ∧ o.names.n ≤ 256 ∧ Nx.Space E ∧ ({ o with names := ⟨none, 0, 0⟩ } : Ob).Clear
instance (o : Ob) (E : List Nx.Ent) : Decidable (o.Names E) := by unfold Ob.Names; infer_instance
end Go.Proofs.YtdglcpepgodcpaaDoor
namespace Go.Proofs.YtdglcpepgodcpaaDoor
open Go.RowKit

theorem nmSize : (Tryd.prog.info? 123).map (·.size) = some 3 := by kernel_rfl
/-- Some answer; what was there is there. -/
def SomeAns (w : World) (e : Ending) (w' : World) : Prop := ∃ v, e = .returned (.bool v) ∧ Below w.heap.size w w'
def AtK (n : Nat) (s : Value) : Prop := ∃ k : Nat, s = .int .i64 (k : Int) ∧ k ≤ n
/-- Entries, loaded and stored whole. -/
def nc (x : Nm) : Array Value := #[.string ⟨x.path.toArray⟩, .int .i64 x.kind, .slice x.ids.A x.ids.n x.ids.c]
theorem nc_one (x : Nm) : (nc x).all (·.oneCell') = true := by simp [nc, Value.oneCell']
section
variable {ops : Array Oper} {rest : List Oper} {o : Oper} {a : Act} {w : World} {Q : Exit → Act → World → Prop}
theorem load_nm (hgd : o.guard = none) (x : Operand) (ho : o.op = .load 123 x) {g : Nat} (hx : a.eval x = .pointer (some ⟨g, 0, none⟩)) {y : Nm} {t : TypeId} (h : Obl w g t (nc y))
    (hK : wpList Tryd.prog ops Q rest (a.put o.dst (.agg (nc y))) w) : wpList Tryd.prog ops Q (o :: rest) a w :=
  wpList_load_row hgd _ x ho g hx t (nc y) (0, 0) _ h Tryd.underlying123 rfl nmSize hK
theorem store_nm (hgd : o.guard = none) (x y : Operand) (ho : o.op = .store 123 x y) {g : Nat} (hx : a.eval x = .pointer (some ⟨g, 0, none⟩)) {c : Nm} (hy : a.eval y = .agg (nc c)) {old : Array Value} {t : TypeId} (h : Obl w g t old) (hold : old.size = 3)
    (hK : wpList Tryd.prog ops Q rest (a.put o.dst undef) (w.setRow g (nc c))) : wpList Tryd.prog ops Q (o :: rest) a w :=
  wpList_store_row hgd _ x y ho g (nc c) hx hy t old h nmSize hold (nc_one c) hK
theorem exec_load_nm {x : Operand} (ho : o.op = .load 123 x) {g : Nat} (hx : a.eval x = .pointer (some ⟨g, 0, none⟩)) {t : TypeId} {y : Nm} (h : Obl w g t (nc y)) :
    (execOp a.eval o).run Tryd.prog w = .ok (.value (.agg (nc y))) w := exec_load_row ho hx h rfl Tryd.underlying123 nmSize
theorem ret_nm {fn : Func} {p : Tmp} (hr : fn.results = #[.cell p 123]) (tmps : Array Value) {g : Nat} (hp : tmps.getD p undef = .pointer (some ⟨g, 0, none⟩)) {y : Nm} {t : TypeId} (h : Obl w g t (nc y)) :
    (results fn tmps).run Tryd.prog w = .ok (.agg (nc y)) w := results_cell_1 hr tmps hp h Tryd.underlying123 rfl nmSize
theorem ret_nm2 {fn : Func} {p u : Tmp} (hr : fn.results = #[.cell p 123, .tmp u]) (tmps : Array Value) {g : Nat} (hp : tmps.getD p undef = .pointer (some ⟨g, 0, none⟩)) {y : Nm} {t : TypeId} (h : Obl w g t (nc y)) :
    (results fn tmps).run Tryd.prog w = .ok (.tuple #[.agg (nc y), tmps.getD u undef]) w := results_cell_2 hr tmps hp h Tryd.underlying123 rfl nmSize
end
/-- An entry that came back, its identifiers copied. -/
def CopiedIs (x : Nm) (I : List Int) (w : World) (e : Ending) (w' : World) : Prop := ∃ A c, e = .returned (.agg (nc ⟨x.path, x.kind, ⟨A, x.ids.n, c⟩⟩)) ∧ w'.ownsRow w.heap.size 24 1 (.slice A x.ids.n c) x.ids.n (nv .u64 I) ∧ Below w.heap.size w w'
def CopiedPost (x : Nm) (w : World) (e : Ending) (w' : World) : Prop := ∃ A c I, e = .returned (.agg (nc ⟨x.path, x.kind, ⟨A, x.ids.n, c⟩⟩)) ∧ w'.ownsRow w.heap.size 24 1 (.slice A x.ids.n c) x.ids.n (nv .u64 I) ∧ Below w.heap.size w w'
end Go.Proofs.YtdglcpepgodcpaaDoor
