/- Layer 10, package table: copied: a contract. (Written by tools/mktbcopied.py.) -/
import Derived.Test.YthaolmcppfjedaaTbClone
import Derived.Test.YthaolmcppfjedaaRegionD
namespace Go.Proofs.Ythaolmcppfjedaa
open Go.RowKit

theorem start_pp (W : World) (o : Ob) : ∃ w1, (W.alloc (.cells (pcell o) 34)).alloc (.cells #[.int .i64 0, .int .u64 0, .slice none 0 0, .slice none 0 0, .slice none 0 0, .int .i64 0, .int .i64 0, .int .i64 0, .int .i64 0, .int .i64 0, .int .i64 0, .int .i64 0, .int .i64 0, .int .i64 0, .int .i64 0, .slice none 0 0, .slice none 0 0, .int .i64 0, .int .i64 0, .int .i64 0] 34) = w1 ∧
    Obl w1 W.heap.size 34 (pcell o) ∧ Obl w1 (W.heap.size + 1) 34 (pcell Ob.zero) ∧ Below W.heap.size W w1 ∧ w1.heap.size = W.heap.size + 2 := by
  refine ⟨_, rfl, (Obl.make W _ _).alloc _, ?_, ((Below.refl _ _).alloc (Nat.le_refl _) _).alloc (by simp) _, by simp⟩
  have := Obl.make (W.alloc (.cells (pcell o) 34)) 34 (pcell Ob.zero)
  rwa [World.size_alloc] at this
theorem Stays.lower {lo lo' : Nat} {w : World} {P : World → Prop} (h : Stays lo w P) (hl : lo' ≤ lo) : Stays lo' w P := fun u hu => h u ⟨hu.1, fun k h1 h2 => hu.2 k (by omega) h2⟩
theorem Owns.weaken {w : World} {lo lo' : Nat} {c : Ob} {X : Cont} (h : Owns w lo c X) (hl : lo' ≤ lo) : Owns w lo' c X := ⟨own_weaken h.children hl, own_weaken h.code hl, own_weaken h.strs hl, own_weaken h.pages hl, own_weaken h.table hl⟩
/-- A process with other lists. -/
def Ob.reproc (o c : Ob) : Ob := { o with children := c.children, code := c.code, strs := c.strs, pages := c.pages, table := c.table }
/-- The process again, with lists of its own. -/
def ProcPost (o : Ob) (X : Cont) (w : World) (e : Ending) (w' : World) : Prop := ∃ c, e = .returned (.agg (pcell (o.reproc c))) ∧ Stays w.heap.size w' (fun u => Owns u w.heap.size c X) ∧ Below w.heap.size w w'
theorem pcell_children (o : Ob) (A : Option Addr) (n c : Nat) : (pcell o).setIfInBounds 2 (.slice A n c) = pcell { o with children := ⟨A, n, c⟩ } := by simp [pcell, pcs]
theorem pcell_code (o : Ob) (A : Option Addr) (n c : Nat) : (pcell o).setIfInBounds 3 (.slice A n c) = pcell { o with code := ⟨A, n, c⟩ } := by simp [pcell, pcs]
theorem pcell_strs (o : Ob) (A : Option Addr) (n c : Nat) : (pcell o).setIfInBounds 4 (.slice A n c) = pcell { o with strs := ⟨A, n, c⟩ } := by simp [pcell, pcs]
theorem pcell_pages (o : Ob) (A : Option Addr) (n c : Nat) : (pcell o).setIfInBounds 15 (.slice A n c) = pcell { o with pages := ⟨A, n, c⟩ } := by simp [pcell, pcs]
theorem pcell_table (o : Ob) (A : Option Addr) (n c : Nat) : (pcell o).setIfInBounds 16 (.slice A n c) = pcell { o with table := ⟨A, n, c⟩ } := by simp [pcell, pcs]
theorem oc_words (o : Ob) (A : Option Addr) (n c : Nat) : (oc o).setIfInBounds 23 (.slice A n c) = oc { o with words := ⟨A, n, c⟩ } := by simp [oc, ocl, pcs]
theorem oc_data (o : Ob) (A : Option Addr) (n c : Nat) : (oc o).setIfInBounds 24 (.slice A n c) = oc { o with data := ⟨A, n, c⟩ } := by simp [oc, ocl, pcs]
theorem oc_backlog (o : Ob) (A : Option Addr) (n c : Nat) : (oc o).setIfInBounds 29 (.slice A n c) = oc { o with backlog := ⟨A, n, c⟩ } := by simp [oc, ocl, pcs]
theorem oc_q0 (o : Ob) (A : Option Addr) (n c : Nat) : (oc o).setIfInBounds 30 (.slice A n c) = oc { o with q0 := ⟨A, n, c⟩ } := by simp [oc, ocl, pcs]
theorem oc_q1 (o : Ob) (A : Option Addr) (n c : Nat) : (oc o).setIfInBounds 31 (.slice A n c) = oc { o with q1 := ⟨A, n, c⟩ } := by simp [oc, ocl, pcs]
theorem oc_names (o : Ob) (A : Option Addr) (n c : Nat) : (oc o).setIfInBounds 35 (.slice A n c) = oc { o with names := ⟨A, n, c⟩ } := by simp [oc, ocl, pcs]
theorem exec_load_proc0 {w : World} {a : Act} {o : Oper} {x : Operand} (ho : o.op = .load 34 x) {g : Nat} (hx : a.eval x = .pointer (some ⟨g, 0, none⟩)) {t : TypeId} {y : Ob} (h : Obl w g t (pcell y)) :
    (execOp a.eval o).run Try.prog w = .ok (.value (.agg (pcell y))) w := exec_load_row ho hx h rfl Try.underlying34 procSize
theorem store_proc {ops : Array Oper} {rest : List Oper} {o : Oper} {a : Act} {w : World} {Q : Exit → Act → World → Prop} (hgd : o.guard = none) (x y : Operand) (ho : o.op = .store 34 x y) {g : Nat} (hx : a.eval x = .pointer (some ⟨g, 0, none⟩)) {c : Ob} (hy : a.eval y = .agg (pcell c)) {old : Array Value} {t : TypeId} (h : Obl w g t old) (hold : old.size = 20)
    (hK : wpList Try.prog ops Q rest (a.put o.dst undef) (w.setRow g (pcell c))) : wpList Try.prog ops Q (o :: rest) a w :=
  wpList_store_row hgd _ x y ho g _ hx hy t old h procSize hold (pcell_one c) hK
theorem ret_proc {w : World} {fn : Func} {p : Tmp} (hr : fn.results = #[.cell p 34]) (tmps : Array Value) {g : Nat} (hp : tmps.getD p undef = .pointer (some ⟨g, 0, none⟩)) {y : Ob} {t : TypeId} (h : Obl w g t (pcell y)) :
    (results fn tmps).run Try.prog w = .ok (.agg (pcell y)) w := results_cell_1 hr tmps hp h Try.underlying34 rfl procSize
end Go.Proofs.Ythaolmcppfjedaa
