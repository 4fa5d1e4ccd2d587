/- Texts in one: TbProc, QMem, TbCopied, Same, SameFull, SameProc, Keep, KeepOb, PrMem, SgMath, KoMath, ValOr, Num, CodeMem, CodeOps, CodeCheck, WordsRead, WordsSplit, WordsRef, CodeEq, CodeSame, SpValid, SgOps, ChMath, ChIds, OwnSets, SpFind, SpMade, SpPrivate, SpAttach, NumsT, SpReplace, StMem, ObSlice. -/
import Derived.Test.YtdglcpepgodcpaaDoorTbClone
import Derived.Test.YtdglcpepgodcpaaDoorRegionD
import Derived.Test.YtdglcpepgodcpaaDoorObMem
import Derived.Test.YtdglcpepgodcpaaDoorOb
import Derived.Deep.QuietTactic
import Derived.BigQuiet
import Derived.Test.YtdglcpepgodcpaaDoorNmEntry
import Derived.Test.YtdglcpepgodcpaaDoorRegionX
import Derived.Test.YtdglcpepgodcpaaDoorTbCont
import Derived.Test.YtdglcpepgodcpaaDoorIns
import Derived.WalkKit
import Derived.Test.YtdglcpepgodcpaaDoorNmValid
import Derived.Test.YtdglcpepgodcpaaDoorVal
import Derived.Test.YtdglcpepgodcpaaDoorNumMath
import Derived.Test.YtdglcpepgodcpaaDoorShelf
import Derived.Lib.AppendIntMem
import Derived.Lib.ConvBytes
import Derived.WalkSmall
import Derived.Stop.LaidErr
import Derived.Test.YtdglcpepgodcpaaDoorAgg
import Derived.Handy
import Derived.Test.YtdglcpepgodcpaaDoorStrTy
import Derived.Test.YtdglcpepgodcpaaDoorProg
import Derived.Test.YtdglcpepgodcpaaDoorLib
import Derived.Test.YtdglcpepgodcpaaDoorWordsMath
import Derived.Test.YtdglcpepgodcpaaDoorStr
import Derived.KernelRfl
import Derived.OneCell
import Derived.Laws.Rows
import Derived.RegionTactic
import Derived.Deep.RegionLaw
import Derived.Test.YtdglcpepgodcpaaDoorSpMem
import Derived.Test.YtdglcpepgodcpaaDoorIdTy
import Derived.Test.YtdglcpepgodcpaaDoorRowMem
import Derived.Test.YtdglcpepgodcpaaDoorRowNil
import Derived.Test.YtdglcpepgodcpaaDoorObOwn
namespace Go.Proofs.YtdglcpepgodcpaaDoor
open Go.RowKit

theorem start_pp (W : World) (o : Ob) : ∃ w1, (W.alloc (.cells (pcell o) 36)).alloc (.cells #[.int .i64 0, .int .u64 0, .slice none 0 0, .slice none 0 0, .slice none 0 0, .int .i64 0, .int .i64 0, .int .i64 0, .int .i64 0, .int .i64 0, .int .i64 0, .int .i64 0, .int .i64 0, .int .i64 0, .int .i64 0, .slice none 0 0, .slice none 0 0, .int .i64 0, .int .i64 0, .int .i64 0] 36) = w1 ∧
    Obl w1 W.heap.size 36 (pcell o) ∧ Obl w1 (W.heap.size + 1) 36 (pcell Ob.zero) ∧ Below W.heap.size W w1 ∧ w1.heap.size = W.heap.size + 2 := by
  refine ⟨_, rfl, (Obl.make W _ _).alloc _, ?_, ((Below.refl _ _).alloc (Nat.le_refl _) _).alloc (by simp) _, by simp⟩
  have := Obl.make (W.alloc (.cells (pcell o) 36)) 36 (pcell Ob.zero)
  rwa [World.size_alloc] at this
theorem Stays.lower {lo lo' : Nat} {w : World} {P : World → Prop} (h : Stays lo w P) (hl : lo' ≤ lo) : Stays lo' w P := fun u hu => h u ⟨hu.1, fun k h1 h2 => hu.2 k (by omega) h2⟩
theorem Owns.weaken {w : World} {lo lo' : Nat} {c : Ob} {X : Cont} (h : Owns w lo c X) (hl : lo' ≤ lo) : Owns w lo' c X := ⟨own_weaken h.children hl, own_weaken h.code hl, own_weaken h.strs hl, own_weaken h.pages hl, own_weaken h.table hl⟩
/-- A process with other lists. -/
def Ob.reproc (o c : Ob) : Ob := { o with children := c.children, code := c.code, strs := c.strs, pages := c.pages, table := c.table }
/-- The process again, with lists of its own. -/
def ProcPost (o : Ob) (X : Cont) (w : World) (e : Ending) (w' : World) : Prop := ∃ c, e = .returned (.agg (pcell (o.reproc c))) ∧ Stays w.heap.size w' (fun u => Owns u w.heap.size c X) ∧ Below w.heap.size w w'
theorem pcell_children (o : Ob) (A : Option Addr) (n c : Nat) : (pcell o).setIfInBounds 2 (.slice A n c) = pcell { o with children := ⟨A, n, c⟩ } := by simp [pcell, pcs]
theorem pcell_code (o : Ob) (A : Option Addr) (n c : Nat) : (pcell o).setIfInBounds 3 (.slice A n c) = pcell { o with code := ⟨A, n, c⟩ } := by simp [pcell, pcs]
theorem pcell_strs (o : Ob) (A : Option Addr) (n c : Nat) : (pcell o).setIfInBounds 4 (.slice A n c) = pcell { o with strs := ⟨A, n, c⟩ } := by simp [pcell, pcs]
theorem pcell_pages (o : Ob) (A : Option Addr) (n c : Nat) : (pcell o).setIfInBounds 15 (.slice A n c) = pcell { o with pages := ⟨A, n, c⟩ } := by simp [pcell, pcs]
theorem pcell_table (o : Ob) (A : Option Addr) (n c : Nat) : (pcell o).setIfInBounds 16 (.slice A n c) = pcell { o with table := ⟨A, n, c⟩ } := by simp [pcell, pcs]
theorem oc_words (o : Ob) (A : Option Addr) (n c : Nat) : (oc o).setIfInBounds 23 (.slice A n c) = oc { o with words := ⟨A, n, c⟩ } := by simp [oc, ocl, pcs]
theorem oc_data (o : Ob) (A : Option Addr) (n c : Nat) : (oc o).setIfInBounds 24 (.slice A n c) = oc { o with data := ⟨A, n, c⟩ } := by simp [oc, ocl, pcs]
theorem oc_backlog (o : Ob) (A : Option Addr) (n c : Nat) : (oc o).setIfInBounds 29 (.slice A n c) = oc { o with backlog := ⟨A, n, c⟩ } := by simp [oc, ocl, pcs]
theorem oc_q0 (o : Ob) (A : Option Addr) (n c : Nat) : (oc o).setIfInBounds 30 (.slice A n c) = oc { o with q0 := ⟨A, n, c⟩ } := by simp [oc, ocl, pcs]
theorem oc_q1 (o : Ob) (A : Option Addr) (n c : Nat) : (oc o).setIfInBounds 31 (.slice A n c) = oc { o with q1 := ⟨A, n, c⟩ } := by simp [oc, ocl, pcs]
theorem oc_names (o : Ob) (A : Option Addr) (n c : Nat) : (oc o).setIfInBounds 35 (.slice A n c) = oc { o with names := ⟨A, n, c⟩ } := by simp [oc, ocl, pcs]
theorem exec_load_proc0 {w : World} {a : Act} {o : Oper} {x : Operand} (ho : o.op = .load 36 x) {g : Nat} (hx : a.eval x = .pointer (some ⟨g, 0, none⟩)) {t : TypeId} {y : Ob} (h : Obl w g t (pcell y)) :
    (execOp a.eval o).run Tryd.prog w = .ok (.value (.agg (pcell y))) w := exec_load_row ho hx h rfl Tryd.underlying36 procSize
theorem store_proc {ops : Array Oper} {rest : List Oper} {o : Oper} {a : Act} {w : World} {Q : Exit → Act → World → Prop} (hgd : o.guard = none) (x y : Operand) (ho : o.op = .store 36 x y) {g : Nat} (hx : a.eval x = .pointer (some ⟨g, 0, none⟩)) {c : Ob} (hy : a.eval y = .agg (pcell c)) {old : Array Value} {t : TypeId} (h : Obl w g t old) (hold : old.size = 20)
    (hK : wpList Tryd.prog ops Q rest (a.put o.dst undef) (w.setRow g (pcell c))) : wpList Tryd.prog ops Q (o :: rest) a w :=
  wpList_store_row hgd _ x y ho g _ hx hy t old h procSize hold (pcell_one c) hK
theorem ret_proc {w : World} {fn : Func} {p : Tmp} (hr : fn.results = #[.cell p 36]) (tmps : Array Value) {g : Nat} (hp : tmps.getD p undef = .pointer (some ⟨g, 0, none⟩)) {y : Ob} {t : TypeId} (h : Obl w g t (pcell y)) :
    (results fn tmps).run Tryd.prog w = .ok (.agg (pcell y)) w := results_cell_1 hr tmps hp h Tryd.underlying36 rfl procSize
end Go.Proofs.YtdglcpepgodcpaaDoor
namespace Go.Proofs.YtdglcpepgodcpaaDoor
open Go.RowKit

theorem obl_there {w : World} {g : Nat} {t : TypeId} {cs : Array Value} (h : Obl w g t cs) {i n : Nat} (hn : i + n ≤ cs.size) : w.there g i n := fun j hj => ⟨by rw [h.cell, Array.getElem?_eq_getElem (by omega)]; rfl, h.free _⟩
theorem qSize : (Tryd.prog.info? 38).map (·.size) = some 2 := by kernel_rfl
theorem two_mid (p : Nat → Option Value) (x y : Value) (h0 : p 0 = some x) (h1 : p 1 = some y) (j : Nat) (v : Value) (h : [x, y][j]? = some v) : p j = some v := by
  rcases j with _ | _ | j
  · simpa [h0] using h
  · simpa [h1] using h
  · simp at h
theorem exec_load_qs {w : World} {a : Act} {o : Oper} {x : Operand} (ho : o.op = .load 38 x) {g : Nat} (hx : a.eval x = .pointer (some ⟨g, 30, none⟩)) {t : TypeId} {y : Ob} (h : Obl w g t (oc y)) :
    (execOp a.eval o).run Tryd.prog w = .ok (.value (.agg #[.slice y.q0.A y.q0.n y.q0.c, .slice y.q1.A y.q1.n y.q1.c])) w :=
  exec_load_mid ho hx h [_, _] (two_mid (fun j => (oc y)[30 + j]?) _ _ rfl rfl) rfl Tryd.underlying38 qSize
theorem bytesSize1 : (Tryd.prog.info? 22).map (·.size) = some 1 := by kernel_rfl
theorem run_index_q {w : World} (u v x : Value) (k : Nat) (hk : k < 2) (hx : (#[u, v] : Array Value)[k]? = some x) : (Instr.index 38 (.agg #[u, v]) (.int .i64 (k : Int))).run Tryd.prog w = .ok x w := by
  have hsz : (sizeOf 22).run Tryd.prog w = .ok 1 w := by
    cases hq : Tryd.prog.info? 22 with
    | none => have := bytesSize1; simp [hq] at this
    | some i =>
      have hs : i.size = 1 := by have := bytesSize1; simpa [hq] using this
      simp [sizeOf, typeInfo, hq, hs]
  have hp : (part 22 #[u, v] (k * 1)).run Tryd.prog w = .ok x w := run_part_one Tryd.underlying22 rfl (by rw [Nat.mul_one]; exact hx)
  unfold Instr.index
  simp only [asIntOf, Sem.run_bind, Sem.run_pure, Result.andThen_ok, run_underlying Tryd.underlying38, Int.toNat_natCast]
  rw [if_pos (by omega)]
  simp only [Sem.run_bind, Result.andThen_ok, hsz, hp]
theorem exec_index_q {w : World} {a : Act} {o : Oper} {x i : Operand} (ho : o.op = .index 38 x i) {u v y : Value} (hx : a.eval x = .agg #[u, v]) (k : Nat) (hi : a.eval i = .int .i64 (k : Int)) (hk : k < 2) (hy : (#[u, v] : Array Value)[k]? = some y) :
    (execOp a.eval o).run Tryd.prog w = .ok (.value y) w := by
  unfold execOp
  simp only [ho, hx, hi, Sem.run_bind, run_index_q u v y k hk hy, Sem.run_pure, Result.andThen_ok]
/-- Two queues, two ends, as cells. -/
def qc (s t : Sl) : Array Value := #[.slice s.A s.n s.c, .slice t.A t.n t.c]
def Ob.qs (o : Ob) : Array Value := qc o.q0 o.q1
theorem qc_one (s t : Sl) : (qc s t).all (·.oneCell') = true := by simp [qc, Value.oneCell']
def ec (a b : Int) : Array Value := #[.int .i64 a, .int .i64 b]
def noSl : Sl := ⟨none, 0, 0⟩
theorem built_noqs : Tryd.prog.built 38 [] = some (qc noSl noSl) := by kernel_rfl
section
variable {ops : Array Oper} {rest : List Oper} {o : Oper} {a : Act} {w : World} {Q : Exit → Act → World → Prop}
theorem exec_load_q {x : Operand} (ho : o.op = .load 38 x) {g : Nat} (hx : a.eval x = .pointer (some ⟨g, 0, none⟩)) {t : TypeId} {s u : Sl} (h : Obl w g t (qc s u)) :
    (execOp a.eval o).run Tryd.prog w = .ok (.value (.agg (qc s u))) w := exec_load_row ho hx h rfl Tryd.underlying38 qSize
theorem load_q (hgd : o.guard = none) (x : Operand) (ho : o.op = .load 38 x) {g : Nat} (hx : a.eval x = .pointer (some ⟨g, 0, none⟩)) {t : TypeId} {s u : Sl} (h : Obl w g t (qc s u))
    (hK : wpList Tryd.prog ops Q rest (a.put o.dst (.agg (qc s u))) w) : wpList Tryd.prog ops Q (o :: rest) a w :=
  wpList_load_row hgd _ x ho g hx t (qc s u) (0, 0) _ h Tryd.underlying38 rfl qSize hK
theorem load_qs (hgd : o.guard = none) (x : Operand) (ho : o.op = .load 38 x) {g : Nat} (hx : a.eval x = .pointer (some ⟨g, 30, none⟩)) {t : TypeId} {y : Ob} (h : Obl w g t (oc y))
    (hK : wpList Tryd.prog ops Q rest (a.put o.dst (.agg y.qs)) w) : wpList Tryd.prog ops Q (o :: rest) a w :=
  wpList_val (by simp only [Region.wanted, hgd]) (exec_load_qs ho hx h) hK
theorem load_ends (hgd : o.guard = none) (x : Operand) (ho : o.op = .load 39 x) {g : Nat} (hx : a.eval x = .pointer (some ⟨g, 32, none⟩)) {t : TypeId} {y : Ob} (h : Obl w g t (oc y))
    (hK : wpList Tryd.prog ops Q rest (a.put o.dst (.agg (nv .i64 [y.e0, y.e1]).toArray)) w) : wpList Tryd.prog ops Q (o :: rest) a w :=
  wpList_val (by simp only [Region.wanted, hgd]) (exec_load_ends ho hx h) hK
theorem store_q (hgd : o.guard = none) (x y : Operand) (ho : o.op = .store 38 x y) {g : Nat} (hx : a.eval x = .pointer (some ⟨g, 0, none⟩)) {s u : Sl} (hy : a.eval y = .agg (qc s u)) {old : Array Value} {t : TypeId} (h : Obl w g t old) (hold : old.size = 2)
    (hK : wpList Tryd.prog ops Q rest (a.put o.dst undef) (w.setRow g (qc s u))) : wpList Tryd.prog ops Q (o :: rest) a w :=
  wpList_store_row hgd _ x y ho g (qc s u) hx hy t old h qSize hold (qc_one _ _) hK
theorem wp_store_q {K : Act → World → Prop} {x y : Operand} (ho : o.op = .store 38 x y) {g : Nat} (hx : a.eval x = .pointer (some ⟨g, 0, none⟩)) {s u : Sl} (hy : a.eval y = .agg (qc s u)) {old : Array Value} {t : TypeId} (h : Obl w g t old) (hold : old.size = 2)
    (hK : K (a.put o.dst undef) (w.setRow g (qc s u))) : o.wp Tryd.prog a w K Q := wp_store_row _ x y ho g (qc s u) hx hy t old h qSize hold (qc_one _ _) hK
/-- Two cells in the middle of a row. -/
theorem store_two (hgd : o.guard = none) (x y : Operand) {ty : TypeId} (ho : o.op = .store ty x y) (hi : (Tryd.prog.info? ty).map (·.size) = some 2) {g k : Nat} (hx : a.eval x = .pointer (some ⟨g, k, none⟩)) {u v : Value} (hy : a.eval y = .agg #[u, v]) (hu : u.oneCell' = true) (hv : v.oneCell' = true)
    {t : TypeId} {cs : Array Value} (h : Obl w g t cs) (hk : k + 2 ≤ cs.size) {k1 : Nat} (hk1 : k1 = k + 1) (hK : wpList Tryd.prog ops Q rest (a.put o.dst undef) ((w.setCell ⟨g, k, none⟩ u).setCell ⟨g, k1, none⟩ v)) : wpList Tryd.prog ops Q (o :: rest) a w :=
  wpList_store_mid hgd ty x y ho g k #[u, v] hx hy (obl_there h hk) hi (by simp [hu, hv]) (by subst hk1; exact hK)
theorem wp_store_two {K : Act → World → Prop} {x y : Operand} {ty : TypeId} (ho : o.op = .store ty x y) (hi : (Tryd.prog.info? ty).map (·.size) = some 2) {g k : Nat} (hx : a.eval x = .pointer (some ⟨g, k, none⟩)) {u v : Value} (hy : a.eval y = .agg #[u, v]) (hu : u.oneCell' = true) (hv : v.oneCell' = true)
    {t : TypeId} {cs : Array Value} (h : Obl w g t cs) (hk : k + 2 ≤ cs.size) {k1 : Nat} (hk1 : k1 = k + 1) (hK : K (a.put o.dst undef) ((w.setCell ⟨g, k, none⟩ u).setCell ⟨g, k1, none⟩ v)) : o.wp Tryd.prog a w K Q :=
  wp_store_mid ty x y ho g k #[u, v] hx hy (obl_there h hk) hi (by simp [hu, hv]) (by subst hk1; exact hK)
end
theorem ret_q {w : World} {fn : Func} {p : Tmp} (hr : fn.results = #[.cell p 38]) (tmps : Array Value) {g : Nat} (hp : tmps.getD p undef = .pointer (some ⟨g, 0, none⟩)) {s u : Sl} {t : TypeId} (h : Obl w g t (qc s u)) :
    (results fn tmps).run Tryd.prog w = .ok (.agg (qc s u)) w := results_cell_1 hr tmps hp h Tryd.underlying38 rfl qSize
/-- No queue, no end: what is stored in the middle of an object. -/
theorem oc_noends (y : Ob) : ((oc y).setIfInBounds 32 (.int .i64 0)).setIfInBounds 33 (.int .i64 0) = oc { y with e0 := 0, e1 := 0 } := rfl
theorem oc_qs (y : Ob) (s t : Sl) : ((oc y).setIfInBounds 30 (.slice s.A s.n s.c)).setIfInBounds 31 (.slice t.A t.n t.c) = oc { y with q0 := s, q1 := t } := rfl
/-- The address lies in block B or above, if there is one. -/
def Above (B : Nat) (A : Option Addr) : Prop := ∀ p, A = some p → B ≤ p.block
theorem Above.none {B : Nat} : Above B none := fun p h => by cases h
theorem Above.mono {B B' : Nat} {A : Option Addr} (h : Above B A) (hB : B' ≤ B) : Above B' A := fun p hp => Nat.le_trans hB (h p hp)
theorem above_own {w : World} {base n c size : Nat} {e : TypeId} {A : Option Addr} {xs : List Value} (h : w.ownsRow base e size (.slice A n c) n xs) : Above base A := by
  intro p hp
  subst hp
  rcases h.2 with ⟨h0, _⟩ | ⟨g, cap, cur, hv, hg, _⟩
  · cases h0
  · simp only [Value.slice.injEq, Option.some.injEq] at hv
    rw [hv.1]; exact hg
theorem Bytes.keep_above {w : World} {B n m : Nat} {A : Option Addr} {l : List UInt8} {cells : Array Value} (h : Bytes w B A n l) (ha : Above (m + 1) A) : Bytes (w.setRow m cells) B A n l := by
  refine ⟨h.1, h.2.1, h.2.2.1, fun hx => ?_⟩
  obtain ⟨b, o, e, hb, hc⟩ := h.2.2.2 hx
  have hne : b ≠ m := by have := ha _ e; simp only at this; omega
  refine ⟨b, o, e, hb, fun j u hu => ?_⟩
  rw [← hc j u hu]
  unfold World.cell?
  simp only [setRow_other w m cells hne]
theorem Bytes.put_above {w : World} {B n m i : Nat} {v : Value} {A : Option Addr} {l : List UInt8} (h : Bytes w B A n l) (ha : Above (m + 1) A) : Bytes (w.setCell ⟨m, i, none⟩ v) B A n l := by
  refine ⟨h.1, h.2.1, h.2.2.1, fun hx => ?_⟩
  obtain ⟨b, o, e, hb, hc⟩ := h.2.2.2 hx
  have hne : b ≠ m := by have := ha _ e; simp only at this; omega
  refine ⟨b, o, e, hb, fun j u hu => ?_⟩
  rw [← hc j u hu]
  exact World.cell?_setCell_other _ _ _ _ (fun e => hne (by cases e; rfl))
theorem own_block_lt {w : World} {base n c size : Nat} {e : TypeId} {A : Option Addr} {xs : List Value} (h : w.ownsRow base e size (.slice A n c) n xs) : ∀ p, A = some p → p.block < w.heap.size := by
  intro p hp
  subst hp
  rcases h.2 with ⟨h0, _⟩ | ⟨g, cap, cur, hv, hg, hh, _⟩
  · cases h0
  · simp only [Value.slice.injEq, Option.some.injEq] at hv
    rw [hv.1]; exact lt_of_block hh
/-- The addresses lie in different blocks. -/
def Apart (A B : Option Addr) : Prop := ∀ p q, A = some p → B = some q → p.block ≠ q.block
theorem Apart.symm {A B : Option Addr} (h : Apart A B) : Apart B A := fun p q hp hq e => h q p hq hp e.symm
theorem blk_ne {A : Option Addr} {g : Nat} (h : ∀ p, A = some p → p.block ≠ g) : some g ≠ blk A := by
  cases A with
  | none => simp [blk]
  | some p => simp only [blk, Option.map_some, ne_eq, Option.some.injEq]; exact fun e => h p rfl e.symm
theorem Bytes.grown {w w' : World} {B n : Nat} {A C : Option Addr} {l : List UInt8} (h : Bytes w B A n l) (hg : w.grownBy w' (blk C)) (hB : B ≤ w.heap.size) (hap : Apart C A) : Bytes w' B A n l := by
  refine ⟨h.1, h.2.1, h.2.2.1, fun hx => ?_⟩
  obtain ⟨b, o, e, hb, hc⟩ := h.2.2.2 hx
  refine ⟨b, o, e, hb, fun j u hu => ?_⟩
  rw [← hc j u hu]
  exact World.cell?_of_block (a := ⟨b, o + j, none⟩) (hg.block b (by omega) (blk_ne fun p hp => hap p _ hp e))
end Go.Proofs.YtdglcpepgodcpaaDoor
namespace Go.Proofs.YtdglcpepgodcpaaDoor
open Go.RowKit

theorem pcs_size (c : Ob) : (pcell c).size = 20 := rfl
theorem oc_size (c : Ob) : (oc c).size = 36 := rfl
theorem store_procMid {ops : Array Oper} {rest : List Oper} {o : Oper} {a : Act} {w : World} {Q : Exit → Act → World → Prop} (hgd : o.guard = none) (x y : Operand) (ho : o.op = .store 36 x y) {g : Nat} (hx : a.eval x = .pointer (some ⟨g, 3, none⟩)) {c y' : Ob} (hy : a.eval y = .agg (pcell c)) {t : TypeId} (h : Obl w g t (oc y'))
    (hK : wpList Tryd.prog ops Q rest (a.put o.dst undef) (w.setCells g 3 (pcs c))) : wpList Tryd.prog ops Q (o :: rest) a w :=
  wpList_store_mid hgd _ x y ho g 3 (pcell c) hx hy (obl_there h (by rw [pcs_size, oc_size]; omega)) procSize (pcell_one c) hK
theorem Fr.set_above {lo g : Nat} {w w' : World} (h : Fr lo w w') (hg : w.heap.size ≤ g) (i : Nat) (v : Value) : Fr lo w (w'.setCell ⟨g, i, none⟩ v) :=
  ⟨by simpa [World.setCell] using h.1, fun k h1 h2 => by
    have : ¬ g = k := by omega
    simpa [World.setCell, Array.getElem?_modify, this] using h.2 k h1 h2⟩
theorem nmv_set (l : List Nm) (k : Nat) (h : k < l.length) (s : Sl) : (nmv l).set (k * 3 + 2) (.slice s.A s.n s.c) = nmv (l.set k ⟨l[k].path, l[k].kind, s⟩) := by
  induction l generalizing k with
  | nil => simp at h
  | cons a l ih =>
    rcases k with _ | k
    · simp [nmv, nmc]
    · have := ih k (by simpa using h)
      rw [List.set_cons_succ, nmv_cons, nmv_cons]
      simp only [List.getElem_cons_succ]
      rw [← this]
      simp only [nmc, List.cons_append, List.nil_append, show (k + 1) * 3 + 2 = (k * 3 + 2) + 1 + 1 + 1 by omega, List.set_cons_succ]
/-- The entries of a row of the call's own, the first k of them with identifiers of their own. -/
structure NmAt (w : World) (base lo : Nat) (A : Option Addr) (n c : Nat) (l : List Nm) (E : List Nx.Ent) (k : Nat) (L : List Nm) : Prop where
  len : L.length = n
  row : w.ownsRow base 123 3 (.slice A n c) n (nmv L)
  ids : Stays lo w (fun u => ∀ j (h : j < L.length) (h' : j < E.length), j < k → Nums .u64 u u.heap.size L[j].ids.A L[j].ids.n E[j].ids)
  old : ∀ j (h : j < L.length) (h2 : j < l.length), k ≤ j → L[j] = l[j]
  same : ∀ j (h : j < L.length) (h' : j < E.length), L[j].path = E[j].path ∧ L[j].kind = E[j].kind
theorem NmAt.carry {w w' : World} {base lo n c k : Nat} {A : Option Addr} {l L : List Nm} {E : List Nx.Ent} (h : NmAt w base lo A n c l E k L) (hb : Below w.heap.size w w') : NmAt w' base lo A n c l E k L :=
  ⟨h.len, own_below h.row hb, h.ids.next (Fr.below hb), h.old, h.same⟩
/-- Entry k's identifiers are laid anew. -/
theorem NmAt.step {w : World} {base lo n c k g : Nat} {l L : List Nm} {E : List Nx.Ent} {s : Sl} (h : NmAt w base lo (some ⟨g, 0, none⟩) n c l E k L) (hk : k < L.length) (hg : g < lo) (hs : ∀ h' : k < E.length, Stays lo w (fun u => Nums .u64 u u.heap.size s.A s.n E[k].ids)) :
    NmAt (w.setCell ⟨g, k * 3 + 2, none⟩ (.slice s.A s.n s.c)) base lo (some ⟨g, 0, none⟩) n c l E (k + 1) (L.set k ⟨L[k].path, L[k].kind, s⟩) := by
  refine ⟨by simpa using h.len, by rw [← nmv_set L k hk s]; exact own_set h.row _, ?_, ?_, ?_⟩
  · intro u hu j h1 h2 h3
    have hf : Fr lo w u := (Fr.put hg _ _).trans hu
    rw [List.length_set] at h1
    by_cases e : j = k
    · subst e
      rw [List.getElem_set_self]
      exact hs h2 u hf
    · rw [List.getElem_set_ne (Ne.symm e)]
      exact h.ids u hf j h1 h2 (by omega)
  · intro j h1 h2 h3
    rw [List.length_set] at h1
    rw [List.getElem_set_ne (by omega)]
    exact h.old j h1 h2 (by omega)
  · intro j h1 h2
    rw [List.length_set] at h1
    by_cases e : j = k
    · subst e
      rw [List.getElem_set_self]
      exact h.same j hk h2
    · rw [List.getElem_set_ne (Ne.symm e)]
      exact h.same j h1 h2
end Go.Proofs.YtdglcpepgodcpaaDoor
namespace Go.Proofs.YtdglcpepgodcpaaDoor
open Go.RowKit

/-- Where a function begins that copies two blocks. -/
theorem start_two (W : World) (t : TypeId) (x y : Array Value) : ∃ w1, (W.alloc (.cells x t)).alloc (.cells y t) = w1 ∧ Obl w1 W.heap.size t x ∧ Obl w1 (W.heap.size + 1) t y ∧ Below W.heap.size W w1 := by
  refine ⟨_, rfl, (Obl.make W t x).alloc _, ?_, ((Below.refl _ _).alloc (Nat.le_refl _) _).alloc (by simp) _⟩
  have := Obl.make (W.alloc (.cells x t)) t y
  rwa [World.size_alloc] at this

end Go.Proofs.YtdglcpepgodcpaaDoor
namespace Go.Proofs.YtdglcpepgodcpaaDoor
open Go.RowKit

/-- All numbers are the same, but for the process. -/
structure Alike (a b : Ob) : Prop where
  id : a.id = b.id
  kind : a.kind = b.kind
  refs : a.refs = b.refs
  offset : a.offset = b.offset
  target : a.target = b.target
  readers : a.readers = b.readers
  writers : a.writers = b.writers
  count : a.count = b.count
  e0 : a.e0 = b.e0
  e1 : a.e1 = b.e1
/-- What both objects' lists hold, but for entries. -/
structure Both (w : World) (a b : Ob) (L : List Int) (D P Q : List UInt8) (I : List Int) : Prop where
  wa : Nums .i64 w w.heap.size a.words.A a.words.n L
  wb : Nums .i64 w w.heap.size b.words.A b.words.n L
  da : Bytes w w.heap.size a.data.A a.data.n D
  db : Bytes w w.heap.size b.data.A b.data.n D
  pa : Bytes w w.heap.size a.q0.A a.q0.n P
  pb : Bytes w w.heap.size b.q0.A b.q0.n P
  qa : Bytes w w.heap.size a.q1.A a.q1.n Q
  qb : Bytes w w.heap.size b.q1.A b.q1.n Q
  ia : Nums .u64 w w.heap.size a.backlog.A a.backlog.n I
  ib : Nums .u64 w w.heap.size b.backlog.A b.backlog.n I
  short : L.length ≤ 1000000 ∧ I.length ≤ 1000000
theorem Both.below {w w' : World} {a b : Ob} {L : List Int} {D P Q : List UInt8} {I : List Int} (h : Both w a b L D P Q I) (hb : Below w.heap.size w w') : Both w' a b L D P Q I :=
  ⟨(h.wa.below hb).mono hb.size, (h.wb.below hb).mono hb.size, (h.da.below hb).mono hb.size, (h.db.below hb).mono hb.size, (h.pa.below hb).mono hb.size, (h.pb.below hb).mono hb.size, (h.qa.below hb).mono hb.size, (h.qb.below hb).mono hb.size, (h.ia.below hb).mono hb.size, (h.ib.below hb).mono hb.size, h.short⟩
theorem run_str {w : World} {B n c : Nat} {A : Option Addr} {l : List UInt8} (h : Bytes w B A n l) : (convert 22 9 (.slice A n c)).run Tryd.prog w = .ok (.string ⟨l.toArray⟩) w :=
  run_string_rd (P := Tryd.prog) w Tryd.underlying22 Tryd.underlying5 Tryd.underlying9 h
end Go.Proofs.YtdglcpepgodcpaaDoor
namespace Go.Proofs.YtdglcpepgodcpaaDoor
open Go.RowKit

end Go.Proofs.YtdglcpepgodcpaaDoor
namespace Go.Proofs.YtdglcpepgodcpaaDoor
open Go.RowKit

/-- All numbers of the process are the same. -/
structure AlikeP (a b : Ob) : Prop where
  state : a.state = b.state
  parent : a.parent = b.parent
  ppages : a.ppages = b.ppages
  cpu : a.cpu = b.cpu
  pending : a.pending = b.pending
  alarm : a.alarm = b.alarm
  status : a.status = b.status
theorem ins_mid {w : World} {B n : Nat} {A : Option Addr} {l : List Cd.Ins} (h : Inss w B A n l) {i : Nat} (hi : i < n) : ∃ b o, ∃ hl : i < l.length, A = some ⟨b, o, none⟩ ∧ w.cell? ⟨b, o + i * 4, none⟩ = some (.int .i64 l[i].op) ∧ w.cell? ⟨b, o + i * 4 + 1, none⟩ = some (.int .i64 l[i].a) ∧ w.cell? ⟨b, o + i * 4 + 2, none⟩ = some (.int .i64 l[i].b) ∧ w.cell? ⟨b, o + i * 4 + 3, none⟩ = some (.int .i64 l[i].c) := by
  obtain ⟨b, o, hl, e, _, h0, h1, h2, h3⟩ := h.at_ hi
  exact ⟨b, o, hl, e, h0, h1, h2, h3⟩
theorem Holds.drewN {w : World} {B : Nat} {o : Ob} {X : Cont} (h : Holds w B o X) (q : Nat) : Holds (w.drewN q) B o X := h.below ⟨rfl, rfl, rfl, Nat.le_refl _, fun _ _ => rfl⟩
end Go.Proofs.YtdglcpepgodcpaaDoor
namespace Go.Proofs.YtdglcpepgodcpaaDoor
open Go.RowKit

/-- Some answer. -/
def KeepPost (w : World) (e : Ending) (w' : World) : Prop := ∃ v, e = .returned (.bool v) ∧ Below w.heap.size w w'
/-- An answer; if it is yes, p holds. -/
def KeptPost (p : Prop) (w : World) (e : Ending) (w' : World) : Prop := ∃ v, e = .returned (.bool v) ∧ (v = true → p) ∧ Below w.heap.size w w'
theorem KeptPost.open_ {p : Prop} {w w' : World} {e : Ending} (h : KeptPost p w e w') : KeepPost w e w' := by
  obtain ⟨v, he, _, hb⟩ := h
  exact ⟨v, he, hb⟩
/-- What a short program is. -/
def ShortProg (n m : Nat) (strs : List (List UInt8)) : Prop := n ≤ 300 ∧ m ≤ 40 ∧ ∀ x ∈ strs, x.length ≤ 200
end Go.Proofs.YtdglcpepgodcpaaDoor
namespace Go.Proofs.YtdglcpepgodcpaaDoor
open Go.RowKit

/-- No list is longer than a slice may be. -/
structure Fits (o : Ob) (l : List Nm) (txt : List (List UInt8)) : Prop where
  children : o.children.n ≤ 9223372036854775807
  code : o.code.n ≤ 9223372036854775807
  strs : o.strs.n ≤ 9223372036854775807
  pages : o.pages.n ≤ 9223372036854775807
  table : o.table.n ≤ 9223372036854775807
  words : o.words.n ≤ 9223372036854775807
  data : o.data.n ≤ 9223372036854775807
  backlog : o.backlog.n ≤ 9223372036854775807
  q0 : o.q0.n ≤ 9223372036854775807
  q1 : o.q1.n ≤ 9223372036854775807
  names : o.names.n ≤ 9223372036854775807
  each : ∀ x ∈ l, x.path.length ≤ 9223372036854775807 ∧ x.ids.n ≤ 9223372036854775807
  text : ∀ x ∈ txt, x.length ≤ 9223372036854775807
/-- An object of short lists. -/
structure Kept (o : Ob) (l : List Nm) (txt : List (List UInt8)) : Prop where
  each : ∀ x ∈ l, x.path.length ≤ 200 ∧ x.ids.n ≤ 20
  children : o.children.n ≤ 40
  prog : ShortProg o.code.n o.strs.n txt
  pages : o.pages.n ≤ 20
  table : o.table.n ≤ 20
  words : o.words.n ≤ 20
  data : o.data.n ≤ 5000
  backlog : o.backlog.n ≤ 12
  q0 : o.q0.n ≤ 80
  q1 : o.q1.n ≤ 80
  names : o.names.n ≤ 30
theorem pcell_zero : pcell Ob.zero = #[.int .i64 0, .int .u64 0, .slice none 0 0, .slice none 0 0, .slice none 0 0, .int .i64 0, .int .i64 0, .int .i64 0, .int .i64 0, .int .i64 0, .int .i64 0, .int .i64 0, .int .i64 0, .int .i64 0, .int .i64 0,
  .slice none 0 0, .slice none 0 0, .int .i64 0, .int .i64 0, .int .i64 0] := rfl
section
variable {ops : Array Oper} {rest : List Oper} {o : Oper} {a : Act} {w : World} {Q : Exit → Act → World → Prop}
theorem keep_store_proc (hgd : o.guard = none) (x y : Operand) (ho : o.op = .store 36 x y) {g : Nat} (hx : a.eval x = .pointer (some ⟨g, 0, none⟩)) {c : Ob} (hy : a.eval y = .agg (pcell c)) {old : Array Value} {t : TypeId} (h : Obl w g t old) (hold : old.size = 20)
    (hK : wpList Tryd.prog ops Q rest (a.put o.dst undef) (w.setRow g (pcell c))) : wpList Tryd.prog ops Q (o :: rest) a w :=
  wpList_store_row hgd _ x y ho g (pcell c) hx hy t old h procSize hold (pcell_one c) hK
end
/-- A process laid in a new block. -/
theorem laid_proc (o : Ob) (w : World) : ∃ w1, w.alloc (.cells #[.int .i64 0, .int .u64 0, .slice none 0 0, .slice none 0 0, .slice none 0 0, .int .i64 0, .int .i64 0, .int .i64 0, .int .i64 0, .int .i64 0, .int .i64 0, .int .i64 0, .int .i64 0, .int .i64 0, .int .i64 0,
    .slice none 0 0, .slice none 0 0, .int .i64 0, .int .i64 0, .int .i64 0] 36) = w1 ∧ ∃ g, w.heap.size = g ∧ ∃ w2, w1.setRow g (pcell o) = w2 ∧ Obl w1 g 36 (pcell Ob.zero) ∧ Obl w2 g 36 (pcell o) ∧ Below g w w2 ∧ w2.heap.size = g + 1 := by
  have O1 := Obl.make w 36 (pcell Ob.zero)
  exact ⟨_, rfl, _, rfl, _, rfl, O1, O1.row_same _, below_row ((Below.refl _ _).alloc (Nat.le_refl _) _) (Nat.le_refl _) _, by simp [World.setRow]⟩
end Go.Proofs.YtdglcpepgodcpaaDoor
namespace Go.Proofs.YtdglcpepgodcpaaDoor
open Go.RowKit

/-- The lists of the process read so. -/
structure HoldsP (w : World) (B : Nat) (o : Ob) (X : Cont) : Prop where
  children : Nums .u64 w B o.children.A o.children.n X.children
  code : Inss w B o.code.A o.code.n X.code
  strs : Strs w B o.strs.A o.strs.n X.strs
  pages : Refs w B o.pages.A o.pages.n X.pages
  table : Slots w B o.table.A o.table.n X.table
def Cont.ShortP (X : Cont) : Prop := X.children.length ≤ 100000 ∧ X.code.length ≤ 100000 ∧ X.strs.length ≤ 100000 ∧ X.pages.length ≤ 100000 ∧ X.table.length ≤ 100000
theorem Cont.none_shortP : Cont.none.ShortP := by simp [Cont.ShortP, Cont.none]
theorem Cont.Short.p {X : Cont} (h : X.Short) : X.ShortP := ⟨h.1, h.2.1, h.2.2.1, h.2.2.2.1, h.2.2.2.2.1⟩
section
variable {w w' : World} {B B' : Nat} {o : Ob} {X : Cont}
theorem Holds.p (h : Holds w B o X) : HoldsP w B o X := ⟨h.children, h.code, h.strs, h.pages, h.table⟩
theorem HoldsP.mono (h : HoldsP w B o X) (hB : B ≤ B') : HoldsP w B' o X := ⟨h.children.mono hB, h.code.mono hB, h.strs.mono hB, h.pages.mono hB, h.table.mono hB⟩
theorem HoldsP.below (h : HoldsP w B o X) (hb : Below B w w') : HoldsP w' B o X := ⟨h.children.below hb, h.code.below hb, h.strs.below hb, h.pages.below hb, h.table.below hb⟩
theorem HoldsP.later (h : HoldsP w w.heap.size o X) (hb : Below w.heap.size w w') : HoldsP w' w'.heap.size o X := (h.below hb).mono hb.size
theorem HoldsP.zero (w : World) (B : Nat) : HoldsP w B Ob.zero Cont.none := ⟨Nums.nil, Inss.nil, Strs.nil, Refs.nil, Slots.nil⟩
theorem Owns.p {lo : Nat} (h : Owns w lo o X) : HoldsP w w.heap.size o X := ⟨Nums.of_own h.children, Inss.of_own h.code, Strs.of_own h.strs, Refs.of_own h.pages, Slots.of_own h.table⟩
end
/-- Nothing but the process. -/
def Ob.only (o : Ob) : Ob := { Ob.zero with state := o.state, parent := o.parent, children := o.children, code := o.code, strs := o.strs, ppages := o.ppages, pc := o.pc, r0 := o.r0, r1 := o.r1, r2 := o.r2, r3 := o.r3, r4 := o.r4, r5 := o.r5, r6 := o.r6, r7 := o.r7, pages := o.pages, table := o.table, pending := o.pending, alarm := o.alarm, status := o.status }
def Cont.only (X : Cont) : Cont := { Cont.none with children := X.children, code := X.code, strs := X.strs, pages := X.pages, table := X.table }
theorem pcell_only (o : Ob) : pcell o.only = pcell o := rfl
theorem HoldsP.only {w : World} {B : Nat} {o : Ob} {X : Cont} (h : HoldsP w B o X) : Holds w B o.only X.only := ⟨h.children, h.code, h.strs, h.pages, h.table, Nums.nil, Bytes.nil, Nums.nil, Bytes.nil, Bytes.nil, [], Ents.nil⟩
theorem Cont.ShortP.only {X : Cont} (h : X.ShortP) : X.only.Short := ⟨h.1, h.2.1, h.2.2.1, h.2.2.2.1, h.2.2.2.2, by simp [Cont.only, Cont.none], by simp [Cont.only, Cont.none], by simp [Cont.only, Cont.none], by simp [Cont.only, Cont.none], by simp [Cont.only, Cont.none], by simp [Cont.only, Cont.none], by simp [Cont.only, Cont.none]⟩
theorem AlikeP.refl (a : Ob) : AlikeP a a := ⟨rfl, rfl, rfl, rfl, rfl, rfl, rfl⟩
theorem AlikeP.symm {a b : Ob} (h : AlikeP a b) : AlikeP b a := ⟨h.1.symm, h.2.symm, h.3.symm, h.4.symm, h.5.symm, h.6.symm, h.7.symm⟩
theorem AlikeP.trans {a b c : Ob} (h : AlikeP a b) (k : AlikeP b c) : AlikeP a c := ⟨h.1.trans k.1, h.2.trans k.2, h.3.trans k.3, h.4.trans k.4, h.5.trans k.5, h.6.trans k.6, h.7.trans k.7⟩
/-- What a call answers that gives a process like b with the same lists, or nothing and an error. -/
def PAns (w : World) (a b : Ob) (r : Int) (X : Cont) : Prop := (r ≠ 0 ∧ a = Ob.zero) ∨ (r = 0 ∧ AlikeP a b ∧ HoldsP w w.heap.size a X)
theorem PAns.later {w w' : World} {a b : Ob} {r : Int} {X : Cont} (h : PAns w a b r X) (hb : Below w.heap.size w w') : PAns w' a b r X := h.imp id fun h => ⟨h.1, h.2.1, h.2.2.later hb⟩
theorem PAns.ok {w : World} {a b : Ob} {X : Cont} (h : PAns w a b 0 X) : AlikeP a b ∧ HoldsP w w.heap.size a X := by
  rcases h with h | h
  · exact absurd rfl h.1
  · exact h.2
/-- A process and an error. -/
def ProcErr (b : Ob) (r : Int) (X : Cont) (w : World) (e : Ending) (w' : World) : Prop := ∃ a, e = .returned (.tuple #[.agg (pcell a), .int .i64 r]) ∧ PAns w' a b r X ∧ Below w.heap.size w w'
/-- A process again. -/
def ProcGive (b : Ob) (X : Cont) (w : World) (e : Ending) (w' : World) : Prop := ∃ a, e = .returned (.agg (pcell a)) ∧ AlikeP a b ∧ HoldsP w' w'.heap.size a X ∧ Below w.heap.size w w'
/-- A number and a process. -/
def NumProc (n : Int) (b : Ob) (X : Cont) (w : World) (e : Ending) (w' : World) : Prop := ∃ a, e = .returned (.tuple #[.int .i64 n, .agg (pcell a)]) ∧ AlikeP a b ∧ HoldsP w' w'.heap.size a X ∧ Below w.heap.size w w'
theorem ret_proc2 {w : World} {fn : Func} {p u : Tmp} (hr : fn.results = #[.cell p 36, .tmp u]) (tmps : Array Value) {g : Nat} (hp : tmps.getD p undef = .pointer (some ⟨g, 0, none⟩)) {y : Ob} {t : TypeId} (h : Obl w g t (pcell y)) :
    (results fn tmps).run Tryd.prog w = .ok (.tuple #[.agg (pcell y), tmps.getD u undef]) w := results_cell_2 hr tmps hp h Tryd.underlying36 rfl procSize
theorem ret_tproc {w : World} {fn : Func} {s p : Tmp} (hr : fn.results = #[.tmp s, .cell p 36]) (tmps : Array Value) {g : Nat} (hp : tmps.getD p undef = .pointer (some ⟨g, 0, none⟩)) {y : Ob} {t : TypeId} (h : Obl w g t (pcell y)) :
    (results fn tmps).run Tryd.prog w = .ok (.tuple #[tmps.getD s undef, .agg (pcell y)]) w := by
  have hp' : tmps[p]?.getD undef = .pointer (some ⟨g, 0, none⟩) := by simpa using hp
  simp [results, hr, hp', asAddr, h.load Tryd.underlying36 rfl procSize]
theorem ret_tproc3 {w : World} {fn : Func} {s p u : Tmp} (hr : fn.results = #[.tmp s, .cell p 36, .tmp u]) (tmps : Array Value) {g : Nat} (hp : tmps.getD p undef = .pointer (some ⟨g, 0, none⟩)) {y : Ob} {t : TypeId} (h : Obl w g t (pcell y)) :
    (results fn tmps).run Tryd.prog w = .ok (.tuple #[tmps.getD s undef, .agg (pcell y), tmps.getD u undef]) w := results_tcell_3 hr tmps hp h Tryd.underlying36 rfl procSize
theorem load_proc0 {ops : Array Oper} {rest : List Oper} {o : Oper} {a : Act} {w : World} {Q : Exit → Act → World → Prop} (hgd : o.guard = none) (x : Operand) (ho : o.op = .load 36 x) {g : Nat} (hx : a.eval x = .pointer (some ⟨g, 0, none⟩)) {y : Ob} {t : TypeId} (h : Obl w g t (pcell y))
    (hK : wpList Tryd.prog ops Q rest (a.put o.dst (.agg (pcell y))) w) : wpList Tryd.prog ops Q (o :: rest) a w :=
  wpList_load_row hgd _ x ho g hx t (pcell y) (0, 0) _ h Tryd.underlying36 rfl procSize hK
theorem wp_store_proc {o : Oper} {a : Act} {w : World} {Q : Exit → Act → World → Prop} {K : Act → World → Prop} {x y : Operand} (ho : o.op = .store 36 x y) {g : Nat} (hx : a.eval x = .pointer (some ⟨g, 0, none⟩)) {c : Ob} (hy : a.eval y = .agg (pcell c)) {old : Array Value} {t : TypeId} (h : Obl w g t old) (hold : old.size = 20)
    (hK : K (a.put o.dst undef) (w.setRow g (pcell c))) : o.wp Tryd.prog a w K Q := wp_store_row _ x y ho g (pcell c) hx hy t old h procSize hold (pcell_one c) hK
/-- A process with these numbers and nothing else. -/
def Ob.proc (st pd al su : Int) : Ob := { Ob.zero with state := st, pending := pd, alarm := al, status := su }
theorem built_proc (st : Int) : Tryd.prog.built 36 [(0, .int .i64 st)] = some (pcell (Ob.proc st 0 0 0)) := by kernel_rfl
theorem built_pzero : Tryd.prog.built 36 [] = some (pcell Ob.zero) := by kernel_rfl
theorem built_obproc (o : Ob) : Tryd.prog.built 42 [(3, .agg (pcell o))] = some (oc o.only) := by kernel_rfl
theorem HoldsP.proc (w : World) (B : Nat) (st pd al su : Int) : HoldsP w B (Ob.proc st pd al su) Cont.none := ⟨Nums.nil, Inss.nil, Strs.nil, Refs.nil, Slots.nil⟩
theorem kept_shortP {w : World} {o : Ob} {X : Cont} {T : List (List UInt8)} (hk : Kept o.only [] T) (h : HoldsP w w.heap.size o X) : X.ShortP := by
  have k1 := hk.children
  have k2 := hk.prog
  have k3 := hk.pages
  have k4 := hk.table
  have e1 := h.children.len
  have e2 := h.code.len
  have e3 := h.strs.len
  have e4 := h.pages.len
  have e5 := h.table.len
  obtain ⟨k21, k22, _⟩ := k2
  simp only [Ob.only] at k1 k21 k22 k3 k4
  exact ⟨by omega, by omega, by omega, by omega, by omega⟩
end Go.Proofs.YtdglcpepgodcpaaDoor
namespace Go.Proofs.YtdglcpepgodcpaaDoor
open Go.RowKit

/-- A signal's bit, and it set. -/
def sgBit (s : Int) : Int := wrap64 (2 ^ s.toNat)
def sgOr (p s : Int) : Int := bits .or .i64 p (sgBit s)
/-- The process after a signal. -/
def Ob.raise (o : Ob) (s : Int) : Ob := if s = 9 then (if o.state = 1 then { o with state := 2, status := -9 } else o) else { o with pending := sgOr o.pending s }
/-- The error of raising: 2: no signal; 6: neither alive nor dying. -/
def Ob.raiseErr (o : Ob) (s : Int) : Int := if 1 ≤ s ∧ s ≤ 31 then (if o.state = 1 ∨ o.state = 2 then 0 else 6) else 2
def Ob.taken (o : Ob) : Ob := { o with pending := 0 }
theorem AlikeP.raise {a b : Ob} (h : AlikeP a b) (s : Int) : AlikeP (a.raise s) (b.raise s) := by
  unfold Ob.raise
  rw [h.state, h.pending]
  by_cases h9 : s = 9
  · rw [if_pos h9, if_pos h9]
    by_cases h1 : b.state = 1
    · rw [if_pos h1, if_pos h1]; exact ⟨rfl, h.2, h.3, h.4, rfl, h.6, rfl⟩
    · rw [if_neg h1, if_neg h1]; exact h
  · rw [if_neg h9, if_neg h9]; exact ⟨rfl, h.2, h.3, h.4, rfl, h.6, h.7⟩
theorem AlikeP.taken {a b : Ob} (h : AlikeP a b) : AlikeP a.taken b.taken := ⟨h.1, h.2, h.3, h.4, rfl, h.6, h.7⟩
theorem AlikeP.raiseErr {a b : Ob} (h : AlikeP a b) (s : Int) : a.raiseErr s = b.raiseErr s := by unfold Ob.raiseErr; rw [h.state]
theorem HoldsP.raise {w : World} {B : Nat} {o : Ob} {X : Cont} (h : HoldsP w B o X) (s : Int) : HoldsP w B (o.raise s) X := by
  unfold Ob.raise
  split
  · split
    · exact ⟨h.1, h.2, h.3, h.4, h.5⟩
    · exact h
  · exact ⟨h.1, h.2, h.3, h.4, h.5⟩
theorem HoldsP.taken {w : World} {B : Nat} {o : Ob} {X : Cont} (h : HoldsP w B o X) : HoldsP w B o.taken X := ⟨h.1, h.2, h.3, h.4, h.5⟩
/-- Which signals can be pending, as the package says it, and as the reference does. -/
def sgValid (p : Int) : Prop := bits .andNot .i64 p 4294966782 = 0
instance (p : Int) : Decidable (sgValid p) := by unfold sgValid; infer_instance
theorem mask_bits : ∀ i : Fin 32, (4294966782 : Nat).testBit i.val = decide (i.val ≠ 0 ∧ i.val ≠ 9) := by decide
theorem wrap_zero {n : Nat} (h : n < 18446744073709551616) : IntKind.i64.wrap (n : Int) = 0 ↔ n = 0 := by rw [IntKind.wrap_i64]; omega
theorem sub_mask (N : Nat) : N &&& 4294966782 = N ↔ N < 4294967296 ∧ N % 2 = 0 ∧ N / 512 % 2 = 0 := by
  constructor
  · intro h
    have hle : N ≤ 4294966782 := by rw [← h]; exact Nat.and_le_right
    have b0 : N.testBit 0 = false := by rw [← h, Nat.testBit_and]; simp
    have b9 : N.testBit 9 = false := by rw [← h, Nat.testBit_and]; simp [show (4294966782 : Nat).testBit 9 = false by decide]
    refine ⟨by omega, ?_, ?_⟩
    · rw [Nat.testBit_zero] at b0; simpa using b0
    · rw [Nat.testBit_eq_decide_div_mod_eq] at b9; simpa using b9
  · rintro ⟨h1, h2, h3⟩
    apply Nat.eq_of_testBit_eq
    intro i
    rw [Nat.testBit_and]
    by_cases hi : i < 32
    · rw [mask_bits ⟨i, hi⟩]
      by_cases h0 : i = 0
      · subst h0; rw [Nat.testBit_zero]; simp [h2]
      · by_cases h9 : i = 9
        · subst h9; rw [Nat.testBit_eq_decide_div_mod_eq]; simp [h3]
        · simp [h0, h9]
    · rw [Nat.testBit_lt_two_pow (x := N) (i := i) (Nat.lt_of_lt_of_le h1 (Nat.pow_le_pow_right (n := 2) (by decide) (by omega : 32 ≤ i)))]; rfl
theorem bits_and1 (x : Int) : bits .and .i64 x 1 = x % 2 := by
  unfold bits
  have h : (BitVec.ofInt 64 x &&& BitVec.ofInt 64 1).toNat = (x % 2).toNat := by
    rw [BitVec.toNat_and, show (BitVec.ofInt 64 1).toNat = 1 from rfl, Nat.and_one_is_mod, BitVec.toNat_ofInt]
    omega
  show IntKind.i64.wrap ((BitVec.ofInt 64 x &&& BitVec.ofInt 64 1).toNat : Int) = _
  rw [h, IntKind.wrap_i64]
  omega
theorem sgValid_iff {p : Int} (h : -9223372036854775808 ≤ p ∧ p ≤ 9223372036854775807) : sgValid p ↔ 0 ≤ p ∧ p < 4294967296 ∧ bits .and .i64 p 1 = 0 ∧ bits .and .i64 (p / 512) 1 = 0 := by
  rw [bits_and1, bits_and1]
  unfold sgValid bits
  show IntKind.i64.wrap ((BitVec.ofInt 64 p &&& ~~~ BitVec.ofInt 64 4294966782).toNat : Int) = 0 ↔ _
  rw [wrap_zero (BitVec.isLt _)]
  have hN : (BitVec.ofInt 64 p).toNat = (p % 18446744073709551616).toNat := by rw [BitVec.toNat_ofInt]; rfl
  have key : (BitVec.ofInt 64 p &&& ~~~ BitVec.ofInt 64 4294966782).toNat = 0 ↔ (BitVec.ofInt 64 p).toNat &&& 4294966782 = (BitVec.ofInt 64 p).toNat := by
    generalize BitVec.ofInt 64 p = a
    have hc : (BitVec.ofInt 64 4294966782) = (4294966782#64) := by decide
    rw [hc]
    constructor
    · intro h0
      have hz : a &&& ~~~ 4294966782#64 = 0#64 := BitVec.eq_of_toNat_eq (by rw [h0]; rfl)
      have : a &&& 4294966782#64 = a := by
        apply BitVec.eq_of_getLsbD_eq
        intro i hi
        have := congrArg (fun v => v.getLsbD i) hz
        simp only [BitVec.getLsbD_and, BitVec.getLsbD_not, hi, decide_true, Bool.true_and, BitVec.getLsbD_zero] at this
        rw [BitVec.getLsbD_and]
        cases ha : a.getLsbD i <;> simp_all
      have := congrArg BitVec.toNat this
      rwa [BitVec.toNat_and] at this
    · intro h0
      have ha : a &&& 4294966782#64 = a := BitVec.eq_of_toNat_eq (by rw [BitVec.toNat_and]; exact h0)
      rw [← ha]
      have : a &&& 4294966782#64 &&& ~~~ 4294966782#64 = 0#64 := by
        rw [BitVec.and_assoc]; simp
      rw [this]; rfl
  rw [key, sub_mask, hN]
  omega
end Go.Proofs.YtdglcpepgodcpaaDoor
namespace Go.Proofs.YtdglcpepgodcpaaDoor
open Go.RowKit

/-- An object as a value. -/
structure Ko where
  id : Int
  kind : Int
  refs : Int
  state : Int
  parent : Int
  children : List Int
  code : List Cd.Ins
  strs : List (List UInt8)
  ppages : Int
  cpu : Cp.Cpu
  pages : List Sp.Ref
  table : List Tb.Slot
  pending : Int
  alarm : Int
  status : Int
  words : List Int
  data : List UInt8
  offset : Int
  target : Int
  readers : Int
  writers : Int
  backlog : List Int
  q0 : List UInt8
  q1 : List UInt8
  e0 : Int
  e1 : Int
  count : Int
  names : List Nx.Ent
namespace Ko
/-- What its lists hold. -/
def cont (k : Ko) : Cont := ⟨k.children, k.code, k.strs, k.pages, k.table, k.words, k.data, k.backlog, k.q0, k.q1, k.names⟩
/-- The value of an object in memory whose lists hold X. -/
def of (o : Ob) (X : Cont) : Ko := ⟨o.id, o.kind, o.refs, o.state, o.parent, X.children, X.code, X.strs, o.ppages, o.cpu, X.pages, X.table, o.pending, o.alarm, o.status, X.words, X.data, o.offset, o.target, o.readers, o.writers, X.backlog, X.q0, X.q1, o.e0, o.e1, o.count, X.names⟩
theorem cont_of (o : Ob) (X : Cont) : (of o X).cont = X := rfl
def zero : Ko := of Ob.zero Cont.none
/-- Its numbers and lengths as an object of which nothing lies anywhere. -/
def ob (k : Ko) : Ob := { id := k.id, kind := k.kind, refs := k.refs, state := k.state, parent := k.parent, children := ⟨none, k.children.length, 0⟩, code := ⟨none, k.code.length, 0⟩, strs := ⟨none, k.strs.length, 0⟩, ppages := k.ppages, pc := k.cpu.pc, r0 := k.cpu.regs.getD 0 0, r1 := k.cpu.regs.getD 1 0, r2 := k.cpu.regs.getD 2 0, r3 := k.cpu.regs.getD 3 0, r4 := k.cpu.regs.getD 4 0, r5 := k.cpu.regs.getD 5 0, r6 := k.cpu.regs.getD 6 0, r7 := k.cpu.regs.getD 7 0, pages := ⟨none, k.pages.length, 0⟩, table := ⟨none, k.table.length, 0⟩, pending := k.pending, alarm := k.alarm, status := k.status, words := ⟨none, k.words.length, 0⟩, data := ⟨none, k.data.length, 0⟩, offset := k.offset, target := k.target, readers := k.readers, writers := k.writers, backlog := ⟨none, k.backlog.length, 0⟩, q0 := ⟨none, k.q0.length, 0⟩, q1 := ⟨none, k.q1.length, 0⟩, e0 := k.e0, e1 := k.e1, count := k.count, names := ⟨none, k.names.length, 0⟩ }
end Ko
/-- The object, of which nothing lies anywhere. -/
def Ob.bare (o : Ob) : Ob := { o with children := ⟨none, o.children.n, 0⟩, code := ⟨none, o.code.n, 0⟩, strs := ⟨none, o.strs.n, 0⟩, pages := ⟨none, o.pages.n, 0⟩, table := ⟨none, o.table.n, 0⟩, words := ⟨none, o.words.n, 0⟩, data := ⟨none, o.data.n, 0⟩, backlog := ⟨none, o.backlog.n, 0⟩, q0 := ⟨none, o.q0.n, 0⟩, q1 := ⟨none, o.q1.n, 0⟩, names := ⟨none, o.names.n, 0⟩ }
theorem ob_of {w : World} {B : Nat} {o : Ob} {X : Cont} (h : Holds w B o X) : (Ko.of o X).ob = o.bare := by
  obtain ⟨l, hl⟩ := h.names
  unfold Ko.ob Ko.of Ob.bare
  simp only [h.children.len, h.code.len, h.strs.len, h.pages.len, h.table.len, h.words.len, h.data.len, h.backlog.len, h.q0.len, h.q1.len, hl.len]
  rfl
/-- Where a slice has room is told rightly. -/
structure Ob.Caps (o : Ob) : Prop where
  data : o.data.n ≤ o.data.c
  q0 : o.q0.n ≤ o.q0.c
  q1 : o.q1.n ≤ o.q1.c
  backlog : o.backlog.n ≤ o.backlog.c
  pages : o.pages.n ≤ o.pages.c ∧ o.pages.c ≤ 9223372036854775807
  table : o.table.n ≤ o.table.c ∧ o.table.c ≤ 9223372036854775807
  kids : o.children.n ≤ o.children.c ∧ o.children.c ≤ 9223372036854775807
theorem Ob.zero_caps : Ob.zero.Caps := ⟨Nat.le_refl _, Nat.le_refl _, Nat.le_refl _, Nat.le_refl _, ⟨Nat.le_refl _, by decide⟩, ⟨Nat.le_refl _, by decide⟩, ⟨Nat.le_refl _, by decide⟩⟩
/-- The object in memory has this value. -/
structure IsKo (w : World) (B : Nat) (o : Ob) (k : Ko) : Prop where
  held : Holds w B o k.cont
  eq : Ko.of o k.cont = k
  caps : o.Caps
section
variable {w w' : World} {B B' : Nat} {o : Ob} {k : Ko}
theorem IsKo.mk' {X : Cont} (h : Holds w B o X) (c : o.Caps) : IsKo w B o (Ko.of o X) := ⟨h, rfl, c⟩
theorem IsKo.mono (h : IsKo w B o k) (hB : B ≤ B') : IsKo w B' o k := ⟨h.held.mono hB, h.eq, h.caps⟩
theorem IsKo.below (h : IsKo w B o k) (hb : Below B w w') : IsKo w' B o k := ⟨h.held.below hb, h.eq, h.caps⟩
theorem IsKo.later (h : IsKo w w.heap.size o k) (hb : Below w.heap.size w w') : IsKo w' w'.heap.size o k := (h.below hb).mono hb.size
theorem IsKo.zero (w : World) (B : Nat) : IsKo w B Ob.zero Ko.zero := ⟨Holds.bald (by constructor <;> rfl) w B, rfl, Ob.zero_caps⟩
theorem IsKo.ob (h : IsKo w B o k) : k.ob = o.bare := by
  have := ob_of h.held
  rwa [h.eq] at this
theorem IsKo.id (h : IsKo w B o k) : k.id = o.id := by rw [← h.eq]; rfl
theorem IsKo.kind (h : IsKo w B o k) : k.kind = o.kind := by rw [← h.eq]; rfl
theorem IsKo.cpu (h : IsKo w B o k) : k.cpu = o.cpu := by rw [← h.eq]; rfl
theorem IsKo.same {a : Ob} (h : IsKo w B o k) (h' : IsKo w B a k) : Alike o a ∧ AlikeP o a := by
  have e := h.eq.trans h'.eq.symm
  unfold Ko.of at e
  simp only [Ko.mk.injEq] at e
  obtain ⟨e1, e2, e3, e4, e5, _, _, _, e6, e7, _, _, e8, e9, e10, _, _, e11, e12, e13, e14, _, _, _, e15, e16, e17, _⟩ := e
  exact ⟨⟨e1, e2, e3, e11, e12, e13, e14, e17, e15, e16⟩, ⟨e4, e5, e6, e7, e8, e9, e10⟩⟩
end
/-- Two lists, element by element. -/
inductive All2 {α β : Type} (R : α → β → Prop) : List α → List β → Prop
  | nil : All2 R [] []
  | cons {a : α} {b : β} {l : List α} {m : List β} : R a b → All2 R l m → All2 R (a :: l) (b :: m)
section
variable {α β : Type} {R S : α → β → Prop} {l l' : List α} {m m' : List β}
theorem All2.length (h : All2 R l m) : l.length = m.length := by induction h with | nil => rfl | cons _ _ ih => simp [ih]
theorem All2.imp (h : All2 R l m) (f : ∀ a b, R a b → S a b) : All2 S l m := by induction h with | nil => exact .nil | cons h _ ih => exact .cons (f _ _ h) ih
theorem All2.append (h : All2 R l m) (h' : All2 R l' m') : All2 R (l ++ l') (m ++ m') := by induction h with | nil => exact h' | cons h _ ih => exact .cons h ih
theorem All2.take (h : All2 R l m) (i : Nat) : All2 R (l.take i) (m.take i) := by
  induction h generalizing i with
  | nil => simp; exact .nil
  | cons h _ ih => cases i with | zero => exact .nil | succ i => exact .cons h (ih i)
theorem All2.drop (h : All2 R l m) (i : Nat) : All2 R (l.drop i) (m.drop i) := by
  induction h generalizing i with
  | nil => simp; exact .nil
  | cons h h' ih => cases i with | zero => exact .cons h h' | succ i => exact ih i
theorem All2.set (h : All2 R l m) (i : Nat) {a : α} {b : β} (hab : R a b) : All2 R (l.set i a) (m.set i b) := by
  induction h generalizing i with
  | nil => exact .nil
  | cons h h' ih => cases i with | zero => exact .cons hab h' | succ i => exact .cons h (ih i)
theorem All2.get (h : All2 R l m) {i : Nat} (hi : i < l.length) : ∃ h' : i < m.length, R l[i] m[i] := by
  induction h generalizing i with
  | nil => simp at hi
  | cons h h' ih =>
    cases i with
    | zero => exact ⟨by simp, h⟩
    | succ i => obtain ⟨h1, h2⟩ := ih (i := i) (by simpa using hi); exact ⟨by simpa using h1, h2⟩
theorem All2.findIdx (h : All2 R l m) {p : α → Bool} {q : β → Bool} (hpq : ∀ a b, R a b → p a = q b) : l.findIdx p = m.findIdx q := by
  induction h with
  | nil => rfl
  | cons h h' ih => rw [List.findIdx_cons, List.findIdx_cons, hpq _ _ h, ih]
theorem All2.any (h : All2 R l m) {p : α → Bool} {q : β → Bool} (hpq : ∀ a b, R a b → p a = q b) : l.any p = m.any q := by
  induction h with
  | nil => rfl
  | cons h h' ih => rw [List.any_cons, List.any_cons, hpq _ _ h, ih]
theorem All2.eraseP (h : All2 R l m) {p : α → Bool} {q : β → Bool} (hpq : ∀ a b, R a b → p a = q b) : All2 R (l.eraseP p) (m.eraseP q) := by
  induction h with
  | nil => exact .nil
  | @cons a b l m h h' ih =>
    rw [List.eraseP_cons, List.eraseP_cons, hpq _ _ h]
    cases q b
    · exact .cons h ih
    · exact h'
theorem All2.find (h : All2 R l m) {p : α → Bool} {q : β → Bool} (hpq : ∀ a b, R a b → p a = q b) : (l.find? p = none ∧ m.find? q = none) ∨ ∃ a b, l.find? p = some a ∧ m.find? q = some b ∧ R a b := by
  induction h with
  | nil => exact .inl ⟨rfl, rfl⟩
  | @cons a b l m h h' ih =>
    rw [List.find?_cons, List.find?_cons, hpq _ _ h]
    cases q b
    · exact ih
    · exact .inr ⟨a, b, rfl, rfl, h⟩
end
end Go.Proofs.YtdglcpepgodcpaaDoor
namespace Go.Proofs.YtdglcpepgodcpaaDoor
open Go.RowKit

section
variable {P : Program} {ops : Array Oper} {rest : List Oper} {o : Oper} {a : Act} {w : World} {Q : Exit → Act → World → Prop}
theorem wanted_unless {j : Nat} {g : Bool} (hgd : o.guard = some (j, false)) (hy : yielded ops a.tmps j = some g) : Region.wanted o (yielded ops a.tmps) = !g := by
  unfold Region.wanted
  rw [hgd]
  show (yielded ops a.tmps j == some false) = !g
  rw [hy]
  cases g <;> rfl
/-- A guarded operation that yields a value, its guard a letter. -/
theorem wpList_unless {v : Value} (j : Nat) (g : Bool) (hgd : o.guard = some (j, false)) (hy : yielded ops a.tmps j = some g) (hr : g = false → (execOp a.eval o).run P w = .ok (.value v) w)
    (h : ∀ u : Value, (g = false → u = v) → wpList P ops Q rest (a.put o.dst u) w) : wpList P ops Q (o :: rest) a w := by
  have hw := wanted_unless (g := g) hgd hy
  cases g with
  | false => exact wpList_val hw (hr rfl) (h v fun _ => rfl)
  | true =>
    simp only [wpList, hw, Bool.not_true, Bool.false_eq_true, if_false]
    exact h undef fun h => by cases h
/-- The pick behind it, under a new name. -/
theorem wpList_orpick (g c : Bool) {x y z : Operand} (hgd : o.guard = none) (ho : o.op = .pick x y z) (hx : a.eval x = .bool g) (hy : a.eval y = .bool true) (hz : g = false → a.eval z = .bool c) (h : ∀ d : Bool, (g || c) = d → wpList P ops Q rest (a.put o.dst (.bool d)) w) : wpList P ops Q (o :: rest) a w := by
  refine wpList_val (v := .bool (g || c)) (by simp only [Region.wanted, hgd]) ?_ (h _ rfl)
  unfold execOp
  cases g with
  | true => simp [ho, hx, hy, asBool]
  | false => simp [ho, hx, hz rfl, asBool]
/-- A guarded call of a function that answers a bool. -/
theorem wpList_uncall (c : Bool) (j : Nat) (g : Bool) (hgd : o.guard = some (j, false)) (hy : yielded ops a.tmps j = some g) (hc : g = false → ∀ K : Act → World → Prop, (∀ a' w', a.put o.dst (.bool c) = a' → Below w.heap.size w w' → K a' w') → o.wp P a w K Q)
    (h : ∀ (u : Value) (w' : World), (g = false → u = .bool c) → Below w.heap.size w w' → wpList P ops Q rest (a.put o.dst u) w') : wpList P ops Q (o :: rest) a w := by
  have hw := wanted_unless (g := g) hgd hy
  cases g with
  | false =>
    simp only [wpList, hw, Bool.not_false, if_true]
    left
    exact hc rfl _ fun a' w' he hb => he ▸ h _ w' (fun _ => rfl) hb
  | true =>
    simp only [wpList, hw, Bool.not_true, Bool.false_eq_true, if_false]
    exact h undef w (fun h => by cases h) (Below.refl _ _)
end
end Go.Proofs.YtdglcpepgodcpaaDoor
namespace Go.Proofs.YtdglcpepgodcpaaDoor
open Go.RowKit

/-- What the listed variables hold, as far as it is read here. -/
def Laid (w : World) : Prop := (∃ tp p, w.var? Tryd.prog "strconv.ErrRange" = some #[.iface tp p]) ∧ Lib.TabIs Tryd.prog w "internal/strconv.uint64pow10" .u64 Lib.pow10Tab
theorem var_lt {w : World} {n : String} {g : Nat} {cs : Array Value} (hg : Tryd.prog.globalNamed n = some g) (h : w.var? Tryd.prog n = some cs) : g < w.heap.size := by
  unfold World.var? at h
  rw [hg] at h
  rcases Nat.lt_or_ge g w.heap.size with h' | h'
  · exact h'
  · simp [Array.getElem?_eq_none h'] at h
/-- The same without the error's variable. -/
def LaidT (w : World) : Prop := Lib.TabIs Tryd.prog w "internal/strconv.uint64pow10" .u64 Lib.pow10Tab
theorem Laid.tab {w : World} (h : Laid w) : LaidT w := h.2
namespace Wd
theorem isNum_eq {l : List UInt8} (h : l ≠ [48]) : isNum l = ((body l).all dig && (decide (body l ≠ []) && decide ((body l).head? ≠ some 48))) := by
  unfold isNum; rw [decide_eq_false h]; rfl
theorem isNum_bad {l : List UInt8} {c : UInt8} (h : l ≠ [48]) (hc : c ∈ body l) (hd : dig c = false) : isNum l = false := by
  rw [isNum_eq h]
  have : (body l).all dig = false := by rw [List.all_eq_false]; exact ⟨c, hc, by simp [hd]⟩
  rw [this]; rfl
theorem isNum_all {l : List UInt8} (h : l ≠ [48]) (hd : (body l).all dig = true) : isNum l = (decide (body l ≠ []) && decide ((body l).head? ≠ some 48)) := by
  rw [isNum_eq h, hd]; rfl
end Wd
theorem dig_cases (c : UInt8) : (Wd.dig c = true ∧ decide ((c.toNat : Int) < 48) = false ∧ decide ((57 : Int) < (c.toNat : Int)) = false) ∨ (Wd.dig c = false ∧ (decide ((c.toNat : Int) < 48) = true ∨ (decide ((c.toNat : Int) < 48) = false ∧ decide ((57 : Int) < (c.toNat : Int)) = true))) := by
  by_cases h1 : c.toNat < 48
  · right
    exact ⟨by unfold Wd.dig; rw [decide_eq_false (by omega)]; rfl, .inl (by simp; omega)⟩
  · by_cases h2 : 57 < c.toNat
    · right
      exact ⟨by unfold Wd.dig; rw [decide_eq_false (p := c.toNat ≤ 57) (by omega)]; simp, .inr ⟨by simp; omega, by simp; omega⟩⟩
    · left
      exact ⟨Wd.dig_iff.2 ⟨by omega, by omega⟩, by simp; omega, by simp; omega⟩

/-- A number and an error code. -/
def NumPost (r : Int × Nat) (w : World) (e : Ending) (w' : World) : Prop := e = .returned (.tuple #[.int .i64 r.1, .int .i64 (r.2 : Int)]) ∧ Below w.heap.size w w'
theorem NumPost.of {r : Int × Nat} {v : Int} {er : Nat} {w w' : World} {e : Ending} (hr : r = (v, er)) (he : e = .returned (.tuple #[.int .i64 v, .int .i64 (er : Int)])) (hb : Below w.heap.size w w') : NumPost r w e w' := by
  subst hr; exact ⟨he, hb⟩

theorem conv_byte (w : World) (x : Int) (c : UInt8) (hx : x = (c.toNat : Int)) : (convert 22 9 (.slice (some ⟨w.heap.size, 0, none⟩) 1 1)).run Tryd.prog (w.alloc (.cells #[.int .u8 x] 5)) = .ok (.string ⟨#[c]⟩) (w.alloc (.cells #[.int .u8 x] 5)) := by
  subst hx
  exact run_string_rd (P := Tryd.prog) _ Tryd.underlying22 Tryd.underlying5 Tryd.underlying9 (B := w.heap.size + 1) (n := 1) (c := 1) (l := [c]) ⟨rfl, Row.new w _ _⟩

end Go.Proofs.YtdglcpepgodcpaaDoor
namespace Go.Proofs.YtdglcpepgodcpaaDoor
open Go.RowKit

/-- The table of operations as cells. -/
def opc (o : Cd.Opn) : List Value := [.string ⟨o.name.toArray⟩, .string ⟨o.form.toArray⟩, .int .i64 o.least, .int .i64 o.most]
def ov (l : List Cd.Opn) : List Value := l.flatMap opc
theorem ov_at {l : List Cd.Opn} {k : Nat} (h : k < l.length) : (ov l)[k * 4]? = some (.string ⟨l[k].name.toArray⟩) ∧ (ov l)[k * 4 + 1]? = some (.string ⟨l[k].form.toArray⟩) ∧ (ov l)[k * 4 + 2]? = some (.int .i64 l[k].least) ∧ (ov l)[k * 4 + 3]? = some (.int .i64 l[k].most) := by
  induction l generalizing k with
  | nil => simp at h
  | cons a l ih =>
    rw [show ov (a :: l) = opc a ++ ov l from rfl]
    rcases k with _ | k
    · exact ⟨rfl, rfl, rfl, rfl⟩
    · have := ih (k := k) (by simpa using h)
      rw [show (k + 1) * 4 = (opc a).length + k * 4 by simp [opc]; omega, List.getElem?_append_right (by omega), List.getElem?_append_right (by omega), List.getElem?_append_right (by omega), List.getElem?_append_right (by omega)]
      simp only [List.getElem_cons_succ]
      rw [show (opc a).length + k * 4 - (opc a).length = k * 4 by omega, show (opc a).length + k * 4 + 1 - (opc a).length = k * 4 + 1 by omega, show (opc a).length + k * 4 + 2 - (opc a).length = k * 4 + 2 by omega, show (opc a).length + k * 4 + 3 - (opc a).length = k * 4 + 3 by omega]
      exact this
/-- The variable holds the table. -/
def LaidO (w : World) : Prop := w.var? Tryd.prog "clusterkernel/code.operations" = some (ov Cd.tbl).toArray
theorem gOps : Tryd.prog.globalNamed "clusterkernel/code.operations" = some 0 := by kernel_rfl
theorem LaidO.lt {w : World} (h : LaidO w) : 0 < w.heap.size := var_lt gOps h
theorem LaidO.below {w w' : World} (h : LaidO w) (hb : Below w.heap.size w w') : LaidO w' := var?_below hb gOps (var_lt gOps h) h
theorem LaidO.belowLe {w w' : World} {B : Nat} (h : LaidO w) (hB : 0 < B) (hb : Below B w w') : LaidO w' := var?_below hb gOps hB h
theorem LaidO.alloc {w : World} (h : LaidO w) (o : Obj) : LaidO (w.alloc o) := LaidO.below h ((Below.refl _ _).alloc (Nat.le_refl _) _)
theorem LaidO.drew {w : World} (h : LaidO w) : LaidO w.drew := h
theorem LaidO.at_ {w : World} (h : LaidO w) {k : Nat} (hk : k < 13) :
    w.cell? ⟨0, k * 4, none⟩ = some (.string ⟨(Cd.opn (k : Int)).name.toArray⟩) ∧ w.cell? ⟨0, k * 4 + 1, none⟩ = some (.string ⟨(Cd.opn (k : Int)).form.toArray⟩) ∧
    w.cell? ⟨0, k * 4 + 2, none⟩ = some (.int .i64 (Cd.opn (k : Int)).least) ∧ w.cell? ⟨0, k * 4 + 3, none⟩ = some (.int .i64 (Cd.opn (k : Int)).most) := by
  obtain ⟨h0, h1, h2, h3⟩ := ov_at (l := Cd.tbl) (k := k) hk
  rw [Cd.opn_nat k hk]
  have c := World.var?_cell gOps h
  have e : ∀ i : Nat, (ov Cd.tbl).toArray[i]? = (ov Cd.tbl)[i]? := fun i => List.getElem?_toArray ..
  exact ⟨(c _).trans ((e _).trans h0), (c _).trans ((e _).trans h1), (c _).trans ((e _).trans h2), (c _).trans ((e _).trans h3)⟩
end Go.Proofs.YtdglcpepgodcpaaDoor
namespace Go.Proofs.YtdglcpepgodcpaaDoor
open Go.RowKit

theorem valSize : (Tryd.prog.info? 91).map (·.size) = some 3 := by kernel_rfl

theorem isLong_any (s : ByteArray) (w : World) (hs : s.size ≤ 9223372036854775807) : Calls Tryd.prog 26 #[.string s] w fun e w' => e = .returned (.bool (decide (128 < s.size))) ∧ w = w' := by
  go_enter Tryd.func26, Tryd.ntmps26
  go_wp2
  go_ret
  exact ⟨ret_bool (decide_eq_decide.2 (by omega)), rfl⟩

set_option maxHeartbeats 1000000 in
/-- The first long string, or -1. -/
theorem indexFunc_any (A : Option Addr) (n c B : Nat) (l : List (List UInt8)) (w : World) (hl : Strs w B A n l) (hn : n ≤ 9223372036854775807) (hm : ∀ x ∈ l, x.length ≤ 9223372036854775807) :
    Calls Tryd.prog 40 #[.slice A n c, .func (.func 26) #[] #[]] w fun e w' => (∃ v : Int, e = .returned (.int .i64 v) ∧ decide (0 ≤ v) = l.any fun s => decide (128 < s.length)) ∧ w = w' := by
  have hlen := hl.len
  have hm' : ∀ k (h : k < l.length), l[k].length ≤ 9223372036854775807 := fun k h => hm _ (List.getElem_mem h)
  have HM := hide hm'
  clear hm hm'
  go_enter Tryd.func40, Tryd.ntmps40
  go_wp2_with fail
  go_loop [8] (fun s8 => ∃ k : Nat, s8 = .int .i64 (k : Int) ∧ k ≤ n ∧ Hid ((l.take k).any (fun s => decide (128 < s.length)) = false)) (fun s8 => n - (intOf s8).toNat)
  case atStart => exact ⟨0, rfl, by omega, hide (by simp)⟩
  case round =>
    obtain ⟨k, rfl, hk, HA⟩ := hrel
    by_cases hlt : k < n
    · obtain ⟨b, o, hkl, rfl, hb, hcell⟩ := hl.at_ hlt
      have hx : (⟨l[k].toArray⟩ : ByteArray).size ≤ 9223372036854775807 := by rw [ba_size]; exact HM.out k hkl
      have Hs : Hid ((⟨l[k].toArray⟩ : ByteArray).size = l[k].length) := hide (ba_size _)
      have Hsn : Hid (l.take (k + 1) = l.take k ++ [l[k]]) := hide (List.take_succ_eq_append_getElem hkl)
      have Hmem : Hid (l[k] ∈ l) := hide (List.getElem_mem hkl)
      generalize l[k] = x at *
      by_cases hlong : 128 < (⟨x.toArray⟩ : ByteArray).size
      · have Hany : Hid (l.any (fun s => decide (128 < s.length)) = true) := hide (List.any_eq_true.2 ⟨x, Hmem.out, by rw [← Hs.out]; simpa using hlong⟩)
        go_wp2_with fail
        refine (isLong_any ⟨x.toArray⟩ _ hx).mono ?_
        rintro e w1 ⟨rfl, rfl⟩
        rw [decide_eq_true hlong]
        go_wp2
        go_ret
        exact ⟨⟨(k : Int), by go_num, by rw [Hany.out]; simp⟩, rfl⟩
      · have HA2 : Hid ((l.take (k + 1)).any (fun s => decide (128 < s.length)) = false) := hide (by rw [Hsn.out, List.any_append, HA.out]; simp only [List.any_cons, List.any_nil, Bool.or_false, Bool.false_or]; rw [← Hs.out]; exact decide_eq_false hlong)
        go_wp2_with fail
        refine (isLong_any ⟨x.toArray⟩ _ hx).mono ?_
        rintro e w1 ⟨rfl, rfl⟩
        rw [decide_eq_false hlong]
        go_wp2
        go_round
        case rel => exact ⟨k + 1, by go_num, by omega, HA2⟩
        case measure => simp [intOf]; omega
    · obtain rfl : k = n := by omega
      have HA2 : Hid (l.any (fun s => decide (128 < s.length)) = false) := hide (by have := HA.out; rwa [List.take_of_length_le (by omega)] at this)
      go_wp2
      go_ret
      exact ⟨⟨-1, rfl, by rw [HA2.out]; rfl⟩, rfl⟩

set_option maxHeartbeats 1000000 in
theorem containsFunc_any (A : Option Addr) (n c B : Nat) (l : List (List UInt8)) (w : World) (hl : Strs w B A n l) (hn : n ≤ 9223372036854775807) (hm : ∀ x ∈ l, x.length ≤ 9223372036854775807) :
    Calls Tryd.prog 25 #[.slice A n c, .func (.func 26) #[] #[]] w fun e w' => e = .returned (.bool (l.any fun s => decide (128 < s.length))) ∧ w = w' := by
  have HM := hide hm
  clear hm
  go_enter Tryd.func25, Tryd.ntmps25
  go_wp2_with fail
  refine (indexFunc_any A n c B l _ hl hn HM.out).mono ?_
  rintro e w1 ⟨⟨v, rfl, hv⟩, rfl⟩
  have HV := hide hv
  clear hv
  go_wp2
  go_ret
  exact ⟨ret_bool HV.out, rfl⟩

set_option maxHeartbeats 1000000 in
theorem valuesOf_any (x : Cd.Ins) (w : World) : Calls Tryd.prog 41 #[ia x] w fun e w' => e = .returned (.agg #[.int .i64 x.a, .int .i64 x.b, .int .i64 x.c]) ∧ Below w.heap.size w w' := by
  obtain ⟨op, a, b, c⟩ := x
  unfold ia
  simp only
  have O1 := Obl.make w 72 #[.int .i64 op, .int .i64 a, .int .i64 b, .int .i64 c]
  go_enter Tryd.func41, Tryd.ntmps41
  go_wp2
  have O2 : Obl ((w.alloc (.cells #[.int .i64 op, .int .i64 a, .int .i64 b, .int .i64 c] 72)).alloc (.cells #[.int .i64 a, .int .i64 b, .int .i64 c] 91)) (w.heap.size + 1) 91 #[.int .i64 a, .int .i64 b, .int .i64 c] := by
    simpa using Obl.make (w.alloc (.cells #[.int .i64 op, .int .i64 a, .int .i64 b, .int .i64 c] 72)) 91 #[.int .i64 a, .int .i64 b, .int .i64 c]
  refine bodyPost_ret (results_cell_1 rfl _ (b := w.heap.size + 1) rfl O2 Tryd.underlying91 rfl valSize) rfl ?_
  refine ⟨rfl, ?_⟩
  go_grown
/-- Two numbers. -/
def IntsPost (x y : Int) (w : World) (e : Ending) (w' : World) : Prop := e = .returned (.tuple #[.int .i64 x, .int .i64 y]) ∧ Below w.heap.size w w'
theorem IntsPost.of {x y x' y' : Int} {w w' : World} {e : Ending} (hx : x = x') (hy : y = y') (he : e = .returned (.tuple #[.int .i64 x', .int .i64 y'])) (hb : Below w.heap.size w w') : IntsPost x y w e w' := by subst hx hy; exact ⟨he, hb⟩

set_option maxHeartbeats 1000000 in
theorem bounds_any (nm f : ByteArray) (ls ms : Int) (i n : Nat) (j : Int) (w : World) (_hf : f.size ≤ 9223372036854775807) (_hi : i ≤ 100) (hj : j = (i : Int)) :
    Calls Tryd.prog 42 #[.agg #[.string nm, .string f, .int .i64 ls, .int .i64 ms], .int .i64 j, .int .i64 (n : Int)] w (IntsPost (Cd.bnd ⟨nm.data.toList, f.data.toList, ls, ms⟩ n i).1 (Cd.bnd ⟨nm.data.toList, f.data.toList, ls, ms⟩ n i).2 w) := by
  subst hj
  have hsz := Lib.size_eq f
  have O1 := Obl.make w 95 #[.string nm, .string f, .int .i64 ls, .int .i64 ms]
  by_cases hlt : i < f.size
  · have hat := str_at hlt
    by_cases h1 : f[i] = 114
    · have hB : Hid (Cd.bnd ⟨nm.data.toList, f.data.toList, ls, ms⟩ n i = (0, 7)) := hide (by unfold Cd.bnd; simp only [hat, h1, if_true])
      have e1 : ((f[i].toNat : Int) == 114) = true := by rw [h1]; rfl
      clear hat h1 hsz
      go_enter Tryd.func42, Tryd.ntmps42
      go_wp2
      go_ret2
      refine IntsPost.of (by rw [hB.out]) (by rw [hB.out]) rfl ?_
      go_grown
    · have n1 := ne_nat h1
      by_cases h2 : f[i] = 116
      · have hB : Hid (Cd.bnd ⟨nm.data.toList, f.data.toList, ls, ms⟩ n i = (0, (n : Int))) := hide (by unfold Cd.bnd; simp only [hat, h2]; rfl)
        have e1 : ((f[i].toNat : Int) == 114) = false := by rw [h2]; rfl
        have e2 : ((f[i].toNat : Int) == 116) = true := by rw [h2]; rfl
        clear hat h1 hsz n1 h2
        go_enter Tryd.func42, Tryd.ntmps42
        go_wp2
        go_ret2
        refine IntsPost.of (by rw [hB.out]) (by rw [hB.out]) rfl ?_
        go_grown
      · have n2 := ne_nat h2
        have hB : Hid (Cd.bnd ⟨nm.data.toList, f.data.toList, ls, ms⟩ n i = (ls, ms)) := hide (by unfold Cd.bnd; simp only [hat, if_neg h1, if_neg h2])
        have e1 : ((f[i].toNat : Int) == 114) = false := by simpa using fun h => n1 (by rw [show (114 : UInt8).toNat = 114 from rfl]; omega)
        have e2 : ((f[i].toNat : Int) == 116) = false := by simpa using fun h => n2 (by rw [show (116 : UInt8).toNat = 116 from rfl]; omega)
        clear hat h1 hsz n1 h2 n2
        go_enter Tryd.func42, Tryd.ntmps42
        go_wp2_with (go_quiet (fail))
        all_goals
          go_ret2
          refine IntsPost.of (by rw [hB.out]) (by rw [hB.out]) rfl ?_
          first | (go_grown; done) | exact below_drewN ((Below.refl _ _).alloc (Nat.le_refl _) _) _
  · have hB : Hid (Cd.bnd ⟨nm.data.toList, f.data.toList, ls, ms⟩ n i = (0, 0)) := hide (by unfold Cd.bnd; simp only; rw [List.getElem?_eq_none (by omega)])
    clear hsz
    go_enter Tryd.func42, Tryd.ntmps42
    go_wp2
    go_ret2
    refine IntsPost.of (by rw [hB.out]) (by rw [hB.out]) rfl ?_
    go_grown

/-- An operation, as its cells hold it. -/
theorem opn_open {k : Nat} (hk : k < 13) : ∃ (nm f : ByteArray) (ls ms : Int), Cd.opn (k : Int) = ⟨nm.data.toList, f.data.toList, ls, ms⟩ ∧ f.size ≤ 3 ∧ nm.size ≤ 5 ∧ ∀ w, LaidO w →
    w.cell? ⟨0, k * 4, none⟩ = some (.string nm) ∧ w.cell? ⟨0, k * 4 + 1, none⟩ = some (.string f) ∧
    w.cell? ⟨0, k * 4 + 2, none⟩ = some (.int .i64 ls) ∧ w.cell? ⟨0, k * 4 + 3, none⟩ = some (.int .i64 ms) := by
  refine ⟨⟨(Cd.opn (k : Int)).name.toArray⟩, ⟨(Cd.opn (k : Int)).form.toArray⟩, (Cd.opn (k : Int)).least, (Cd.opn (k : Int)).most, rfl, ?_, ?_, fun w h => h.at_ hk⟩
  · rw [ba_size]; exact Cd.form_le _
  · rw [ba_size]; exact (Cd.name_ok (by omega) (by omega)).2.2.1
theorem right_not {n : Nat} {x : Cd.Ins} (h : x.op < 0 ∨ 12 < x.op) : Cd.right n x = false := by
  unfold Cd.right
  rcases h with h | h
  · rw [decide_eq_false (by omega)]; rfl
  · rw [decide_eq_false (p := x.op ≤ 12) (by omega)]; simp
theorem right_op {n k : Nat} (hk : k < 13) (a b c : Int) {o : Cd.Opn} (ho : Cd.opn (k : Int) = o) : Cd.right n ⟨(k : Int), a, b, c⟩ = (Cd.fits o n 0 a && (Cd.fits o n 1 b && Cd.fits o n 2 c)) := by
  subst ho
  unfold Cd.right
  rw [decide_eq_true (show 0 ≤ ((k : Nat) : Int) by omega), decide_eq_true (show ((k : Nat) : Int) ≤ 12 by omega)]; rfl
/-- The operands ahead of j are right. -/
def fitsTo (o : Cd.Opn) (n : Nat) (a b c : Int) (j : Nat) : Prop := (0 < j → Cd.fits o n 0 a = true) ∧ (1 < j → Cd.fits o n 1 b = true) ∧ (2 < j → Cd.fits o n 2 c = true)
theorem fits_no {o : Cd.Opn} {n i : Nat} {v : Int} (h : v < (Cd.bnd o n i).1 ∨ (Cd.bnd o n i).2 < v) : Cd.fits o n i v = false := by
  unfold Cd.fits
  rcases h with h | h
  · rw [decide_eq_false (by omega)]; rfl
  · rw [decide_eq_false (p := v ≤ _) (by omega)]; simp
theorem fits_yes {o : Cd.Opn} {n i : Nat} {v : Int} (h1 : ¬ v < (Cd.bnd o n i).1) (h2 : ¬ (Cd.bnd o n i).2 < v) : Cd.fits o n i v = true := by
  unfold Cd.fits
  rw [decide_eq_true (by omega), decide_eq_true (by omega)]; rfl

end Go.Proofs.YtdglcpepgodcpaaDoor
namespace Go.Proofs.YtdglcpepgodcpaaDoor
open Go.RowKit

set_option maxRecDepth 100000 in
set_option maxHeartbeats 2000000 in
theorem isRight_any (x : Cd.Ins) (n : Nat) (w : World) (hL : LaidO w) :
    Calls Tryd.prog 27 #[ia x, .int .i64 (n : Int)] w fun e w' => e = .returned (.bool (Cd.right n x)) ∧ Below w.heap.size w w' := by
  obtain ⟨op, a, b, c⟩ := x
  unfold ia
  simp only
  have O1 := Obl.make w 72 #[.int .i64 op, .int .i64 a, .int .i64 b, .int .i64 c]
  by_cases h0 : op < 0
  · rw [right_not (x := ⟨op, a, b, c⟩) (.inl h0)]
    go_enter Tryd.func27, Tryd.ntmps27
    go_wp2
    go_ret
    refine ⟨rfl, ?_⟩
    go_grown
  · by_cases h12 : 12 < op
    · rw [right_not (x := ⟨op, a, b, c⟩) (.inr h12)]
      go_enter Tryd.func27, Tryd.ntmps27
      go_wp2
      go_ret
      refine ⟨rfl, ?_⟩
      go_grown
    · obtain ⟨k, rfl⟩ := Int.eq_ofNat_of_zero_le (show 0 ≤ op by omega)
      have hk : k < 13 := by omega
      obtain ⟨nm, f, ls, ms, ho, hf3, hnm5, hall⟩ := opn_open hk
      have HR := hide (right_op (n := n) hk a b c ho)
      have HL0 := hide hL
      have HA := hide hall
      clear hL hall ho h0 h12
      have hb0 : Below w.heap.size w (w.alloc (.cells #[.int .i64 (k : Int), .int .i64 a, .int .i64 b, .int .i64 c] 72)) := (Below.refl _ _).alloc (Nat.le_refl _) _
      have HL1 : Hid (LaidO (w.alloc (.cells #[.int .i64 (k : Int), .int .i64 a, .int .i64 b, .int .i64 c] 72))) := hide (HL0.out.alloc _)
      have hlt0 := HL0.out.lt
      have i0 : ∀ w, (Instr.index 91 (.agg #[.int .i64 a, .int .i64 b, .int .i64 c]) (.int .i64 0)).run Tryd.prog w = .ok (.int .i64 a) w := fun _ => by kernel_rfl
      have i1 : ∀ w, (Instr.index 91 (.agg #[.int .i64 a, .int .i64 b, .int .i64 c]) (.int .i64 1)).run Tryd.prog w = .ok (.int .i64 b) w := fun _ => by kernel_rfl
      have i2 : ∀ w, (Instr.index 91 (.agg #[.int .i64 a, .int .i64 b, .int .i64 c]) (.int .i64 2)).run Tryd.prog w = .ok (.int .i64 c) w := fun _ => by kernel_rfl
      go_enter Tryd.func27, Tryd.ntmps27
      go_wp2_with fail
      refine (valuesOf_any ⟨(k : Int), a, b, c⟩ _).mono ?_
      rintro e w1 ⟨rfl, hb1⟩
      go_wp2_with fail
      go_loopw [19] (fun s19 wr => ∃ j : Nat, s19 = .int .i64 (j : Int) ∧ j ≤ 3 ∧ Hid (fitsTo ⟨nm.data.toList, f.data.toList, ls, ms⟩ n a b c j) ∧ Below (w.heap.size + 1) (w.alloc (.cells #[.int .i64 (k : Int), .int .i64 a, .int .i64 b, .int .i64 c] 72)) wr) (fun s19 _ => 3 - (intOf s19).toNat)
      case atStart => exact ⟨0, rfl, by omega, hide ⟨by omega, by omega, by omega⟩, by simpa using hb1⟩
      case round =>
        obtain ⟨j, rfl, hj, HF, hb⟩ := hrel
        have O1' := O1.below hb (by omega)
        have p0 := O1'.cell 0
        simp at p0
        have hLr := HL1.out.belowLe (by omega) hb
        obtain ⟨c0, c1, c2, c3⟩ := HA.out _ hLr
        have hbw : Below w.heap.size w wr := hb0.trans (hb.mono (by omega))
        have hsz := hb.size
        simp at hsz
        clear hLr
        by_cases hlt : j < 3
        · rcases (show j = 0 ∨ j = 1 ∨ j = 2 by omega) with rfl | rfl | rfl
          · go_wp2_with fail
            refine (bounds_any nm f ls ms 0 n 0 _ (by omega) (by omega) rfl).mono ?_
            rintro e w2 ⟨rfl, hb2⟩
            have hbw2 := hbw.trans (hb2.mono (by omega))
            have hb2' := hb.trans (hb2.mono (by omega))
            by_cases hlo : a < (Cd.bnd ⟨nm.data.toList, f.data.toList, ls, ms⟩ n 0).1
            · have HN : Hid (Cd.right n ⟨(k : Int), a, b, c⟩ = false) := hide (by rw [HR.out, fits_no (.inl hlo)]; rfl)
              generalize (Cd.bnd ⟨nm.data.toList, f.data.toList, ls, ms⟩ n 0).1 = lo at *
              generalize (Cd.bnd ⟨nm.data.toList, f.data.toList, ls, ms⟩ n 0).2 = hi at *
              go_wp2
              go_ret
              exact ⟨ret_bool HN.out.symm, hbw2⟩
            · by_cases hhi : (Cd.bnd ⟨nm.data.toList, f.data.toList, ls, ms⟩ n 0).2 < a
              · have HN : Hid (Cd.right n ⟨(k : Int), a, b, c⟩ = false) := hide (by rw [HR.out, fits_no (.inr hhi)]; rfl)
                generalize (Cd.bnd ⟨nm.data.toList, f.data.toList, ls, ms⟩ n 0).1 = lo at *
                generalize (Cd.bnd ⟨nm.data.toList, f.data.toList, ls, ms⟩ n 0).2 = hi at *
                go_wp2
                go_ret
                exact ⟨ret_bool HN.out.symm, hbw2⟩
              · have HY : Hid (fitsTo ⟨nm.data.toList, f.data.toList, ls, ms⟩ n a b c 1) := hide ⟨fun _ => fits_yes hlo hhi, by omega, by omega⟩
                generalize (Cd.bnd ⟨nm.data.toList, f.data.toList, ls, ms⟩ n 0).1 = lo at *
                generalize (Cd.bnd ⟨nm.data.toList, f.data.toList, ls, ms⟩ n 0).2 = hi at *
                go_wp2
                go_roundw
                case rel => exact ⟨1, rfl, by omega, HY, hb2'⟩
                case measure => simp [intOf]
          · go_wp2_with fail
            refine (bounds_any nm f ls ms 1 n 1 _ (by omega) (by omega) rfl).mono ?_
            rintro e w2 ⟨rfl, hb2⟩
            have hbw2 := hbw.trans (hb2.mono (by omega))
            have hb2' := hb.trans (hb2.mono (by omega))
            by_cases hlo : b < (Cd.bnd ⟨nm.data.toList, f.data.toList, ls, ms⟩ n 1).1
            · have HN : Hid (Cd.right n ⟨(k : Int), a, b, c⟩ = false) := hide (by rw [HR.out, fits_no (.inl hlo)]; simp)
              generalize (Cd.bnd ⟨nm.data.toList, f.data.toList, ls, ms⟩ n 1).1 = lo at *
              generalize (Cd.bnd ⟨nm.data.toList, f.data.toList, ls, ms⟩ n 1).2 = hi at *
              go_wp2
              go_ret
              exact ⟨ret_bool HN.out.symm, hbw2⟩
            · by_cases hhi : (Cd.bnd ⟨nm.data.toList, f.data.toList, ls, ms⟩ n 1).2 < b
              · have HN : Hid (Cd.right n ⟨(k : Int), a, b, c⟩ = false) := hide (by rw [HR.out, fits_no (.inr hhi)]; simp)
                generalize (Cd.bnd ⟨nm.data.toList, f.data.toList, ls, ms⟩ n 1).1 = lo at *
                generalize (Cd.bnd ⟨nm.data.toList, f.data.toList, ls, ms⟩ n 1).2 = hi at *
                go_wp2
                go_ret
                exact ⟨ret_bool HN.out.symm, hbw2⟩
              · have HY : Hid (fitsTo ⟨nm.data.toList, f.data.toList, ls, ms⟩ n a b c 2) := hide ⟨fun _ => HF.out.1 (by omega), fun _ => fits_yes hlo hhi, by omega⟩
                generalize (Cd.bnd ⟨nm.data.toList, f.data.toList, ls, ms⟩ n 1).1 = lo at *
                generalize (Cd.bnd ⟨nm.data.toList, f.data.toList, ls, ms⟩ n 1).2 = hi at *
                go_wp2
                go_roundw
                case rel => exact ⟨2, rfl, by omega, HY, hb2'⟩
                case measure => simp [intOf]
          · go_wp2_with fail
            refine (bounds_any nm f ls ms 2 n 2 _ (by omega) (by omega) rfl).mono ?_
            rintro e w2 ⟨rfl, hb2⟩
            have hbw2 := hbw.trans (hb2.mono (by omega))
            have hb2' := hb.trans (hb2.mono (by omega))
            by_cases hlo : c < (Cd.bnd ⟨nm.data.toList, f.data.toList, ls, ms⟩ n 2).1
            · have HN : Hid (Cd.right n ⟨(k : Int), a, b, c⟩ = false) := hide (by rw [HR.out, fits_no (.inl hlo)]; simp)
              generalize (Cd.bnd ⟨nm.data.toList, f.data.toList, ls, ms⟩ n 2).1 = lo at *
              generalize (Cd.bnd ⟨nm.data.toList, f.data.toList, ls, ms⟩ n 2).2 = hi at *
              go_wp2
              go_ret
              exact ⟨ret_bool HN.out.symm, hbw2⟩
            · by_cases hhi : (Cd.bnd ⟨nm.data.toList, f.data.toList, ls, ms⟩ n 2).2 < c
              · have HN : Hid (Cd.right n ⟨(k : Int), a, b, c⟩ = false) := hide (by rw [HR.out, fits_no (.inr hhi)]; simp)
                generalize (Cd.bnd ⟨nm.data.toList, f.data.toList, ls, ms⟩ n 2).1 = lo at *
                generalize (Cd.bnd ⟨nm.data.toList, f.data.toList, ls, ms⟩ n 2).2 = hi at *
                go_wp2
                go_ret
                exact ⟨ret_bool HN.out.symm, hbw2⟩
              · have HY : Hid (fitsTo ⟨nm.data.toList, f.data.toList, ls, ms⟩ n a b c 3) := hide ⟨fun _ => HF.out.1 (by omega), fun _ => HF.out.2.1 (by omega), fun _ => fits_yes hlo hhi⟩
                generalize (Cd.bnd ⟨nm.data.toList, f.data.toList, ls, ms⟩ n 2).1 = lo at *
                generalize (Cd.bnd ⟨nm.data.toList, f.data.toList, ls, ms⟩ n 2).2 = hi at *
                go_wp2
                go_roundw
                case rel => exact ⟨3, rfl, by omega, HY, hb2'⟩
                case measure => simp [intOf]
        · obtain rfl : j = 3 := by omega
          have HN : Hid (Cd.right n ⟨(k : Int), a, b, c⟩ = true) := hide (by
            obtain ⟨g1, g2, g3⟩ := HF.out
            rw [HR.out, g1 (by omega), g2 (by omega), g3 (by omega)]; rfl)
          go_wp2
          go_ret
          exact ⟨ret_bool HN.out.symm, hbw⟩

theorem IntsPost.pair {r : Nat × Nat} {x y : Nat} {w w' : World} {e : Ending} (hr : r = (x, y)) (he : e = .returned (.tuple #[.int .i64 (x : Int), .int .i64 (y : Int)])) (hb : Below w.heap.size w w') : IntsPost (r.1 : Int) (r.2 : Int) w e w' := by subst hr; exact ⟨he, hb⟩
theorem below_boxed {w w' : World} {o : Obj} (h : Below (w.alloc o).heap.size (w.alloc o) w') : Below w.heap.size w w' := ((Below.refl _ _).alloc (Nat.le_refl _) _).trans (h.mono (by simp))

theorem right_len {code : List Cd.Ins} {n : Nat} (h : code.length = n) {x : Cd.Ins} (hx : Cd.right n x = true) : Cd.right code.length x = true := by rw [h]; exact hx
theorem right_len' {code : List Cd.Ins} {n : Nat} (h : code.length = n) {x : Cd.Ins} (hx : Cd.right n x = false) : Cd.right code.length x = false := by rw [h]; exact hx
set_option maxRecDepth 100000 in
set_option maxHeartbeats 4000000 in
theorem check_any (p : Cd.Pr) (A D : Option Addr) (n c m d B : Nat) (w : World) (hi : Inss w B A n p.code) (hs : Strs w B D m p.strs) (hB : B ≤ w.heap.size) (hn : n ≤ 9223372036854775807) (hm : m ≤ 9223372036854775807) (hl : ∀ x ∈ p.strs, x.length ≤ 9223372036854775807) (hL : LaidO w) :
    Calls Tryd.prog 10 #[.agg #[.slice A n c, .slice D m d, .int .i64 p.pages]] w (IntsPost ((Cd.check p).1 : Int) ((Cd.check p).2 : Int) w) := by
  obtain ⟨code, strs, pages⟩ := p
  simp only at hi hs hl
  have hnl := hi.len
  have hml := hs.len
  have O1 := Obl.make w 29 #[.slice A n c, .slice D m d, .int .i64 pages]
  by_cases h1 : 256 < n
  · have HC : Hid (Cd.check ⟨code, strs, pages⟩ = (0, 3)) := hide (Cd.check_limit (.inl (.inl (by simp only; omega))))
    clear hi hs hl hL
    go_enter Tryd.func10, Tryd.ntmps10
    go_wp2
    go_ret2
    refine IntsPost.pair HC.out rfl ?_
    go_grown
  · by_cases h2 : 32 < m
    · have HC : Hid (Cd.check ⟨code, strs, pages⟩ = (0, 3)) := hide (Cd.check_limit (.inl (.inr (by simp only; omega))))
      clear hi hs hl hL
      go_enter Tryd.func10, Tryd.ntmps10
      go_wp2
      go_ret2
      refine IntsPost.pair HC.out rfl ?_
      go_grown
    · have hi1 := hi.alloc hB (.cells #[.slice A n c, .slice D m d, .int .i64 pages] 29)
      have hs1 : Strs (w.alloc (.cells #[.slice A n c, .slice D m d, .int .i64 pages] 29)) B D m strs := hs.below ((Below.refl _ _).alloc hB _)
      have HL1 := hide (hL.alloc (.cells #[.slice A n c, .slice D m d, .int .i64 pages] 29))
      have HM := hide hl
      have hlt0 := hL.lt
      clear hl hL hi hs
      cases hany : strs.any (fun s => decide (128 < s.length)) with
      | true =>
        have HC : Hid (Cd.check ⟨code, strs, pages⟩ = (0, 3)) := hide (Cd.check_limit (.inr hany))
        have HA := hide hany
        clear hany
        go_enter Tryd.func10, Tryd.ntmps10
        go_wp2_with fail
        refine (containsFunc_any D m d B strs _ hs1 hm HM.out).mono ?_
        rintro e w1 ⟨rfl, rfl⟩
        rw [HA.out]
        go_wp2
        go_ret2
        refine IntsPost.pair HC.out rfl ?_
        go_grown
      | false =>
        have HA := hide hany
        have HN : Hid (¬ ((256 < code.length ∨ 32 < strs.length) ∨ (strs.any fun s => decide (128 < s.length)) = true)) := hide (by rw [hany]; simp; omega)
        clear hany
        by_cases h3 : pages < 0
        · have HC : Hid (Cd.check ⟨code, strs, pages⟩ = (0, 2)) := hide (Cd.check_range HN.out (.inl h3))
          go_enter Tryd.func10, Tryd.ntmps10
          go_wp2_with fail
          refine (containsFunc_any D m d B strs _ hs1 hm HM.out).mono ?_
          rintro e w1 ⟨rfl, rfl⟩
          rw [HA.out]
          go_wp2
          go_ret2
          refine IntsPost.pair HC.out rfl ?_
          go_grown
        · by_cases h4 : 16 < pages
          · have HC : Hid (Cd.check ⟨code, strs, pages⟩ = (0, 2)) := hide (Cd.check_range HN.out (.inr h4))
            go_enter Tryd.func10, Tryd.ntmps10
            go_wp2_with fail
            refine (containsFunc_any D m d B strs _ hs1 hm HM.out).mono ?_
            rintro e w1 ⟨rfl, rfl⟩
            rw [HA.out]
            go_wp2
            go_ret2
            refine IntsPost.pair HC.out rfl ?_
            go_grown
          · have HP : Hid (¬ (pages < 0 ∨ 16 < pages)) := hide (by omega)
            go_enter Tryd.func10, Tryd.ntmps10
            go_wp2_with fail
            refine (containsFunc_any D m d B strs _ hs1 hm HM.out).mono ?_
            rintro e w1 ⟨rfl, rfl⟩
            rw [HA.out]
            clear hs1
            go_wp2_with fail
            go_loopw [32] (fun s32 wr => ∃ k : Nat, s32 = .int .i64 (k : Int) ∧ k ≤ n ∧ Hid (∀ j, (hj : j < k) → (hc : j < code.length) → Cd.right n (code[j]'hc) = true) ∧ Below (w.heap.size + 1) (w.alloc (.cells #[.slice A n c, .slice D m d, .int .i64 pages] 29)) wr) (fun s32 _ => n - (intOf s32).toNat)
            case atStart => exact ⟨0, rfl, by omega, hide (fun j hj => absurd hj (by omega)), by simpa using Below.refl _ _⟩
            case round =>
              obtain ⟨k, rfl, hk, HR, hb⟩ := hrel
              have O1' := O1.below hb (by omega)
              have p0 := O1'.cell 0
              simp at p0
              have hbw : Below w.heap.size w wr := ((Below.refl _ _).alloc (Nat.le_refl _) _).trans (hb.mono (by omega))
              have hsz := hb.size
              simp at hsz
              by_cases hlt : k < n
              · obtain ⟨bb, oo, hkl, rfl, hbb, c0, c1, c2, c3⟩ := (hi1.belowLe hb (by omega)).at_ hlt
                have HLr : Hid (LaidO (wr.alloc (.cells #[.int .i64 code[k].op, .int .i64 code[k].a, .int .i64 code[k].b, .int .i64 code[k].c] 72))) := hide ((HL1.out.belowLe (by omega) hb).alloc _)
                have hbx : Below (w.heap.size + 1) (w.alloc (.cells #[.slice (some ⟨bb, oo, none⟩) n c, .slice D m d, .int .i64 pages] 29)) (wr.alloc (.cells #[.int .i64 code[k].op, .int .i64 code[k].a, .int .i64 code[k].b, .int .i64 code[k].c] 72)) := hb.alloc hsz _
                have p0' := (O1'.alloc (.cells #[.int .i64 code[k].op, .int .i64 code[k].a, .int .i64 code[k].b, .int .i64 code[k].c] 72)).cell 0
                simp at p0'
                have HLen := hide hnl
                cases hr : Cd.right n code[k] with
                | true =>
                  have HR2 : Hid (∀ j, (hj : j < k + 1) → (hc : j < code.length) → Cd.right n (code[j]'hc) = true) := hide (fun j hj hc => by
                    rcases Nat.lt_or_ge j k with g | g
                    · exact HR.out j g hc
                    · obtain rfl : j = k := by omega
                      exact hr)
                  have HX := hide hr
                  clear hr
                  generalize code[k] = x at *
                  go_wp2_with fail
                  refine (isRight_any x n _ HLr.out).mono ?_
                  rintro e w2 ⟨rfl, hb2⟩
                  rw [HX.out]
                  have hb3 := hbx.trans (hb2.mono (by simp; omega))
                  go_wp2
                  go_roundw
                  case rel => exact ⟨k + 1, by go_num, by omega, HR2, hb3⟩
                  case measure => simp [intOf]; omega
                | false =>
                  have HC : Hid (Cd.check ⟨code, strs, pages⟩ = (k, 1)) := hide (Cd.check_bad HN.out HP.out hkl (right_len' HLen.out hr) (fun j hj => right_len HLen.out (HR.out j hj (by omega))))
                  have HX := hide hr
                  clear hr
                  generalize code[k] = x at *
                  go_wp2_with fail
                  refine (isRight_any x n _ HLr.out).mono ?_
                  rintro e w2 ⟨rfl, hb2⟩
                  rw [HX.out]
                  have hb3 := hbx.trans (hb2.mono (by simp; omega))
                  go_wp2
                  go_ret2
                  exact IntsPost.pair HC.out rfl (((Below.refl _ _).alloc (Nat.le_refl _) _).trans (hb3.mono (by omega)))
              · obtain rfl : k = n := by omega
                have HC : Hid (Cd.check ⟨code, strs, pages⟩ = (0, 0)) := hide (Cd.check_ok HN.out HP.out (fun j hj => right_len hnl (HR.out j (by simp only at hj; omega) hj)))
                go_wp2
                go_ret2
                exact IntsPost.pair HC.out rfl hbw
end Go.Proofs.YtdglcpepgodcpaaDoor
namespace Go.Proofs.YtdglcpepgodcpaaDoor
open Go.RowKit



theorem ix4 (a b d f c : UInt8) (h1 : c ≠ a) (h2 : c ≠ b) (h3 : c ≠ d) (h4 : c ≠ f) : Lib.indexByte [a, b, d, f] c = -1 := by
  have k : ∀ x : UInt8, c ≠ x → (x == c) = false := fun x h => by simpa using fun e => h e.symm
  simp [Lib.indexByte, k a h1, k b h2, k d h3, k f h4]
theorem next_sep (c : UInt8) (wd : List UInt8) (ws : List (List UInt8)) : Wd.next (5, wd, ws) c = if c.toNat = 32 then (1, [], ws ++ [wd]) else (6, wd, ws) := rfl
theorem next_wrong (c : UInt8) (wd : List UInt8) (ws : List (List UInt8)) : Wd.next (6, wd, ws) c = (6, wd, ws) := rfl

end Go.Proofs.YtdglcpepgodcpaaDoor
namespace Go.Proofs.YtdglcpepgodcpaaDoor
open Go.RowKit


/-- Strings and an error code. -/
def StrsPost (r : List (List UInt8) × Nat) (w : World) (e : Ending) (w' : World) : Prop :=
  ∃ A c, e = .returned (.tuple #[.slice A r.1.length c, .int .i64 (r.2 : Int)]) ∧ r.1.length ≤ c ∧ c ≤ 9223372036854775807 ∧ Strs w' w'.heap.size A r.1.length r.1 ∧ Below w.heap.size w w'
theorem StrsPost.of {r : List (List UInt8) × Nat} {l : List (List UInt8)} {er n c : Nat} {w w' : World} {e : Ending} {A : Option Addr} (hr : r = (l, er)) (he : e = .returned (.tuple #[.slice A n c, .int .i64 (er : Int)])) (hn : n ≤ c) (hc : c ≤ 9223372036854775807) (hs : Strs w' w'.heap.size A n l) (hb : Below w.heap.size w w') : StrsPost r w e w' := by
  subst hr
  obtain rfl := hs.len
  exact ⟨A, c, he, hn, hc, hs, hb⟩

/-- What reading a word leaves. -/
def WordPost (s : ByteArray) (r : Option (List UInt8 × List UInt8)) (w : World) (e : Ending) (w' : World) : Prop := Below w.heap.size w w' ∧ match r with
  | none => ∃ x y, e = .returned (.tuple #[.string x, .int .i64 y, .bool false])
  | some (wd, rest) => ∃ tq : Nat, tq ≤ s.size ∧ rest = s.data.toList.drop tq ∧ e = .returned (.tuple #[.string ⟨wd.toArray⟩, .int .i64 (tq : Int), .bool true])
theorem WordPost.no {s : ByteArray} {r : Option (List UInt8 × List UInt8)} {w w' : World} {e : Ending} {x : ByteArray} {y : Int} (hr : r = none) (he : e = .returned (.tuple #[.string x, .int .i64 y, .bool false])) (hb : Below w.heap.size w w') : WordPost s r w e w' := by
  subst hr; exact ⟨hb, x, y, he⟩
theorem WordPost.yes {s : ByteArray} {r : Option (List UInt8 × List UInt8)} {w w' : World} {e : Ending} {wd : List UInt8} {tq : Nat} {x : ByteArray} {y : Int} (hr : r = some (wd, s.data.toList.drop tq)) (ht : tq ≤ s.size) (he : e = .returned (.tuple #[.string x, .int .i64 y, .bool true])) (hx : x = ⟨wd.toArray⟩) (hy : y = (tq : Int)) (hb : Below w.heap.size w w') : WordPost s r w e w' := by
  subst hr hx hy; exact ⟨hb, tq, ht, rfl, he⟩


/-- How far the plain bytes go. -/
theorem plain_step (l : List UInt8) (p k : Nat) (c : UInt8) (hk : p ≤ k) (hd : l.drop k = c :: l.drop (k + 1)) (h1 : (l.drop p).takeWhile Wd.plain = (l.drop p).take (k - p) ++ (l.drop k).takeWhile Wd.plain) (h2 : (l.drop p).dropWhile Wd.plain = (l.drop k).dropWhile Wd.plain) (hc : Wd.plain c = true) :
    (l.drop p).takeWhile Wd.plain = (l.drop p).take (k + 1 - p) ++ (l.drop (k + 1)).takeWhile Wd.plain ∧ (l.drop p).dropWhile Wd.plain = (l.drop (k + 1)).dropWhile Wd.plain := by
  have hx : (l.drop p)[k - p]? = some c := by
    rw [List.getElem?_drop, show p + (k - p) = k by omega]
    have := congrArg (fun x => x[0]?) hd
    simpa using this
  constructor
  · rw [h1, hd, List.takeWhile_cons, if_pos hc, show k + 1 - p = (k - p) + 1 by omega, List.take_add_one, hx]
    simp
  · rw [h2, hd, List.dropWhile_cons, if_pos hc]
theorem plain_stop (l : List UInt8) (p k : Nat) (hd : l.drop k = [] ∨ ∃ c r, l.drop k = c :: r ∧ Wd.plain c = false) (h1 : (l.drop p).takeWhile Wd.plain = (l.drop p).take (k - p) ++ (l.drop k).takeWhile Wd.plain) (h2 : (l.drop p).dropWhile Wd.plain = (l.drop k).dropWhile Wd.plain) :
    (l.drop p).takeWhile Wd.plain = (l.drop p).take (k - p) ∧ (l.drop p).dropWhile Wd.plain = l.drop k := by
  rcases hd with hd | ⟨c, r, hd, hc⟩
  · rw [h1, h2, hd]; simp
  · rw [h1, h2, hd, List.takeWhile_cons, List.dropWhile_cons]; simp [hc]
theorem word_plain (l : List UInt8) (p k : Nat) (hk : p ≤ k) (hkl : k ≤ l.length) (h34 : ∀ c r, l.drop p = c :: r → c.toNat ≠ 34) (h1 : (l.drop p).takeWhile Wd.plain = (l.drop p).take (k - p)) (h2 : (l.drop p).dropWhile Wd.plain = l.drop k) :
    Wd.word (l.drop p) = if p < k then some ((l.drop p).take (k - p), l.drop k) else none := by
  cases hd : l.drop p with
  | nil =>
    have : l.length ≤ p := by simpa using hd
    rw [if_neg (by omega)]; rfl
  | cons c r =>
    rw [hd] at h1 h2
    rw [Wd.word_cons, if_neg (h34 c r hd)]
    by_cases hc : Wd.plain c = true
    · rw [if_pos hc]
      have hlt : p < k := by
        rcases Nat.lt_or_ge p k with h | h
        · exact h
        · rw [show k - p = 0 by omega, List.takeWhile_cons, if_pos hc] at h1
          simp at h1
      rw [if_pos hlt, h1, h2]
    · rw [if_neg hc]
      have hlt : ¬ p < k := by
        intro hlt
        rw [List.takeWhile_cons, if_neg hc] at h1
        have := congrArg List.length h1
        simp only [List.length_nil, List.length_take] at this
        have hl : (c :: r).length = l.length - p := by rw [← hd, List.length_drop]
        omega
      rw [if_neg hlt]

theorem no_34 (l out : List UInt8) (c : UInt8) (k : Nat) (hd : l.drop k = c :: l.drop (k + 1)) (h : c = 34) : Wd.quoted false out (l.drop k) = some (out, l.drop (k + 1)) := by
  subst h; rw [hd, Wd.quoted_no]; rfl
theorem no_lf (l out : List UInt8) (c : UInt8) (k : Nat) (hd : l.drop k = c :: l.drop (k + 1)) (h : c = 10 ∨ c = 13) : Wd.quoted false out (l.drop k) = none := by
  rcases h with rfl | rfl <;> (rw [hd, Wd.quoted_no]; rfl)
theorem no_92 (l out : List UInt8) (c : UInt8) (k : Nat) (hd : l.drop k = c :: l.drop (k + 1)) (h : c = 92) : Wd.quoted false out (l.drop k) = Wd.quoted true out (l.drop (k + 1)) := by
  subst h; rw [hd, Wd.quoted_no]; rfl
theorem no_else (l out : List UInt8) (c : UInt8) (k : Nat) (hd : l.drop k = c :: l.drop (k + 1)) (h1 : c ≠ 34) (h2 : c ≠ 10) (h3 : c ≠ 13) (h4 : c ≠ 92) : Wd.quoted false out (l.drop k) = Wd.quoted false (out ++ [c]) (l.drop (k + 1)) := by
  have n1 : c.toNat ≠ 34 := ne_nat h1
  have n2 : c.toNat ≠ 10 := ne_nat h2
  have n3 : c.toNat ≠ 13 := ne_nat h3
  have n4 : c.toNat ≠ 92 := ne_nat h4
  rw [hd, Wd.quoted_no, if_neg n1, if_neg (by omega), if_neg n4]

end Go.Proofs.YtdglcpepgodcpaaDoor
namespace Go.Proofs.YtdglcpepgodcpaaDoor
open Go.RowKit

theorem ba_list (l : List UInt8) : (⟨l.toArray⟩ : ByteArray).toList = l := by rw [Lib.toList_data]

theorem strs_ne {l m : List (List UInt8)} {k : Nat} (hl : k < l.length) (hm : k < m.length) (h : l[k] ≠ m[k]) : l ≠ m := by
  intro e; subst e; exact h rfl

end Go.Proofs.YtdglcpepgodcpaaDoor
namespace Go.Proofs.YtdglcpepgodcpaaDoor
open Go.RowKit

theorem ins_ne {l r : List Cd.Ins} {k : Nat} (hl : k < l.length) (hr : k < r.length) (h : l[k] ≠ r[k]) : l ≠ r := by rintro rfl; exact h rfl
theorem strs_ne' {l r : List (List UInt8)} {k : Nat} (hl : k < l.length) (hr : k < r.length) (h : l[k] ≠ r[k]) : l ≠ r := by rintro rfl; exact h rfl
theorem take_eq_all {α : Type} {l r : List α} {n : Nat} (h : l.take n = r.take n) (hl : l.length = n) (hr : r.length = n) : l = r := by
  rwa [List.take_of_length_le (by omega), List.take_of_length_le (by omega)] at h
theorem take_snoc_eq {α : Type} {l r : List α} {k : Nat} (h : l.take k = r.take k) (hl : k < l.length) (hr : k < r.length) (he : l[k] = r[k]) : l.take (k + 1) = r.take (k + 1) := by
  rw [List.take_succ_eq_append_getElem hl, List.take_succ_eq_append_getElem hr, h, he]
def insEq (x y : Cd.Ins) : Bool := (x.op == y.op) && ((x.a == y.a) && ((x.b == y.b) && (x.c == y.c)))
theorem insEq_iff (x y : Cd.Ins) : insEq x y = true ↔ x = y := by
  obtain ⟨a, b, c, d⟩ := x
  obtain ⟨e, f, g, h⟩ := y
  simp [insEq]

set_option maxRecDepth 100000 in
set_option maxHeartbeats 2000000 in
theorem equalIns_any (A B : Option Addr) (n m c d C : Nat) (l r : List Cd.Ins) (w : World) (ha : Inss w C A n l) (hb : Inss w C B m r) (hn : n ≤ 9223372036854775807) (hm : m ≤ 9223372036854775807) :
    Calls Tryd.prog 52 #[.slice A n c, .slice B m d] w fun e w' => e = .returned (.bool (decide (l = r))) ∧ Below w.heap.size w w' := by
  have hal := ha.len
  have hbl := hb.len
  by_cases hnm : n = m
  · subst hnm
    have e0 : ((n : Int) == n) = true := by simp
    go_enter Tryd.func52, Tryd.ntmps52
    go_wp2_with fail
    go_loopw [13] (fun s13 wr => ∃ (k q : Nat), s13 = .int .i64 (k : Int) ∧ k ≤ n ∧ Hid (l.take k = r.take k) ∧ wr = w.drewN q) (fun s13 _ => n - (intOf s13).toNat)
    case atStart => exact ⟨0, 0, rfl, by omega, hide rfl, rfl⟩
    case round =>
      obtain ⟨k, q, rfl, hk, HE, rfl⟩ := hrel
      by_cases hlt : k < n
      · obtain ⟨b1, o1, hl1, rfl, hb1, c0, c1, c2, c3⟩ := (ha.drewN q).at_ hlt
        obtain ⟨b2, o2, hl2, rfl, hb2, d0, d1, d2, d3⟩ := (hb.drewN q).at_ hlt
        by_cases he : l[k] = r[k]
        · have HE2 := hide (take_snoc_eq HE.out hl1 hl2 he)
          rw [← he] at d0 d1 d2 d3
          generalize l[k] = x at *
          clear he
          have eo : (x.op == x.op) = true := by simp
          have ea : (x.a == x.a) = true := by simp
          have eb : (x.b == x.b) = true := by simp
          have ec : (x.c == x.c) = true := by simp
          go_wp2_with fail
          refine region_B (by kernel_rfl) C ?_
          refine takeB 0 rfl (by kernel_rfl) (fun _ _ _ h => h) (by rfl) (by intro w' hg; go_simp; try with_reducible rfl) ?_
          refine takeB 1 rfl (by kernel_rfl) (fun _ _ _ h => h) (by rfl) (by intro w' hg; go_simp; try with_reducible rfl) ?_
          refine takeB 2 rfl (by kernel_rfl) (fun _ _ _ h => h) (by rfl) (by intro w' hg; go_simp; try with_reducible rfl) ?_
          refine takeB 3 rfl (by kernel_rfl) (fun _ _ _ h => h) (by rfl) (by intro w' hg; have g0 := (hg.cell (p := ⟨b1, o1 + k * 4, none⟩) hb1).trans (show (w.drewN q).drew.cell? _ = _ from c0); have g1 := (hg.cell (p := ⟨b1, o1 + k * 4 + 1, none⟩) hb1).trans (show (w.drewN q).drew.cell? _ = _ from c1); have g2 := (hg.cell (p := ⟨b1, o1 + k * 4 + 2, none⟩) hb1).trans (show (w.drewN q).drew.cell? _ = _ from c2); have g3 := (hg.cell (p := ⟨b1, o1 + k * 4 + 3, none⟩) hb1).trans (show (w.drewN q).drew.cell? _ = _ from c3); go_simp; try with_reducible rfl) ?_
          refine takeB 4 rfl (by kernel_rfl) (fun _ _ _ h => h) (by rfl) (by intro w' hg; go_simp; try with_reducible rfl) ?_
          refine takeB 5 rfl (by kernel_rfl) (fun _ _ _ h => h) (by rfl) (by intro w' hg; go_simp; try with_reducible rfl) ?_
          refine takeB 6 rfl (by kernel_rfl) (fun _ _ _ h => h) (by rfl) (by intro w' hg; go_simp; try with_reducible rfl) ?_
          refine takeB 7 rfl (by kernel_rfl) (fun _ _ _ h => h) (by rfl) (by intro w' hg; have g0 := (hg.cell (p := ⟨b2, o2 + k * 4, none⟩) hb2).trans (show (w.drewN q).drew.cell? _ = _ from d0); have g1 := (hg.cell (p := ⟨b2, o2 + k * 4 + 1, none⟩) hb2).trans (show (w.drewN q).drew.cell? _ = _ from d1); have g2 := (hg.cell (p := ⟨b2, o2 + k * 4 + 2, none⟩) hb2).trans (show (w.drewN q).drew.cell? _ = _ from d2); have g3 := (hg.cell (p := ⟨b2, o2 + k * 4 + 3, none⟩) hb2).trans (show (w.drewN q).drew.cell? _ = _ from d3); go_simp; try with_reducible rfl) ?_
          refine takeB 8 rfl (by kernel_rfl) (fun _ _ _ h => h) (by rfl) (by intro w' hg; go_simp; try with_reducible rfl) ?_
          refine doneB (by kernel_rfl) ?_
          go_simp
          go_wp2
          go_roundw
          case rel => exact ⟨k + 1, q + 1, by go_num, by omega, HE2, rfl⟩
          case measure => simp [intOf]; omega
        · have HN : Hid (decide (l = r) = false) := hide (decide_eq_false (ins_ne hl1 hl2 he))
          generalize l[k] = x at *
          generalize r[k] = y at *
          have hd : ¬ x.op = y.op ∨ (x.op = y.op ∧ ¬ x.a = y.a) ∨ (x.op = y.op ∧ x.a = y.a ∧ ¬ x.b = y.b) ∨ (x.op = y.op ∧ x.a = y.a ∧ x.b = y.b ∧ ¬ x.c = y.c) := by
            by_cases h1 : x.op = y.op
            · by_cases h2 : x.a = y.a
              · by_cases h3 : x.b = y.b
                · by_cases h4 : x.c = y.c
                  · exact absurd ((insEq_iff x y).1 (by simp [insEq, h1, h2, h3, h4])) he
                  · exact .inr (.inr (.inr ⟨h1, h2, h3, h4⟩))
                · exact .inr (.inr (.inl ⟨h1, h2, h3⟩))
              · exact .inr (.inl ⟨h1, h2⟩)
            · exact .inl h1
          clear he
          rcases hd with h1 | ⟨h1, h2⟩ | ⟨h1, h2, h3⟩ | ⟨h1, h2, h3, h4⟩
          all_goals
            go_wp2_with fail
            refine region_B (by kernel_rfl) C ?_
            refine takeB 0 rfl (by kernel_rfl) (fun _ _ _ h => h) (by rfl) (by intro w' hg; go_simp; try with_reducible rfl) ?_
            refine takeB 1 rfl (by kernel_rfl) (fun _ _ _ h => h) (by rfl) (by intro w' hg; go_simp; try with_reducible rfl) ?_
            refine takeB 2 rfl (by kernel_rfl) (fun _ _ _ h => h) (by rfl) (by intro w' hg; go_simp; try with_reducible rfl) ?_
            refine takeB 3 rfl (by kernel_rfl) (fun _ _ _ h => h) (by rfl) (by intro w' hg; have g0 := (hg.cell (p := ⟨b1, o1 + k * 4, none⟩) hb1).trans (show (w.drewN q).drew.cell? _ = _ from c0); have g1 := (hg.cell (p := ⟨b1, o1 + k * 4 + 1, none⟩) hb1).trans (show (w.drewN q).drew.cell? _ = _ from c1); have g2 := (hg.cell (p := ⟨b1, o1 + k * 4 + 2, none⟩) hb1).trans (show (w.drewN q).drew.cell? _ = _ from c2); have g3 := (hg.cell (p := ⟨b1, o1 + k * 4 + 3, none⟩) hb1).trans (show (w.drewN q).drew.cell? _ = _ from c3); go_simp; try with_reducible rfl) ?_
            refine takeB 4 rfl (by kernel_rfl) (fun _ _ _ h => h) (by rfl) (by intro w' hg; go_simp; try with_reducible rfl) ?_
            refine takeB 5 rfl (by kernel_rfl) (fun _ _ _ h => h) (by rfl) (by intro w' hg; go_simp; try with_reducible rfl) ?_
            refine takeB 6 rfl (by kernel_rfl) (fun _ _ _ h => h) (by rfl) (by intro w' hg; go_simp; try with_reducible rfl) ?_
            refine takeB 7 rfl (by kernel_rfl) (fun _ _ _ h => h) (by rfl) (by intro w' hg; have g0 := (hg.cell (p := ⟨b2, o2 + k * 4, none⟩) hb2).trans (show (w.drewN q).drew.cell? _ = _ from d0); have g1 := (hg.cell (p := ⟨b2, o2 + k * 4 + 1, none⟩) hb2).trans (show (w.drewN q).drew.cell? _ = _ from d1); have g2 := (hg.cell (p := ⟨b2, o2 + k * 4 + 2, none⟩) hb2).trans (show (w.drewN q).drew.cell? _ = _ from d2); have g3 := (hg.cell (p := ⟨b2, o2 + k * 4 + 3, none⟩) hb2).trans (show (w.drewN q).drew.cell? _ = _ from d3); go_simp; try with_reducible rfl) ?_
            refine takeB 8 rfl (by kernel_rfl) (fun _ _ _ h => h) (by rfl) (by intro w' hg; go_simp; try with_reducible rfl) ?_
            refine doneB (by kernel_rfl) ?_
            go_simp
            go_wp2
            go_ret
            exact ⟨ret_bool HN.out.symm, Below.drews (q + 1)⟩
      · obtain rfl : k = n := by omega
        have HY : Hid (decide (l = r) = true) := hide (decide_eq_true (take_eq_all HE.out hal hbl))
        go_wp2
        go_ret
        exact ⟨ret_bool HY.out.symm, Below.drews q⟩
  · have e0 : ((n : Int) == m) = false := by simp; omega
    have HN : Hid (decide (l = r) = false) := hide (decide_eq_false (by rintro rfl; omega))
    go_enter Tryd.func52, Tryd.ntmps52
    go_wp2
    go_ret
    exact ⟨ret_bool HN.out.symm, Below.refl _ _⟩

set_option maxHeartbeats 400000 in
theorem equalStrs_any (A B : Option Addr) (n m c d : Nat) (l r : List (List UInt8)) (w : World) (C : Nat) (ha : Strs w C A n l) (hb : Strs w C B m r) (hn : n ≤ 9223372036854775807) (hm : m ≤ 9223372036854775807) :
    Calls Tryd.prog 53 #[.slice A n c, .slice B m d] w fun e w' => e = .returned (.bool (decide (l = r))) ∧ Below w.heap.size w w' := by
  by_cases hnm : n = m
  · subst hnm
    have e1 : ((n : Int) != (n : Int)) = false := by simp
    go_enter Tryd.func53, Tryd.ntmps53
    go_wp2_with fail
    go_loopw [13] (fun s13 wr => ∃ k : Nat, s13 = .int .i64 (k : Int) ∧ k ≤ n ∧ Hid (l.take k = r.take k) ∧ ∃ q, wr = w.drewN q) (fun s13 _ => n - (intOf s13).toNat)
    case atStart => exact ⟨0, rfl, by omega, hide rfl, 0, rfl⟩
    case round =>
      obtain ⟨k, rfl, hk, Hk, q, rfl⟩ := hrel
      by_cases hlt : k < n
      · obtain ⟨ba, oa, hla, rfl, _, hca⟩ := ha.at_ hlt
        obtain ⟨bb, ob, hlb, rfl, _, hcb⟩ := hb.at_ hlt
        by_cases he : l[k] = r[k]
        · have hcmp : (l[k] == r[k]) = true := by simpa using he
          have Hk2 : Hid (l.take (k + 1) = r.take (k + 1)) := hide (by
            rw [List.take_succ_eq_append_getElem hla, List.take_succ_eq_append_getElem hlb, Hk.out, he])
          clear he
          go_wp2_with fail
          go_quiet (fail)
          go_wp2
          go_roundw
          case rel => exact ⟨k + 1, by go_num, by omega, Hk2, _, rfl⟩
          case measure => simp [intOf]; omega
        · have hcmp : (l[k] == r[k]) = false := by simpa using he
          have hne := hide (strs_ne hla hlb he)
          clear he
          go_wp2_with fail
          go_quiet (fail)
          go_wp2
          go_ret
          exact ⟨ret_bool (decide_eq_false hne.out).symm, ⟨rfl, rfl, rfl, Nat.le_refl _, fun _ _ => rfl⟩⟩
      · obtain rfl : k = n := by omega
        go_wp2
        go_ret
        have hlr : l = r := by
          have := Hk.out
          rwa [List.take_of_length_le (by rw [ha.len]; exact Nat.le_refl _), List.take_of_length_le (by rw [hb.len]; exact Nat.le_refl _)] at this
        exact ⟨ret_bool (decide_eq_true hlr).symm, ⟨rfl, rfl, rfl, Nat.le_refl _, fun _ _ => rfl⟩⟩
  · have e1 : ((n : Int) != (m : Int)) = true := by simp; omega
    have e2 : ((n : Int) == (m : Int)) = false := by simp; omega
    have hlr : ¬ l = r := fun e => hnm (by rw [← ha.len, ← hb.len, e])
    go_enter Tryd.func53, Tryd.ntmps53
    go_wp2
    go_ret
    exact ⟨ret_bool (decide_eq_false hlr).symm, Below.refl _ _⟩
end Go.Proofs.YtdglcpepgodcpaaDoor
namespace Go.Proofs.YtdglcpepgodcpaaDoor
open Go.RowKit

theorem pr_eq (p q : Cd.Pr) : p = q ↔ p.pages = q.pages ∧ p.code = q.code ∧ p.strs = q.strs := by
  obtain ⟨a, b, c⟩ := p
  obtain ⟨d, e, f⟩ := q
  simp only [Cd.Pr.mk.injEq]
  constructor
  · rintro ⟨h1, h2, h3⟩; exact ⟨h3, h1, h2⟩
  · rintro ⟨h3, h1, h2⟩; exact ⟨h1, h2, h3⟩

set_option maxRecDepth 100000 in
set_option maxHeartbeats 2000000 in
theorem same_any (p q : Cd.Pr) (A D A' D' : Option Addr) (n c m d n' c' m' d' C : Nat) (w : World) (h1 : Inss w C A n p.code) (h2 : Strs w C D m p.strs) (h3 : Inss w C A' n' q.code) (h4 : Strs w C D' m' q.strs) (hC : C ≤ w.heap.size) (hn : n ≤ 9223372036854775807) (hm : m ≤ 9223372036854775807) (hn' : n' ≤ 9223372036854775807) (hm' : m' ≤ 9223372036854775807) :
    Calls Tryd.prog 49 #[pa A n c D m d p.pages, pa A' n' c' D' m' d' q.pages] w fun e w' => e = .returned (.bool (decide (p = q))) ∧ Below w.heap.size w w' := by
  obtain ⟨code, strs, pages⟩ := p
  obtain ⟨code', strs', pages'⟩ := q
  unfold pa
  simp only at h1 h2 h3 h4 ⊢
  have O1 := (Obl.make w 29 #[.slice A n c, .slice D m d, .int .i64 pages]).alloc (.cells #[.slice A' n' c', .slice D' m' d', .int .i64 pages'] 29)
  have hW : ((w.alloc (.cells #[.slice A n c, .slice D m d, .int .i64 pages] 29)).alloc (.cells #[.slice A' n' c', .slice D' m' d', .int .i64 pages'] 29)).heap.size = w.heap.size + 2 := by simp
  have O2 : Obl ((w.alloc (.cells #[.slice A n c, .slice D m d, .int .i64 pages] 29)).alloc (.cells #[.slice A' n' c', .slice D' m' d', .int .i64 pages'] 29)) (w.heap.size + 1) 29 #[.slice A' n' c', .slice D' m' d', .int .i64 pages'] := by
    simpa using Obl.make (w.alloc (.cells #[.slice A n c, .slice D m d, .int .i64 pages] 29)) 29 #[.slice A' n' c', .slice D' m' d', .int .i64 pages']
  have hb0 : Below w.heap.size w ((w.alloc (.cells #[.slice A n c, .slice D m d, .int .i64 pages] 29)).alloc (.cells #[.slice A' n' c', .slice D' m' d', .int .i64 pages'] 29)) := ((Below.refl _ _).alloc (Nat.le_refl _) _).alloc (by simp) _
  have k1 := h1.belowLe hb0 hC
  have k2 := h2.belowLe hb0 hC
  have k3 := h3.belowLe hb0 hC
  have k4 := h4.belowLe hb0 hC
  clear h1 h2 h3 h4
  by_cases hp : pages = pages'
  · have ep : (pages == pages') = true := by simpa using hp
    by_cases hc : code = code'
    · have HR : Hid (decide ((⟨code, strs, pages⟩ : Cd.Pr) = ⟨code', strs', pages'⟩) = decide (strs = strs')) := hide (decide_eq_decide.2 (by rw [pr_eq]; simp [hp, hc]))
      have HC := hide (decide_eq_true hc)
      clear hp hc
      go_enter Tryd.func49, Tryd.ntmps49
      go_wp2_with fail
      refine (equalIns_any A A' n n' c c' C code code' _ k1 k3 hn hn').mono ?_
      rintro e w1 ⟨rfl, hb1⟩
      rw [HC.out]
      rw [hW] at hb1
      have P1 := O1.below hb1 (by omega)
      have P2 := O2.below hb1 (by omega)
      have q1 := P1.cell 1
      have q2 := P2.cell 1
      simp at q1 q2
      have hs1 := hb1.size
      rw [hW] at hs1
      go_wp2_with fail
      refine (equalStrs_any D D' m m' d d' strs strs' _ C (k2.belowLe hb1 (by omega)) (k4.belowLe hb1 (by omega)) hm hm').mono ?_
      rintro e w2 ⟨rfl, hb2⟩
      have hfin := (hb0.trans (hb1.mono (by omega))).trans (hb2.mono (by omega))
      go_wp2
      go_ret
      exact ⟨ret_bool HR.out.symm, hfin⟩
    · have HR : Hid (decide ((⟨code, strs, pages⟩ : Cd.Pr) = ⟨code', strs', pages'⟩) = false) := hide (decide_eq_false (by rw [pr_eq]; simp [hc]))
      have HC := hide (decide_eq_false hc)
      clear hp hc
      go_enter Tryd.func49, Tryd.ntmps49
      go_wp2_with fail
      refine (equalIns_any A A' n n' c c' C code code' _ k1 k3 hn hn').mono ?_
      rintro e w1 ⟨rfl, hb1⟩
      rw [HC.out]
      rw [hW] at hb1
      have hfin := hb0.trans (hb1.mono (by omega))
      go_wp2
      go_ret
      exact ⟨ret_bool HR.out.symm, hfin⟩
  · have ep : (pages == pages') = false := by simpa using hp
    have HR : Hid (decide ((⟨code, strs, pages⟩ : Cd.Pr) = ⟨code', strs', pages'⟩) = false) := hide (decide_eq_false (by rw [pr_eq]; simp [hp]))
    clear hp
    go_enter Tryd.func49, Tryd.ntmps49
    go_wp2
    go_ret
    exact ⟨ret_bool HR.out.symm, hb0⟩

end Go.Proofs.YtdglcpepgodcpaaDoor
namespace Go.Proofs.YtdglcpepgodcpaaDoor
open Go.RowKit

/-- An answer, and what was there is there. -/
def SpBool (b : Bool) (w : World) (e : Ending) (w' : World) : Prop := e = .returned (.bool b) ∧ Below w.heap.size w w'
theorem start_refs2 (W : World) (p q : Sp.Ref) : ∃ w1, (W.alloc (.cells #[.int .u64 p.id, .bool p.sh] 77)).alloc (.cells #[.int .u64 q.id, .bool q.sh] 77) = w1 ∧
    Obl w1 W.heap.size 77 #[.int .u64 p.id, .bool p.sh] ∧ Obl w1 (W.heap.size + 1) 77 #[.int .u64 q.id, .bool q.sh] ∧ Below W.heap.size W w1 := by
  refine ⟨_, rfl, (Obl.make W _ _).alloc _, ?_, ((Below.refl _ _).alloc (Nat.le_refl _) _).alloc (by simp) _⟩
  have := Obl.make (W.alloc (.cells #[.int .u64 p.id, .bool p.sh] 77)) 77 #[.int .u64 q.id, .bool q.sh]
  rwa [World.size_alloc] at this
set_option maxRecDepth 100000 in
set_option maxHeartbeats 4000000 in
theorem excludes_any (p q : Sp.Ref) (W : World) : Calls Tryd.prog 46 #[ra p, ra q] W (SpBool (Sp.ex p q) W) := by
  obtain ⟨w1, hw, O1, O2, hb⟩ := start_refs2 W p q
  have HB := hide hb
  have k0 := O1.cell 0
  have k1 := O1.cell 1
  have k2 := O2.cell 0
  have k3 := O2.cell 1
  simp at k0 k1 k2 k3
  clear hb O1 O2
  unfold Sp.ex
  obtain ⟨i, s⟩ := p
  obtain ⟨j, t⟩ := q
  simp only at *
  by_cases h : i = j
  · subst h
    have h1 : (i == i) = true := by simp
    cases s
    · go_enter Tryd.func46, Tryd.ntmps46
      go_wp2_with fail
      go_ret
      exact ⟨by simp, HB.out⟩
    · cases t
      · go_enter Tryd.func46, Tryd.ntmps46
        go_wp2_with fail
        go_ret
        exact ⟨by simp, HB.out⟩
      · go_enter Tryd.func46, Tryd.ntmps46
        go_wp2_with fail
        go_ret
        exact ⟨by simp, HB.out⟩
  · have h1 : (i == j) = false := by simpa using h
    rw [h1]
    clear h
    go_enter Tryd.func46, Tryd.ntmps46
    go_wp2_with fail
    go_ret
    exact ⟨rfl, HB.out⟩

/-- The closure, over a page in block g. -/
theorem closure_any (g : Nat) (p q : Sp.Ref) (W : World) (h : Obl W g 77 #[.int .u64 p.id, .bool p.sh]) : Calls Tryd.prog 45 #[ra q, .pointer (some ⟨g, 0, none⟩)] W (SpBool (Sp.ex p q) W) := by
  obtain ⟨w1, hw, m, hm, O1, hb, hs⟩ := start_ref W q
  have OP := h.below hb (by have := h.lt; omega)
  subst hm
  have HB := hide hb
  clear hb h
  go_enter Tryd.func45, Tryd.ntmps45
  go_wp2_with (first | (refine load_ref rfl _ rfl rfl OP ?_) | (refine load_ref rfl _ rfl rfl O1 ?_) | fail)
  refine (excludes_any p q _).mono ?_
  rintro e w2 ⟨rfl, hb2⟩
  have HB2 := hide (HB.out.trans (hb2.mono HB.out.size))
  clear hb2
  go_wp2_with fail
  go_ret
  exact ⟨rfl, HB2.out⟩
set_option maxRecDepth 100000 in
set_option maxHeartbeats 4000000 in
theorem index_any (g : Nat) (p : Sp.Ref) (l : List Sp.Ref) (A : Option Addr) (n cap : Nat) (W : World) (hp : Obl W g 77 #[.int .u64 p.id, .bool p.sh]) (h : Refs W W.heap.size A n l) (hn : n ≤ 9223372036854775807) :
    Calls Tryd.prog 50 #[.slice A n cap, .func (.func 45) #[] #[.pointer (some ⟨g, 0, none⟩)]] W fun e w' => (∃ i : Int, e = .returned (.int .i64 i) ∧ decide (0 ≤ i) = l.any fun q => Sp.ex p q) ∧ Below W.heap.size W w' := by
  have hl := h.len
  have HP := hide hp
  have HR := hide h
  have hn' : (n : Int) ≤ 9223372036854775807 := by omega
  clear hp h
  go_enter Tryd.func50, Tryd.ntmps50
  go_wp2_with fail
  go_loopw [8] (fun s8 wr => ∃ k : Nat, s8 = .int .i64 (k : Int) ∧ k ≤ n ∧ Hid (Below W.heap.size W wr) ∧ Hid (∀ j (hj : j < l.length), j < k → Sp.ex p l[j] = false)) (fun s8 _ => n - (intOf s8).toNat)
  case atStart => exact ⟨0, rfl, by omega, hide (Below.refl _ _), hide (fun j _ hj => by omega)⟩
  case round =>
    obtain ⟨k, rfl, hk, HB, HA⟩ := hrel
    by_cases hlt : k < n
    · have hlt' : (k : Int) < (n : Int) := by omega
      obtain ⟨b, o, hkl, rfl, hb, c0, c1⟩ := (HR.out.below HB.out).at_ hlt
      have HPr := hide (HP.out.below HB.out HP.out.lt)
      cases hr : Sp.ex p l[k] with
      | true =>
        have HX := hide hr
        have HF : Hid ((l.any fun q => Sp.ex p q) = true) := hide (List.any_eq_true.2 ⟨l[k], List.getElem_mem hkl, hr⟩)
        clear hr
        generalize l[k] = q at *
        go_wp2_with (first | (refine wpList_val (by rfl) (exec_load_ref rfl rfl c0 c1) ?_) | fail)
        go_at_call 45
        refine (closure_any g p q _ HPr.out).mono ?_
        rintro e w2 ⟨rfl, hb2⟩
        rw [HX.out]
        have HB2 := hide (HB.out.trans (hb2.mono HB.out.size))
        clear hb2
        go_wp2_with fail
        go_ret
        exact ⟨⟨(k : Int), rfl, by rw [HF.out]; simp⟩, HB2.out⟩
      | false =>
        have HX := hide hr
        have HA2 : Hid (∀ j (hj : j < l.length), j < k + 1 → Sp.ex p l[j] = false) := hide (fun j hj hjk => by
          rcases Nat.lt_or_ge j k with h' | h'
          · exact HA.out j hj h'
          · obtain rfl : j = k := by omega
            exact hr)
        clear hr HA
        generalize l[k] = q at *
        go_wp2_with (first | (refine wpList_val (by rfl) (exec_load_ref rfl rfl c0 c1) ?_) | fail)
        go_at_call 45
        refine (closure_any g p q _ HPr.out).mono ?_
        rintro e w2 ⟨rfl, hb2⟩
        rw [HX.out]
        have HB2 := hide (HB.out.trans (hb2.mono HB.out.size))
        clear hb2
        go_wp2_with fail
        go_roundw
        case rel => exact ⟨k + 1, by go_num, by omega, HB2, HA2⟩
        case measure => simp [intOf]; omega
    · have HF : Hid ((l.any fun q => Sp.ex p q) = false) := hide (by
        rw [List.any_eq_false]
        intro q hq
        obtain ⟨j, hj, rfl⟩ := List.getElem_of_mem hq
        rw [HA.out j hj (by omega)]
        decide)
      go_wp2_with fail
      go_ret
      exact ⟨⟨-1, rfl, by rw [HF.out]; rfl⟩, HB.out⟩
set_option maxRecDepth 100000 in
set_option maxHeartbeats 4000000 in
theorem contains_any (g : Nat) (p : Sp.Ref) (l : List Sp.Ref) (A : Option Addr) (n cap : Nat) (W : World) (hp : Obl W g 77 #[.int .u64 p.id, .bool p.sh]) (h : Refs W W.heap.size A n l) (hn : n ≤ 9223372036854775807) :
    Calls Tryd.prog 44 #[.slice A n cap, .func (.func 45) #[] #[.pointer (some ⟨g, 0, none⟩)]] W (SpBool (l.any fun q => Sp.ex p q) W) := by
  go_enter Tryd.func44, Tryd.ntmps44
  go_wp2_with fail
  refine (index_any g p l A n cap _ hp h hn).mono ?_
  rintro e w1 ⟨⟨i, rfl, hi⟩, hb⟩
  have HI := hide hi
  clear hi
  go_wp2_with fail
  go_ret
  refine ⟨?_, hb⟩
  rw [← HI.out]
  simp
set_option maxRecDepth 100000 in
set_option maxHeartbeats 4000000 in
theorem valid_any (l : List Sp.Ref) (A : Option Addr) (n cap : Nat) (W : World) (h : Refs W W.heap.size A n l) (hn : n ≤ cap ∧ cap ≤ 9223372036854775807) :
    Calls Tryd.prog 31 #[.slice A n cap] W (SpBool (decide (Sp.Ok l)) W) := by
  have hl := h.len
  have HR := hide h
  have hn' : (n : Int) ≤ 9223372036854775807 := by omega
  clear h
  by_cases h16 : 16 < n
  · have h16' : (16 : Int) < (n : Int) := by omega
    have HF : Hid (decide (Sp.Ok l) = false) := hide (decide_eq_false (fun h => by have := h.1; omega))
    go_enter Tryd.func31, Tryd.ntmps31
    go_wp2_with fail
    go_ret
    exact ⟨ret_bool HF.out.symm, Below.refl _ _⟩
  · have h16' : ¬ (16 : Int) < (n : Int) := by omega
    go_enter Tryd.func31, Tryd.ntmps31
    go_wp2_with fail
    go_loopw [10] (fun s10 wr => ∃ k : Nat, s10 = .int .i64 (k : Int) ∧ k ≤ n ∧ Hid (Below W.heap.size W wr) ∧ Hid (Sp.Clean (l.take k))) (fun s10 _ => n - (intOf s10).toNat)
    case atStart => exact ⟨0, rfl, by omega, hide (Below.refl _ _), hide (by rw [List.take_zero]; exact Sp.clean_nil)⟩
    case round =>
      obtain ⟨k, rfl, hk, HB, HC⟩ := hrel
      by_cases hlt : k < n
      · have hlt' : (k : Int) < (n : Int) := by omega
        have hkc : (k : Int) ≤ (cap : Int) := by omega
        obtain ⟨b, o, hkl, rfl, hb, c0, c1⟩ := (HR.out.below HB.out).at_ hlt
        obtain ⟨x, hx⟩ : ∃ x, l[k] = x := ⟨_, rfl⟩
        have HX := hide hx
        rw [hx] at c0 c1
        obtain ⟨w3, hw3, g, hg, w4, hw4, OZ, ON, hb4, hs4⟩ := start_slot wr x
        have HB4 := hide (HB.out.trans (hb4.mono (by have := HB.out.size; omega)))
        have n0 : w4.cell? ⟨g, 0, none⟩ = some (.int .u64 x.id) := ON.cell 0
        have HN := hide ON
        clear hx hb4 hs4 ON
        by_cases h0 : x.id = 0
        · have e0 : (x.id == 0) = true := by simpa using h0
          have HF : Hid (decide (Sp.Ok l) = false) := hide (decide_eq_false (fun h => Sp.not_zero hkl (by rw [HX.out]; exact h0) h.2))
          clear h0
          go_wp2_with (first | (refine wpList_val (by rfl) (exec_load_ref rfl rfl c0 c1) ?_) | (refine store_ref rfl _ _ rfl rfl (c := x) rfl OZ rfl ?_; rw [hw4]) | fail)
          go_ret
          exact ⟨ret_bool HF.out.symm, HB4.out⟩
        · have e0 : (x.id == 0) = false := by simpa using h0
          have H0 := hide h0
          clear h0
          go_wp2_with (first | (refine wpList_val (by rfl) (exec_load_ref rfl rfl c0 c1) ?_) | (refine store_ref rfl _ _ rfl rfl (c := x) rfl OZ rfl ?_; rw [hw4]) | fail)
          have HT := hide ((HR.out.later HB4.out).takeN (Nat.le_of_lt hlt))
          refine (contains_any g x (l.take k) _ k cap _ HN.out HT.out (by omega)).mono ?_
          rintro e w5 ⟨rfl, hb5⟩
          have HB5 := hide (HB4.out.trans (hb5.mono HB4.out.size))
          clear hb5 HT HN c0 c1
          cases hany : (l.take k).any fun q => Sp.ex x q with
          | true =>
            have HF : Hid (decide (Sp.Ok l) = false) := hide (decide_eq_false (fun h => by
              obtain ⟨q, hq, hqx⟩ := List.any_eq_true.1 hany
              obtain ⟨j, hj, rfl⟩ := List.getElem_of_mem hq
              rw [List.length_take] at hj
              rw [List.getElem_take] at hqx
              exact Sp.not_ex hkl (j := j) (by omega) (by rw [HX.out]; exact hqx) h.2))
            clear hany
            go_wp2_with fail
            go_ret
            exact ⟨ret_bool HF.out.symm, HB5.out⟩
          | false =>
            have HC2 : Hid (Sp.Clean (l.take (k + 1))) := hide (Sp.clean_step hkl HC.out (by rw [HX.out]; exact H0.out) (fun q hq => by
              have := List.any_eq_false.1 hany q hq
              rw [HX.out]
              simpa using this))
            clear hany
            go_wp2_with fail
            go_roundw
            case rel => exact ⟨k + 1, by go_num, by omega, HB5, HC2⟩
            case measure => simp [intOf]; omega
      · obtain rfl : k = n := by omega
        have HF : Hid (decide (Sp.Ok l) = true) := hide (decide_eq_true ⟨by omega, Sp.clean_all hl HC.out⟩)
        go_wp2_with fail
        go_ret
        exact ⟨ret_bool HF.out.symm, HB.out⟩
end Go.Proofs.YtdglcpepgodcpaaDoor
namespace Go.Proofs.YtdglcpepgodcpaaDoor
open Go.RowKit

/-- A process, and what was there is there. -/
def ProcIs (b : Ob) (w : World) (e : Ending) (w' : World) : Prop := e = .returned (.agg (pcell b)) ∧ Below w.heap.size w w'
theorem ProcIs.of {b c : Ob} {w w' : World} {e : Ending} (h : c = b) (he : e = .returned (.agg (pcell c))) (hb : Below w.heap.size w w') : ProcIs b w e w' := by subst h; exact ⟨he, hb⟩
theorem Owns.reproc {u : World} {lo : Nat} {o c : Ob} {X : Cont} (h : Owns u lo c X) : HoldsP u u.heap.size (o.reproc c) X := have k := h.p; ⟨k.children, k.code, k.strs, k.pages, k.table⟩
theorem reproc_alike (o c : Ob) : AlikeP (o.reproc c) o := ⟨rfl, rfl, rfl, rfl, rfl, rfl, rfl⟩
/-- A process with rows of its own (whatever happens to elder blocks), or nothing and an error. -/
def RaiseOwn (o : Ob) (s : Int) (X : Cont) (w : World) (e : Ending) (w' : World) : Prop := ∃ a, e = .returned (.tuple #[.agg (pcell a), .int .i64 (o.raiseErr s)]) ∧ ((o.raiseErr s ≠ 0 ∧ a = Ob.zero) ∨ (o.raiseErr s = 0 ∧ ∃ c, (o.reproc c).raise s = a ∧ Stays w.heap.size w' (fun u => Owns u w.heap.size c X))) ∧ Below w.heap.size w w'
/-- A process laid in a new block, whatever the block's number. -/
theorem laid_pp (o : Ob) (w : World) : ∃ w1, w.alloc (.cells #[.int .i64 0, .int .u64 0, .slice none 0 0, .slice none 0 0, .slice none 0 0, .int .i64 0, .int .i64 0, .int .i64 0, .int .i64 0, .int .i64 0, .int .i64 0, .int .i64 0, .int .i64 0, .int .i64 0, .int .i64 0,
    .slice none 0 0, .slice none 0 0, .int .i64 0, .int .i64 0, .int .i64 0] 36) = w1 ∧ ∃ g, w.heap.size = g ∧ ∃ w2, w1.setRow g (pcell o) = w2 ∧ Obl w1 g 36 (pcell Ob.zero) ∧ Obl w2 g 36 (pcell o) ∧ Below w.heap.size w w2 ∧ w2.heap.size = g + 1 := by
  obtain ⟨w1, h1, g, hg, w2, h2, O1, O2, hb, hs⟩ := laid_proc o w
  exact ⟨w1, h1, g, hg, w2, h2, O1, O2, by rw [hg]; exact hb, hs⟩
set_option maxRecDepth 100000 in
set_option maxHeartbeats 4000000 in
theorem sgValid_any (p : Int) (W : World) : Calls Tryd.prog 38 #[.int .i64 p] W (BoolPost (decide (sgValid p)) W) := by
  go_enter Tryd.func38, Tryd.ntmps38
  go_wp2_with fail
  go_ret
  exact ⟨rfl, Below.refl _ _⟩
end Go.Proofs.YtdglcpepgodcpaaDoor
namespace Go.Proofs.YtdglcpepgodcpaaDoor
open Go.RowKit

/-- No number, no list that a channel does not use. -/
def Ob.ChNumbers (o : Ob) : Prop := o.refs = 0 ∧ o.offset = 0 ∧ o.target = 0 ∧ o.readers = 0 ∧ o.writers = 0 ∧ o.count = 0
def Ob.ChLists (o : Ob) : Prop := o.words.n = 0 ∧ o.data.n = 0 ∧ o.backlog.n = 0 ∧ o.names.n = 0
def Ob.ChOthers (o : Ob) : Prop := o.ChNumbers ∧ o.ChLists ∧ o.NoProc
/-- How often each end is open. -/
def Ob.ChEnds (o : Ob) : Prop := 0 ≤ o.e0 ∧ o.e0 ≤ 1073741824 ∧ 0 ≤ o.e1 ∧ o.e1 ≤ 1073741824 ∧ (o.e0 ≠ 0 ∨ o.e1 ≠ 0)
/-- A channel. -/
def Ob.Chan (o : Ob) : Prop := o.kind = 7 ∧ o.id ≠ 0 ∧ o.ChEnds ∧ o.q0.n ≤ 64 ∧ o.q1.n ≤ 64 ∧ o.ChOthers
def Ob.unchan (o : Ob) : Ob := { o with e0 := 0, e1 := 0, q0 := ⟨none, 0, 0⟩, q1 := ⟨none, 0, 0⟩ }
/-- No number, no list that a port does not use. -/
def Ob.PoNumbers (o : Ob) : Prop := o.offset = 0 ∧ o.target = 0 ∧ o.readers = 0 ∧ o.writers = 0 ∧ [o.e0, o.e1] = [0, 0] ∧ o.count = 0
def Ob.PoLists (o : Ob) : Prop := o.words.n = 0 ∧ o.data.n = 0 ∧ o.q0.n = 0 ∧ o.q1.n = 0 ∧ o.names.n = 0
def Ob.PoOthers (o : Ob) : Prop := o.PoNumbers ∧ o.PoLists ∧ o.NoProc
/-- A port whose backlog is I. -/
def Ob.Port (o : Ob) (I : List Int) : Prop := o.kind = 6 ∧ o.id ≠ 0 ∧ (0 ≤ o.refs ∧ o.refs ≤ 1073741824) ∧ o.backlog.n ≤ 8 ∧ ((∀ x ∈ I, x ≠ 0) ∧ I.Nodup) ∧ o.PoOthers
def Ob.unport (o : Ob) : Ob := { o with refs := 0, backlog := ⟨none, 0, 0⟩ }
instance (o : Ob) : Decidable o.ChNumbers := by unfold Ob.ChNumbers; infer_instance
instance (o : Ob) : Decidable o.ChLists := by unfold Ob.ChLists; infer_instance
instance (o : Ob) : Decidable o.ChOthers := by unfold Ob.ChOthers; infer_instance
instance (o : Ob) : Decidable o.ChEnds := by unfold Ob.ChEnds; infer_instance
instance (o : Ob) : Decidable o.Chan := by unfold Ob.Chan; infer_instance
instance (o : Ob) : Decidable o.PoNumbers := by unfold Ob.PoNumbers; infer_instance
instance (o : Ob) : Decidable o.PoLists := by unfold Ob.PoLists; infer_instance
instance (o : Ob) : Decidable o.PoOthers := by unfold Ob.PoOthers; infer_instance
instance (o : Ob) (I : List Int) : Decidable (o.Port I) := by unfold Ob.Port; infer_instance
theorem unchan_clear (o : Ob) : o.unchan.Clear ↔ o.ChOthers := by
  constructor
  · rintro ⟨hw, ⟨h1, h2, h3, h4, h5, _, h7⟩, ⟨c1, c2, c3, _, _⟩, hp⟩
    exact ⟨⟨h1, h2, h3, h4, h5, h7⟩, ⟨hw, c1, c2, c3⟩, hp⟩
  · rintro ⟨⟨h1, h2, h3, h4, h5, h7⟩, ⟨hw, c1, c2, c3⟩, hp⟩
    exact ⟨hw, ⟨h1, h2, h3, h4, h5, rfl, h7⟩, ⟨c1, c2, c3, rfl, rfl⟩, hp⟩
theorem unport_clear (o : Ob) : o.unport.Clear ↔ o.PoOthers := by
  constructor
  · rintro ⟨hw, ⟨_, h2, h3, h4, h5, h6, h7⟩, ⟨c1, _, c3, c4, c5⟩, hp⟩
    exact ⟨⟨h2, h3, h4, h5, h6, h7⟩, ⟨hw, c1, c4, c5, c3⟩, hp⟩
  · rintro ⟨⟨h2, h3, h4, h5, h6, h7⟩, ⟨hw, c1, c4, c5, c3⟩, hp⟩
    exact ⟨hw, ⟨rfl, h2, h3, h4, h5, h6, h7⟩, ⟨c1, rfl, c3, c4, c5⟩, hp⟩
/-- The channel id with these ends and bytes; the port id with this backlog. -/
def Ob.chan (id a b : Int) (s t : Sl) : Ob := { Ob.zero with id := id, kind := 7, e0 := a, e1 := b, q0 := s, q1 := t }
def Ob.port (id r : Int) (s : Sl) : Ob := { Ob.zero with id := id, kind := 6, refs := r, backlog := s }
theorem chan_others (id a b : Int) (s t : Sl) : (Ob.chan id a b s t).ChOthers := by
  have h : Ob.zero.ChOthers := by decide
  exact h
theorem port_others (id r : Int) (s : Sl) : (Ob.port id r s).PoOthers := by
  have h : Ob.zero.PoOthers := by decide
  exact h
theorem chan_chan {id a b : Int} {s t : Sl} (hid : id ≠ 0) (he : 0 ≤ a ∧ a ≤ 1073741824 ∧ 0 ≤ b ∧ b ≤ 1073741824 ∧ (a ≠ 0 ∨ b ≠ 0)) (hs : s.n ≤ 64) (ht : t.n ≤ 64) : (Ob.chan id a b s t).Chan := ⟨rfl, hid, he, hs, ht, chan_others _ _ _ _ _⟩
theorem port_port {id r : Int} {s : Sl} {I : List Int} (hid : id ≠ 0) (hr : 0 ≤ r ∧ r ≤ 1073741824) (hn : s.n ≤ 8) (hI : (∀ x ∈ I, x ≠ 0) ∧ I.Nodup) : (Ob.port id r s).Port I := ⟨rfl, hid, hr, hn, hI, port_others _ _ _⟩
/-- The queue and the end by number. -/
def Ob.qAt (o : Ob) (k : Int) : Sl := if k = 0 then o.q0 else o.q1
def Ob.eAt (o : Ob) (k : Int) : Int := if k = 0 then o.e0 else o.e1
/-- The channel can be used at this end. -/
def Ob.ChOk (o : Ob) (k : Int) : Prop := o.Chan ∧ (k = 0 ∨ k = 1)
instance (o : Ob) (k : Int) : Decidable (o.ChOk k) := by unfold Ob.ChOk; infer_instance
/-- The error of reading at an end, of writing there. -/
def Ob.chRd (o : Ob) (k : Int) : Int := if o.ChOk k then (if (o.qAt (1 - k)).n = 0 ∧ 0 < o.eAt (1 - k) then 12 else 0) else 1
def Ob.chWr (o : Ob) (k : Int) : Int := if o.ChOk k then (if o.eAt (1 - k) = 0 then 13 else if 64 ≤ (o.qAt k).n then 12 else 0) else 1
/-- The error of calling, of accepting. -/
def Ob.callErr (o : Ob) (I : List Int) (c : Int) : Int := if o.Port I ∧ c ≠ 0 ∧ c ∉ I then (if o.refs = 0 then 13 else if 8 ≤ o.backlog.n then 9 else 0) else 1
def Ob.accErr (o : Ob) (I : List Int) : Int := if o.Port I then (if o.backlog.n = 0 then 12 else 0) else 1
theorem Ob.chRd_0 {o : Ob} {k : Int} (h : o.chRd k = 0) : o.Chan ∧ (k = 0 ∨ k = 1) ∧ ((o.qAt (1 - k)).n ≠ 0 ∨ o.eAt (1 - k) ≤ 0) := by
  unfold Ob.chRd at h
  split at h
  · rename_i hp
    split at h
    · omega
    · exact ⟨hp.1, hp.2, by omega⟩
  · omega
theorem Ob.chWr_0 {o : Ob} {k : Int} (h : o.chWr k = 0) : o.Chan ∧ (k = 0 ∨ k = 1) ∧ o.eAt (1 - k) ≠ 0 ∧ (o.qAt k).n < 64 := by
  unfold Ob.chWr at h
  split at h
  · rename_i hp
    split at h
    · omega
    · split at h
      · omega
      · exact ⟨hp.1, hp.2, by assumption, by omega⟩
  · omega
theorem Ob.callErr_0 {o : Ob} {I : List Int} {c : Int} (h : o.callErr I c = 0) : o.Port I ∧ c ≠ 0 ∧ c ∉ I ∧ o.refs ≠ 0 ∧ o.backlog.n < 8 := by
  unfold Ob.callErr at h
  split at h
  · rename_i hp
    split at h
    · omega
    · split at h
      · omega
      · exact ⟨hp.1, hp.2.1, hp.2.2, by assumption, by omega⟩
  · omega
theorem Ob.accErr_0 {o : Ob} {I : List Int} (h : o.accErr I = 0) : o.Port I ∧ o.backlog.n ≠ 0 := by
  unfold Ob.accErr at h
  split at h
  · rename_i hp
    split at h
    · omega
    · exact ⟨hp, by assumption⟩
  · omega
end Go.Proofs.YtdglcpepgodcpaaDoor
namespace Go.Proofs.YtdglcpepgodcpaaDoor
open Go.RowKit

theorem mem_of_at {I : List Int} {k : Nat} (h : k < I.length) {x : Int} (he : I[k] = x) : x ∈ I := he ▸ List.getElem_mem h
theorem not_mem_of {I : List Int} {n : Nat} {x : Int} (hl : I.length = n) (h : ∀ j (hj : j < I.length), j < n → I[j] ≠ x) : ¬ x ∈ I := fun hx => by
  obtain ⟨j, hj, he⟩ := List.getElem_of_mem hx
  exact h j hj (by omega) he
theorem not_step {I : List Int} {k : Nat} {x : Int} (h : ∀ j (hj : j < I.length), j < k → I[j] ≠ x) (hk : ∀ hj : k < I.length, I[k] ≠ x) : ∀ j (hj : j < I.length), j < k + 1 → I[j] ≠ x := fun j hj hjk => by
  rcases Nat.lt_or_ge j k with h' | h'
  · exact h j hj h'
  · obtain rfl : j = k := by omega
    exact hk hj
/-- Identifiers that are all other than 0, each there once. -/
def Clean (I : List Int) : Prop := (∀ x ∈ I, x ≠ 0) ∧ I.Nodup
instance (I : List Int) : Decidable (Clean I) := by unfold Clean; infer_instance
theorem Clean.nil : Clean [] := ⟨by simp, List.nodup_nil⟩
theorem take_snoc_at {I : List Int} {k : Nat} (hk : k < I.length) : I.take (k + 1) = I.take k ++ [I[k]] := by
  rw [List.take_succ_eq_append_getElem hk]
theorem Clean.snoc {I : List Int} {x : Int} (h : Clean I) (hx : x ≠ 0) (hn : ¬ x ∈ I) : Clean (I ++ [x]) := by
  refine ⟨fun y hy => ?_, ?_⟩
  · rcases List.mem_append.1 hy with hy | hy
    · exact h.1 y hy
    · rw [List.mem_singleton] at hy; exact hy ▸ hx
  · rw [List.nodup_append]
    exact ⟨h.2, by simp, fun a ha b hb => by rw [List.mem_singleton] at hb; rintro rfl; exact hn (hb ▸ ha)⟩
theorem Clean.step {I : List Int} {k : Nat} (hk : k < I.length) : Clean (I.take (k + 1)) ↔ Clean (I.take k) ∧ I[k] ≠ 0 ∧ ¬ I[k] ∈ I.take k := by
  rw [take_snoc_at hk]
  constructor
  · intro h
    refine ⟨⟨fun y hy => h.1 y (List.mem_append_left _ hy), (List.nodup_append.1 h.2).1⟩, h.1 _ (List.mem_append_right _ List.mem_cons_self), fun hm => ?_⟩
    exact (List.nodup_append.1 h.2).2.2 _ hm _ List.mem_cons_self rfl
  · rintro ⟨h, h1, h2⟩
    exact h.snoc h1 h2
theorem Clean.take {I : List Int} (h : Clean I) (k : Nat) : Clean (I.take k) := ⟨fun y hy => h.1 y (List.mem_of_mem_take hy), h.2.sublist (List.take_sublist _ _)⟩
/-- At most eight of them. -/
def Few (n : Nat) (I : List Int) : Prop := n ≤ 8 ∧ Clean I
instance (n : Nat) (I : List Int) : Decidable (Few n I) := by unfold Few; infer_instance
theorem port_iff (o : Ob) (I : List Int) : o.Port I ↔ o.kind = 6 ∧ o.id ≠ 0 ∧ (0 ≤ o.refs ∧ o.refs ≤ 1073741824) ∧ Few o.backlog.n I ∧ o.PoOthers := by
  simp only [Ob.Port, Few, Clean]
  simp only [and_assoc]

set_option maxRecDepth 100000 in
set_option maxHeartbeats 4000000 in
theorem index64_any (A : Option Addr) (n c : Nat) (I : List Int) (x : Int) (W : World) (h : Nums .u64 W W.heap.size A n I) (hn : n ≤ 9223372036854775807) :
    Calls Tryd.prog 18 #[.slice A n c, .int .u64 x] W fun e w' => (∃ i : Int, e = .returned (.int .i64 i) ∧ (0 ≤ i ↔ x ∈ I)) ∧ w' = W := by
  have hl := h.len
  have HR := hide h
  have hn' : (n : Int) ≤ 9223372036854775807 := by omega
  clear h
  go_enter Tryd.func18, Tryd.ntmps18
  go_wp2_with fail
  go_loop [8] (fun s8 => ∃ k : Nat, s8 = .int .i64 (k : Int) ∧ k ≤ n ∧ Hid (∀ j (hj : j < I.length), j < k → I[j] ≠ x)) (fun s8 => n - (intOf s8).toNat)
  case atStart => exact ⟨0, rfl, by omega, hide (fun j _ hj => by omega)⟩
  case round =>
    obtain ⟨k, rfl, hk, HA⟩ := hrel
    by_cases hlt : k < n
    · have hlt' : (k : Int) < (n : Int) := by omega
      obtain ⟨b, o, hkl, rfl, hb, hc⟩ := HR.out.at_ hlt
      by_cases hx : x = I[k]
      · have HF : Hid (x ∈ I) := hide (mem_of_at hkl hx.symm)
        have hcx : W.cell? ⟨b, o + k, none⟩ = some (.int .u64 x) := by rw [hx]; exact hc
        clear hc hx
        go_wp2_with fail
        go_ret
        exact ⟨⟨(k : Int), rfl, ⟨fun _ => HF.out, fun _ => by omega⟩⟩, rfl⟩
      · have HA2 := hide (not_step HA.out (fun hj e => hx e.symm))
        have hb' : (x == I[k]) = false := by simpa using hx
        clear HA
        generalize I[k] = y at *
        go_wp2_with fail
        go_round
        case rel => exact ⟨k + 1, by go_num, by omega, HA2⟩
        case measure => simp [intOf]; omega
    · have HF : Hid (¬ x ∈ I) := hide (not_mem_of hl fun j hj hjn => HA.out j hj (by omega))
      go_wp2_with fail
      go_ret
      exact ⟨⟨-1, rfl, ⟨fun h => by omega, fun h => absurd h HF.out⟩⟩, rfl⟩
set_option maxRecDepth 100000 in
set_option maxHeartbeats 4000000 in
theorem contains64_any (A : Option Addr) (n c : Nat) (I : List Int) (x : Int) (W : World) (h : Nums .u64 W W.heap.size A n I) (hn : n ≤ 9223372036854775807) :
    Calls Tryd.prog 43 #[.slice A n c, .int .u64 x] W fun e w' => e = .returned (.bool (decide (x ∈ I))) ∧ w' = W := by
  go_enter Tryd.func43, Tryd.ntmps43
  go_wp2_with fail
  refine (index64_any A n c I x _ h hn).mono ?_
  rintro e w1 ⟨⟨i, rfl, hi⟩, rfl⟩
  have HI := hide hi
  clear hi
  go_wp2_with fail
  go_ret
  exact ⟨ret_bool (decide_eq_decide.2 HI.out), rfl⟩
end Go.Proofs.YtdglcpepgodcpaaDoor
namespace Go.Proofs.YtdglcpepgodcpaaDoor
open Go.RowKit

/-- A list with other values from i on. -/
def setL (xs : List Value) (i : Nat) : List Value → List Value
  | [] => xs
  | v :: r => setL (xs.set i v) (i + 1) r
theorem setL_mid (b' : List Value) : ∀ (a b c : List Value), b.length = b'.length → setL (a ++ (b ++ c)) a.length b' = a ++ (b' ++ c) := by
  induction b' with
  | nil => intro a b c h; rw [List.eq_nil_of_length_eq_zero h]; rfl
  | cons v r ih =>
    intro a b c h
    rcases b with _ | ⟨x, b⟩
    · simp at h
    · rw [setL, List.cons_append, List.set_append_right _ _ (Nat.le_refl _), Nat.sub_self, List.set_cons_zero]
      have := ih (a ++ [v]) b c (by simpa using h)
      rw [List.length_append, List.length_singleton, List.append_assoc, List.append_assoc] at this
      simpa using this
theorem own_sets {base n c size g : Nat} {e : TypeId} (vs : List Value) : ∀ {w : World} {xs : List Value} (i : Nat), w.ownsRow base e size (.slice (some ⟨g, 0, none⟩) n c) n xs → (w.setCells g i vs).ownsRow base e size (.slice (some ⟨g, 0, none⟩) n c) n (setL xs i vs) := by
  induction vs with
  | nil => intro w xs i h; exact h
  | cons v r ih => intro w xs i h; exact ih (i + 1) (own_set h v)
theorem own_there_n {w : World} {base n c size g : Nat} {e : TypeId} {xs : List Value} (h : w.ownsRow base e size (.slice (some ⟨g, 0, none⟩) n c) n xs) {i m : Nat} (hi : i + m ≤ n * size) : w.there g i m := fun j hj => by
  have hx : i + j < xs.length := by rw [h.1]; omega
  exact ⟨by rw [own_cell h (List.getElem?_eq_getElem hx)]; rfl, own_free h _⟩
theorem setCells_other {g : Nat} (vs : List Value) : ∀ (w : World) (i : Nat) {k : Nat}, k ≠ g → (w.setCells g i vs).heap[k]? = w.heap[k]? := by
  induction vs with
  | nil => intro w i k _; rfl
  | cons v r ih =>
    intro w i k hk
    have := ih (w.setCell ⟨g, i, none⟩ v) (i + 1) hk
    refine this.trans ?_
    simp [World.setCell, Array.getElem?_modify, Ne.symm hk]
theorem setCells_size {g : Nat} (vs : List Value) : ∀ (w : World) (i : Nat), (w.setCells g i vs).heap.size = w.heap.size := by
  induction vs with
  | nil => intro w i; rfl
  | cons v r ih => intro w i; exact (ih (w.setCell ⟨g, i, none⟩ v) (i + 1)).trans (by simp [World.setCell])
/-- A row of the call's own, its block apart from the one that changes. -/
theorem own_keep_ne {w w' : World} {base size n g : Nat} {e : TypeId} {v : Value} {xs : List Value} (h : w.ownsRow base e size v n xs) (hv : v.ownBlock ≠ some g) (hk : ∀ k, k ≠ g → w'.heap[k]? = w.heap[k]?) : w'.ownsRow base e size v n xs := by
  refine ⟨h.1, ?_⟩
  rcases h.2 with h0 | ⟨b, cap, cur, hv', hg, hh, hn⟩
  · exact .inl h0
  · refine .inr ⟨b, cap, cur, hv', hg, (hk b ?_).trans hh, hn⟩
    rintro rfl
    exact hv (by rw [hv']; rfl)
/-- .. its first m elements alone. -/
theorem own_short {w : World} {base n c m : Nat} {e : TypeId} {A : Option Addr} {xs : List Value} (h : w.ownsRow base e 1 (.slice A n c) n xs) (hm : m ≤ n) : w.ownsRow base e 1 (.slice A m c) m (xs.take m) := by
  have hl := h.1
  refine ⟨by rw [List.length_take]; omega, ?_⟩
  rcases h.2 with ⟨h0, h1⟩ | ⟨b, cap, cur, hv', hg, hh, hn, hc, hsz, hx⟩
  · simp only [Value.slice.injEq] at h0
    obtain ⟨rfl, rfl, rfl⟩ := h0
    obtain rfl : m = 0 := by omega
    exact .inl ⟨rfl, rfl⟩
  · simp only [Value.slice.injEq, true_and] at hv'
    obtain ⟨rfl, rfl⟩ := hv'
    exact .inr ⟨b, c, cur, rfl, hg, hh, by omega, hc, hsz, by rw [← hx, List.take_take, Nat.mul_one, Nat.mul_one, Nat.min_eq_left hm]⟩
end Go.Proofs.YtdglcpepgodcpaaDoor
namespace Go.Proofs.YtdglcpepgodcpaaDoor
open Go.RowKit

/-- The page and the word of an address, or none. -/
def PlacePost (n : Nat) (a : Int) (w : World) (e : Ending) (w' : World) : Prop :=
  w' = w ∧ ((∃ m q r : Nat, a = (m : Int) ∧ m < 16 * n ∧ q = m / 16 ∧ r = m % 16 ∧ e = .returned (.tuple #[.int .i64 (q : Int), .int .i64 (r : Int), .bool true])) ∨ (¬ (0 ≤ a ∧ a < 16 * (n : Int)) ∧ e = .returned (.tuple #[.int .i64 0, .int .i64 0, .bool false])))
/-- An identifier, a word, an error. -/
def SpFindPost (r : Int × Int × Int) (w : World) (e : Ending) (w' : World) : Prop := e = .returned (.tuple #[.int .u64 r.1, .int .i64 r.2.1, .int .i64 r.2.2]) ∧ Below w.heap.size w w'
theorem SpFindPost.of {r : Int × Int × Int} {w w' : World} {e : Ending} {a b c : Int} (hr : r = (a, b, c)) (he : e = .returned (.tuple #[.int .u64 a, .int .i64 b, .int .i64 c])) (hb : Below w.heap.size w w') : SpFindPost r w e w' := by subst hr; exact ⟨he, hb⟩
theorem Sp.find_bad {l : List Sp.Ref} (h : ¬ Sp.Ok l) (a : Int) : Sp.find l a = (0, 0, 1) := by unfold Sp.find; rw [if_neg h]
theorem Sp.find_out {l : List Sp.Ref} (h : Sp.Ok l) {a : Int} (ha : ¬ (0 ≤ a ∧ a < 16 * (l.length : Int))) : Sp.find l a = (0, 0, 11) := by unfold Sp.find; rw [if_pos h, if_neg ha]
theorem Sp.find_at {l : List Sp.Ref} (h : Sp.Ok l) {m : Nat} (hk : m / 16 < l.length) : Sp.find l (m : Int) = (l[m / 16].id, ((m % 16 : Nat) : Int), 0) := by
  unfold Sp.find
  rw [if_pos h, if_pos (by omega)]
  have e1 : ((m : Int) / 16).toNat = m / 16 := by omega
  have e2 : (m : Int) % 16 = ((m % 16 : Nat) : Int) := by omega
  rw [e1, e2, List.getD_eq_getElem?_getD, List.getElem?_eq_getElem hk]
  rfl
end Go.Proofs.YtdglcpepgodcpaaDoor
namespace Go.Proofs.YtdglcpepgodcpaaDoor
open Go.RowKit

theorem SpFindPost.got {r : Int × Int × Int} {w w' : World} {e : Ending} {a b c : Int} (h : SpFindPost r w e w') (hr : r = (a, b, c)) : e = .returned (.tuple #[.int .u64 a, .int .i64 b, .int .i64 c]) ∧ Below w.heap.size w w' := by subst hr; exact h
/-- Two pages, written out. -/
theorem start_pair (w : World) (p q : Sp.Ref) : ∃ w1, w.alloc (.cells #[.int .u64 p.id, .bool p.sh, .int .u64 q.id, .bool q.sh] 77) = w1 ∧ Refs w1 w1.heap.size (some ⟨w.heap.size, 0, none⟩) 2 [p, q] ∧ Below w.heap.size w w1 := by
  refine ⟨_, rfl, ⟨rfl, ⟨rfl, by simp, ?_⟩⟩, (Below.refl _ _).alloc (Nat.le_refl _) _⟩
  have := (Row.list w [.int .u64 p.id, .bool p.sh, .int .u64 q.id, .bool q.sh] 77).rd
  rw [World.size_alloc]
  exact this
/-- A valid address space. -/
def SpaceOut (w : World) (e : Ending) (w' : World) : Prop := ∃ A n c l, e = .returned (.slice A n c) ∧ Refs w' w'.heap.size A n l ∧ (n ≤ c ∧ c ≤ 9223372036854775807) ∧ Sp.Ok l ∧ Below w.heap.size w w'
end Go.Proofs.YtdglcpepgodcpaaDoor
namespace Go.Proofs.YtdglcpepgodcpaaDoor
open Go.RowKit

/-- Some identifiers in a row of the call's own. -/
def IdsPost (L : List Int) (w : World) (e : Ending) (w' : World) : Prop := ∃ A c, e = .returned (.slice A L.length c) ∧ Nums .u64 w' w'.heap.size A L.length L ∧ (L.length ≤ c ∧ c ≤ 9223372036854775807) ∧ Below w.heap.size w w'
theorem IdsPost.of {L M : List Int} {w w' : World} {e : Ending} {A : Option Addr} {m c : Nat} (hL : L = M) (he : e = .returned (.slice A m c)) (ho : w'.ownsRow w.heap.size 24 1 (.slice A m c) m (nv .u64 M)) (hb : Below w.heap.size w w') : IdsPost L w e w' := by
  have hm := own_nums ho
  subst hL hm
  exact ⟨A, c, he, Nums.of_own ho, ⟨own_cap ho, own_cap63 ho⟩, hb⟩
theorem Sp.private_ok {l : List Sp.Ref} (h : Sp.Ok l) : Sp.private_ l = Sp.priv l := if_pos h
theorem Sp.private_bad {l : List Sp.Ref} (h : ¬ Sp.Ok l) : Sp.private_ l = [] := if_neg h
theorem Sp.priv_take {l : List Sp.Ref} {k : Nat} (hk : k < l.length) : Sp.priv (l.take (k + 1)) = if l[k].sh then Sp.priv (l.take k) else Sp.priv (l.take k) ++ [l[k].id] := by
  rw [List.take_succ_eq_append_getElem hk, Sp.priv_snoc]
set_option maxRecDepth 100000 in
set_option maxHeartbeats 8000000 in
theorem private_any (l : List Sp.Ref) (A : Option Addr) (n cap : Nat) (W : World) (h : Refs W W.heap.size A n l) (hn : n ≤ cap ∧ cap ≤ 9223372036854775807) : Calls Tryd.prog 32 #[.slice A n cap] W (IdsPost (Sp.private_ l) W) := by
  have hl := h.len
  have HR := hide h
  clear h
  go_enter Tryd.func32, Tryd.ntmps32
  go_wp2_with fail
  refine (valid_any l A n cap _ HR.out hn).mono ?_
  rintro e w1 ⟨rfl, hb1⟩
  have HB1 := hide hb1
  clear hb1
  by_cases hok : Sp.Ok l
  · have h16 : n ≤ 16 := by have := hok.1; omega
    have HF := hide (Sp.private_ok hok)
    rw [decide_eq_true hok]
    clear hok
    have h16' : (n : Int) ≤ 16 := by omega
    go_wp2_with fail
    go_loopw [3, 11] (fun s3 s11 wr => ∃ (k m c : Nat) (O : Option Addr), s11 = .int .i64 (k : Int) ∧ s3 = .slice O m c ∧ k ≤ n ∧ m ≤ k ∧ Hid (wr.ownsRow W.heap.size 24 1 (.slice O m c) m (nv .u64 (Sp.priv (l.take k)))) ∧ Hid (Below W.heap.size W wr)) (fun _ s11 _ => n - (intOf s11).toNat)
    case atStart => exact ⟨0, 0, 0, none, rfl, rfl, by omega, by omega, hide (by rw [List.take_zero]; exact own_none), HB1⟩
    case round =>
      clear HB1
      obtain ⟨k, m, c, O, rfl, rfl, hk, hm, HO, HB⟩ := hrel
      by_cases hlt : k < n
      · have hlt' : (k : Int) < (n : Int) := by omega
        obtain ⟨b, o, hkl, rfl, hb, c0, c1⟩ := (HR.out.below HB.out).at_ hlt
        have HP := hide (Sp.priv_take hkl)
        obtain ⟨L, hL⟩ : ∃ L, Sp.priv (l.take k) = L := ⟨_, rfl⟩
        rw [hL] at HO HP
        obtain ⟨x, hx⟩ : ∃ x, l[k] = x := ⟨_, rfl⟩
        rw [hx] at c0 c1 HP
        obtain ⟨w3, hw3, g, hg, w4, hw4, OZ, ON, hb4, hs4⟩ := start_slot wr x
        have hWg : W.heap.size ≤ g := by have := HB.out.size; omega
        have HB4 := hide (HB.out.trans (hb4.mono hWg))
        have HO4 := hide (own_below HO.out (by rw [hg]; exact hb4))
        have hW4 := HB4.out.size
        have n0 := ON.cell 0
        have n1 := ON.cell 1
        simp at n0 n1
        clear hx hL hb4 hs4 ON HO HB
        cases hs : x.sh with
        | true =>
          rw [hs] at n1 HP
          rw [if_pos rfl] at HP
          have HO5 := hide (show w4.ownsRow W.heap.size 24 1 (.slice O m c) m (nv .u64 (Sp.priv (l.take (k + 1)))) by rw [HP.out]; exact HO4.out)
          clear hs HO4
          go_wp2_with (first | (refine wpList_val (by rfl) (exec_load_ref rfl rfl c0 c1) ?_) | (refine store_ref rfl _ _ rfl rfl (c := x) rfl OZ rfl ?_; rw [hw4]) | fail)
          go_roundw
          case rel => exact ⟨k + 1, m, c, O, by go_num, rfl, by omega, by omega, HO5, HB4⟩
          case measure => simp [intOf]; omega
        | false =>
          rw [hs] at n1 HP
          rw [if_neg (by decide)] at HP
          clear hs
          go_wp2_with (first | (refine wpList_val (by rfl) (exec_load_ref rfl rfl c0 c1) ?_) | (refine store_ref rfl _ _ rfl rfl (c := x) rfl OZ rfl ?_; rw [hw4]) | (at_builtin; refine wpList_append_rd rfl _ _ _ rfl idTy (base := W.heap.size) rfl (HO4.out.alloc (.cells #[.int .u64 x.id] 24)) rfl (Row.new w4 (.int .u64 x.id) 24) (by simp [Value.oneCell']) (by unfold maxLen; omega) (by omega) (by simp; omega) ?_; intro A5 c5 w5 hown5 hg5 _; have HB5 := hide (below_own (HB4.out.alloc hW4 _) (HO4.out.alloc _) hg5 (by simp; omega)); rw [nv_snoc, ← HP.out] at hown5; have HO5 := hide hown5; clear hown5 hg5 HO4 HB4) | fail)
          go_roundw
          case rel => exact ⟨k + 1, m + 1, c5, A5, by go_num, rfl, by omega, by omega, HO5, HB5⟩
          case measure => simp [intOf]; omega
      · obtain rfl : k = n := by omega
        have HT := hide (show l.take k = l from List.take_of_length_le (by omega))
        go_wp2_with fail
        go_ret
        refine IdsPost.of HF.out rfl ?_ HB.out
        have := HO.out
        rwa [HT.out] at this
  · have HF := hide (Sp.private_bad hok)
    rw [decide_eq_false hok]
    clear hok
    go_wp2_with fail
    go_ret
    exact IdsPost.of HF.out rfl own_none HB1.out
end Go.Proofs.YtdglcpepgodcpaaDoor
namespace Go.Proofs.YtdglcpepgodcpaaDoor
open Go.RowKit

/-- A copy. -/
def ClonePost (n : Nat) (l : List Sp.Ref) (w : World) (e : Ending) (w' : World) : Prop := ∃ A c, e = .returned (.slice A n c) ∧ w'.ownsRow w.heap.size 77 2 (.slice A n c) n (rv l) ∧ Below w.heap.size w w'
set_option maxRecDepth 100000 in
set_option maxHeartbeats 4000000 in
theorem clone_any (l : List Sp.Ref) (A : Option Addr) (n cap : Nat) (W : World) (h : Refs W W.heap.size A n l) (hn : n ≤ 1000) : Calls Tryd.prog 35 #[.slice A n cap] W (ClonePost n l W) := by
  have HR := hide h
  have hl := h.len
  clear h
  have heq : ∀ w : World, (binOp .eql 33 (.slice A n cap) (.slice none 0 0)).run Tryd.prog w = .ok (.bool A.isNone) w := fun w => Lib.run_eql_slice_nil w _ _ _ _ _ _ _ Tryd.underlying33
  cases A with
  | none =>
    have h0 : n = 0 := HR.out.row.2.1 rfl
    subst h0
    have hl0 := List.eq_nil_of_length_eq_zero hl
    subst hl0
    go_enter Tryd.func35, Tryd.ntmps35
    go_wp2_with fail
    go_ret
    exact ⟨none, 0, rfl, own_none, Below.refl _ _⟩
  | some a =>
    go_enter Tryd.func35, Tryd.ntmps35
    go_wp2_with (first | (at_builtin; refine wpList_append_rd rfl _ _ _ rfl refTy (base := W.heap.size) rfl (own_empty W 77 2 (Nat.le_refl _)) (S := some a) (m := n) (d := cap) (news := rv l) rfl (HR.out.2.alloc (Nat.le_refl _) _) (rv_one _) (by unfold maxLen; omega) (by omega) (by simp) ?_; intro A3 c3 w3 hown3 hg3 _; have HB3 := hide (below_own ((Below.refl _ _).alloc (Nat.le_refl _) _) (own_empty W 77 2 (Nat.le_refl _)) hg3 (by simp)); rw [Nat.zero_add, List.nil_append] at hown3; have HO3 := hide hown3; clear hown3 hg3) | fail)
    go_ret
    exact ⟨A3, c3, rfl, HO3.out, HB3.out⟩

/-- An address space, an address, an error. -/
def AttachPost (r : List Sp.Ref × Int × Int) (w : World) (e : Ending) (w' : World) : Prop := ∃ A c, e = .returned (.tuple #[.slice A r.1.length c, .int .i64 r.2.1, .int .i64 r.2.2]) ∧ Refs w' w'.heap.size A r.1.length r.1 ∧ (r.1.length ≤ c ∧ c ≤ 9223372036854775807) ∧ Below w.heap.size w w'
theorem AttachPost.none {r : List Sp.Ref × Int × Int} {w w' : World} {e : Ending} {x : Int} (hr : r = ([], 0, x)) (he : e = .returned (.tuple #[.slice none 0 0, .int .i64 0, .int .i64 x])) (hb : Below w.heap.size w w') : AttachPost r w e w' := by
  subst hr; exact ⟨_, _, he, Refs.nil, by simp, hb⟩
theorem AttachPost.of {r : List Sp.Ref × Int × Int} {L : List Sp.Ref} {w w' : World} {e : Ending} {a x : Int} {A : Option Addr} {m c : Nat} (hr : r = (L, a, x)) (he : e = .returned (.tuple #[.slice A m c, .int .i64 a, .int .i64 x])) (hR : Refs w' w'.heap.size A m L) (hc : m ≤ c ∧ c ≤ 9223372036854775807) (hb : Below w.heap.size w w') : AttachPost r w e w' := by
  have hm := hR.len
  subst hr hm
  exact ⟨_, _, he, hR, hc, hb⟩
theorem Sp.attach_bad {l : List Sp.Ref} (h : ¬ Sp.Ok l) (ids : List Int) : Sp.attach l ids = ([], 0, 1) := by unfold Sp.attach; rw [if_neg h]
theorem Sp.attach_none {l : List Sp.Ref} (h : Sp.Ok l) {ids : List Int} (h0 : ids.length = 0) : Sp.attach l ids = ([], 0, 2) := by unfold Sp.attach; rw [if_pos h, if_pos h0]
theorem Sp.attach_many {l : List Sp.Ref} (h : Sp.Ok l) {ids : List Int} (h0 : ids.length ≠ 0) (h1 : 16 < l.length + ids.length) : Sp.attach l ids = ([], 0, 3) := by unfold Sp.attach; rw [if_pos h, if_neg h0, if_pos h1]
theorem Sp.attach_not {l : List Sp.Ref} (h : Sp.Ok l) {ids : List Int} (h0 : ids.length ≠ 0) (h1 : ¬ 16 < l.length + ids.length) (h2 : ¬ Sp.Ok (l ++ Sp.shared ids)) : Sp.attach l ids = ([], 0, 1) := by unfold Sp.attach; rw [if_pos h, if_neg h0, if_neg h1, if_neg h2]
theorem Sp.attach_ok {l : List Sp.Ref} (h : Sp.Ok l) {ids : List Int} (h0 : ids.length ≠ 0) (h1 : ¬ 16 < l.length + ids.length) (h2 : Sp.Ok (l ++ Sp.shared ids)) : Sp.attach l ids = (l ++ Sp.shared ids, 16 * (l.length : Int), 0) := by unfold Sp.attach; rw [if_pos h, if_neg h0, if_neg h1, if_pos h2]
theorem Sp.shared_take {ids : List Int} {k : Nat} (hk : k < ids.length) (l : List Sp.Ref) : (l ++ Sp.shared (ids.take k)) ++ [⟨ids[k], true⟩] = l ++ Sp.shared (ids.take (k + 1)) := by
  rw [List.take_succ_eq_append_getElem hk]
  unfold Sp.shared
  rw [List.map_append, ← List.append_assoc]
  rfl
end Go.Proofs.YtdglcpepgodcpaaDoor
namespace Go.Proofs.YtdglcpepgodcpaaDoor
open Go.RowKit

theorem Nums.tail {k : IntKind} {w : World} {B b o n : Nat} {l : List Int} (h : Nums k w B (some ⟨b, o, none⟩) (n + 1) l) : Nums k w B (some ⟨b, o + 1, none⟩) n (l.drop 1) := by
  have hl := h.1
  refine ⟨by rw [List.length_drop]; omega, ⟨by rw [nv_length, List.length_drop]; omega, by simp, ?_⟩⟩
  have := h.2.rd.drop_ 1
  simpa [nv] using this
theorem Nums.next {k : IntKind} {w : World} {B b o n c : Nat} {l : List Int} (h : Nums k w B (some ⟨b, o, none⟩) (n + 1) l) (hc : n + 1 ≤ c) : Nums k w B (if c = 1 then some ⟨b, o, none⟩ else some ⟨b, o + 1, none⟩) n (l.drop 1) := by
  by_cases h1 : c = 1
  · have h0 : n = 0 := by omega
    subst h0
    have : l.drop 1 = [] := List.eq_nil_of_length_eq_zero (by rw [List.length_drop]; have := h.1; omega)
    rw [this]
    exact Nums.nil
  · rw [if_neg h1]
    exact h.tail
end Go.Proofs.YtdglcpepgodcpaaDoor
namespace Go.Proofs.YtdglcpepgodcpaaDoor
open Go.RowKit

/-- An address space of so many pages. -/
def SwapPost (n : Nat) (L : List Sp.Ref) (w : World) (e : Ending) (w' : World) : Prop := ∃ A c, e = .returned (.slice A n c) ∧ Refs w' w'.heap.size A n L ∧ (n ≤ c ∧ c ≤ 9223372036854775807) ∧ Below w.heap.size w w'
/-- An address space, an error. -/
def ReplacePost (r : List Sp.Ref × Int) (w : World) (e : Ending) (w' : World) : Prop := ∃ A c, e = .returned (.tuple #[.slice A r.1.length c, .int .i64 r.2]) ∧ Refs w' w'.heap.size A r.1.length r.1 ∧ (r.1.length ≤ c ∧ c ≤ 9223372036854775807) ∧ Below w.heap.size w w'
theorem ReplacePost.none {r : List Sp.Ref × Int} {w w' : World} {e : Ending} {x : Int} (hr : r = ([], x)) (he : e = .returned (.tuple #[.slice none 0 0, .int .i64 x])) (hb : Below w.heap.size w w') : ReplacePost r w e w' := by
  subst hr; exact ⟨_, _, he, Refs.nil, by simp, hb⟩
theorem ReplacePost.of {r : List Sp.Ref × Int} {L : List Sp.Ref} {w w' : World} {e : Ending} {x : Int} {A : Option Addr} {m c : Nat} (hr : r = (L, x)) (he : e = .returned (.tuple #[.slice A m c, .int .i64 x])) (hR : Refs w' w'.heap.size A m L) (hc : m ≤ c ∧ c ≤ 9223372036854775807) (hb : Below w.heap.size w w') : ReplacePost r w e w' := by
  have hm := hR.len
  subst hr hm
  exact ⟨_, _, he, hR, hc, hb⟩
theorem Sp.replace_bad {l : List Sp.Ref} (h : ¬ Sp.Ok l) (ids : List Int) : Sp.replace l ids = ([], 1) := by unfold Sp.replace; rw [if_neg h]
theorem Sp.replace_ne {l : List Sp.Ref} (h : Sp.Ok l) {ids : List Int} (h0 : ids.length ≠ (Sp.priv l).length) : Sp.replace l ids = ([], 2) := by unfold Sp.replace; rw [if_pos h, if_neg h0]
theorem Sp.replace_not {l : List Sp.Ref} (h : Sp.Ok l) {ids : List Int} (h0 : ids.length = (Sp.priv l).length) (h2 : ¬ Sp.Ok (Sp.swap l ids)) : Sp.replace l ids = ([], 1) := by unfold Sp.replace; rw [if_pos h, if_pos h0, if_neg h2]
theorem Sp.replace_ok {l : List Sp.Ref} (h : Sp.Ok l) {ids : List Int} (h0 : ids.length = (Sp.priv l).length) (h2 : Sp.Ok (Sp.swap l ids)) : Sp.replace l ids = (Sp.swap l ids, 0) := by unfold Sp.replace; rw [if_pos h, if_pos h0, if_pos h2]
theorem start_slot2 (w : World) (i : Int) (s : Bool) : ∃ w1, w.alloc (.cells #[.int .u64 0, .bool false] 77) = w1 ∧ ∃ g, w.heap.size = g ∧ ∃ w2, w1.setRow g #[.int .u64 i, .bool s] = w2 ∧
    Obl w1 g 77 #[.int .u64 0, .bool false] ∧ Obl w2 g 77 #[.int .u64 i, .bool s] ∧ Below g w w2 ∧ w2.heap.size = g + 1 := start_slot w ⟨i, s⟩
theorem headD_get {L : List Int} (h : 0 < L.length) : L.headD 0 = L[0] := by
  cases L with
  | nil => simp at h
  | cons a r => rfl
theorem sp_put_other2 {w : World} {base n c b size : Nat} {A : Option Addr} {e : TypeId} {xs : List Value} (h : w.ownsRow base e size (.slice A n c) n xs) (hne : (Value.slice A n c).ownBlock = some b → False) (i : Nat) (u : Value) : (w.setCell ⟨b, i, none⟩ u).ownsRow base e size (.slice A n c) n xs := ownsRow_setCell_other h (fun e => hne e) u
set_option maxRecDepth 100000 in
set_option maxHeartbeats 8000000 in
theorem swap_any (l : List Sp.Ref) (ids : List Int) (A I : Option Addr) (n cap q cq : Nat) (W : World) (h : Refs W W.heap.size A n l) (hn : n ≤ 100) (hI : Nums .u64 W W.heap.size I q ids) (hcq : q ≤ cq ∧ cq ≤ 9223372036854775807) (hq : q = (Sp.priv l).length) :
    Calls Tryd.prog 33 #[.slice A n cap, .slice I q cq] W (SwapPost n (Sp.swap l ids) W) := by
  have hl := h.len
  have hli := hI.len
  have HR := hide h
  have HI := hide hI
  have HQ := hide (show ids.length = (Sp.priv l).length by omega)
  have HCQ := hide hcq
  have hn' : (n : Int) ≤ 100 := by omega
  clear h hI hq
  go_enter Tryd.func33, Tryd.ntmps33
  go_wp2_with fail
  go_loopw [1, 5, 10] (fun s1 s5 s10 wr => ∃ (k c q' c' : Nat) (O I' : Option Addr), s10 = .int .i64 (k : Int) ∧ s5 = .slice O k c ∧ s1 = .slice I' q' c' ∧ k ≤ n ∧ Hid (q' ≤ c' ∧ c' ≤ 9223372036854775807) ∧ Hid (Nums .u64 wr W.heap.size I' q' (ids.drop (Sp.priv (l.take k)).length)) ∧ Hid (wr.ownsRow W.heap.size 77 2 (.slice O k c) k (rv (Sp.swap (l.take k) ids))) ∧ Hid (Below W.heap.size W wr)) (fun _ _ s10 _ => n - (intOf s10).toNat)
  case atStart => exact ⟨0, 0, q, cq, none, I, rfl, rfl, rfl, by omega, HCQ, hide (by rw [List.take_zero]; exact HI.out), hide (by rw [List.take_zero]; exact own_none), hide (Below.refl _ _)⟩
  case round =>
    obtain ⟨k, c, q', c', O, I', rfl, rfl, rfl, hk, HC, HJ, HO, HB⟩ := hrel
    by_cases hlt : k < n
    · have hlt' : (k : Int) < (n : Int) := by omega
      obtain ⟨b, o, hkl, rfl, hb, c0, c1⟩ := (HR.out.below HB.out).at_ hlt
      have HS := hide (Sp.swap_take hkl ids)
      have HP := hide (Sp.priv_take hkl)
      have HLt := hide (fun h => Sp.priv_take_lt (l := l) (k := k) hkl h)
      obtain ⟨LS, hLS⟩ : ∃ LS, Sp.swap (l.take k) ids = LS := ⟨_, rfl⟩
      rw [hLS] at HO HS
      obtain ⟨x, hx⟩ : ∃ x, l[k] = x := ⟨_, rfl⟩
      rw [hx] at c0 c1 HS HP HLt
      obtain ⟨xi, xs⟩ := x
      simp only at c0 c1 HS HP HLt
      obtain ⟨w3, hw3, g, hg, w4, hw4, OZ, ON, hb4, hs4⟩ := start_slot2 wr xi xs
      have hWg : W.heap.size ≤ g := by have := HB.out.size; omega
      have hk1000 : k + 1 ≤ 1000 := by omega
      have HB4 := hide (HB.out.trans (hb4.mono hWg))
      have HO4 := hide (own_below HO.out (by rw [hg]; exact hb4))
      have hne : (Value.slice O k c).ownBlock = some g → False := fun e => by have := (HO.out.lt g e).2; omega
      have HJ4 := hide (HJ.out.below (hb4.mono hWg))
      clear hx hLS hb4 HO HB HJ
      cases xs with
      | true =>
        simp only [if_true] at HS HP
        have HJ5 := hide (show Nums .u64 w4 W.heap.size I' q' (ids.drop (Sp.priv (l.take (k + 1))).length) by rw [HP.out]; exact HJ4.out)
        obtain ⟨w5, hw5⟩ : ∃ w5, w5 = w4 := ⟨_, rfl⟩
        rw [← hw5] at hw4 ON HB4 HO4 HJ5 hs4
        have HO5 := hide HO4.out
        have hW5 := HB4.out.size
        have n1 := ON.cell 1
        simp at n1
        clear HO4 HJ4 hw5 hs4 hne
        go_wp2_with (first | (refine wpList_val (by rfl) (exec_load_ref (y := ⟨xi, true⟩) rfl rfl c0 c1) ?_) | (refine store_ref rfl _ _ rfl rfl (c := ⟨xi, true⟩) rfl OZ rfl ?_; rw [hw4]) | (refine load_ref rfl _ rfl rfl (y := ⟨xi, true⟩) ON ?_) | (at_builtin; refine wpList_append_rd rfl _ _ _ rfl refTy (base := W.heap.size) rfl (HO5.out.alloc (.cells #[.int .u64 xi, .bool true] 77)) rfl (Row.two w5 ⟨xi, true⟩ 77) (by simp [Value.oneCell']) (by unfold maxLen; omega) (by omega) (by simp; omega) ?_; intro A6 c6 w6 hown6 hg6 _; have HX6 := hide (below_own ((Below.refl W.heap.size w5).alloc hW5 (.cells #[.int .u64 xi, .bool true] 77)) (HO5.out.alloc _) hg6 (by simp; omega)); rw [show rv LS ++ [.int .u64 xi, .bool true] = rv (LS ++ [⟨xi, true⟩]) from rv_snoc LS ⟨_, _⟩, ← HS.out] at hown6; have HO6 := hide hown6; clear hown6 hg6 HO5) | fail)
        have HB6 := hide (HB4.out.trans HX6.out)
        have HJ6 := hide (HJ5.out.below HX6.out)
        go_roundw
        case rel => exact ⟨k + 1, c6, q', c', A6, I', by go_num, rfl, rfl, by omega, HC, HJ6, HO6, HB6⟩
        case measure => simp [intOf]; omega
      | false =>
        simp only [Bool.false_eq_true, if_false] at HS HP
        have hj := HLt.out rfl
        have hjq := HJ4.out.len
        rw [List.length_drop] at hjq
        have hq0 := HQ.out
        obtain ⟨p, rfl⟩ : ∃ p, q' = p + 1 := ⟨q' - 1, by omega⟩
        have HJ5 := HJ4
        obtain ⟨bi, oi, hjl, rfl, hbi, ci⟩ := HJ4.out.at_ (i := 0) (by omega)
        rw [Nat.add_zero] at ci
        have HT := hide (HJ5.out.next HC.out.1)
        obtain ⟨y, hy⟩ : ∃ y, (ids.drop (Sp.priv (l.take k)).length)[0] = y := ⟨_, rfl⟩
        rw [hy] at ci
        have hhead : (ids.drop (Sp.priv (l.take k)).length).headD 0 = y := by
          rw [← hy]
          exact headD_get hjl
        rw [hhead] at HS
        have HP2 : Hid (ids.drop (Sp.priv (l.take (k + 1))).length = (ids.drop (Sp.priv (l.take k)).length).drop 1) := hide (by rw [HP.out, List.length_append, List.drop_drop]; rfl)
        obtain ⟨AR, hAR⟩ : ∃ AR : Option Addr, (if c' = 1 then some (⟨bi, oi, none⟩ : Addr) else some (⟨bi, oi + 1, none⟩ : Addr)) = AR := ⟨_, rfl⟩
        rw [hAR] at HT
        have hc0 := HC.out
        have h1p : (1 : Int) ≤ (p : Int) + 1 := by omega
        have n1 := ON.cell 1
        simp at n1
        have hbg : bi < g := by omega
        clear hhead hy hj hjq hq0 HJ4 HJ5 hjl
        go_wp2_with (first | (refine wpList_val (by rfl) (exec_load_ref (y := ⟨xi, false⟩) rfl rfl c0 c1) ?_) | (refine store_ref rfl _ _ rfl rfl (c := ⟨xi, false⟩) rfl OZ rfl ?_; rw [hw4]) | fail)
        refine region_B (by kernel_rfl) g ?_
        have ON' : Obl w4.drew g 77 #[.int .u64 xi, .bool false] := ON
        have ci' : w4.drew.cell? ⟨bi, oi, none⟩ = some (.int .u64 y) := ci
        have HB4' : Hid (Below W.heap.size W w4.drew) := hide HB4.out.drew
        have HO4' : Hid (w4.drew.ownsRow W.heap.size 77 2 (.slice O k c) k (rv LS)) := HO4
        have HT' : Hid (Nums .u64 w4.drew W.heap.size AR p (List.drop 1 (ids.drop (Sp.priv (l.take k)).length))) := HT
        have hs4' : w4.drew.heap.size = g + 1 := hs4
        clear ON ci HB4 HO4 HT n1 hs4 OZ hw3 hw4
        generalize w4.drew = u at *
        refine takeB 0 rfl (by kernel_rfl) (fun _ _ _ h => h) (by rfl) (by intro w' hg; go_simp; try with_reducible rfl) ?_
        refine takeB 1 rfl (by kernel_rfl) (fun _ _ _ h => h) (by rfl) (by intro w' hg; go_simp; try with_reducible rfl) ?_
        refine takeB 2 rfl (by kernel_rfl) (fun _ _ _ h => h) (by rfl) (by intro w' hg; have g0 := (hg.cell (p := ⟨bi, oi, none⟩) hbg).trans ci'; go_simp; try with_reducible rfl) ?_
        refine takeB 3 rfl (by kernel_rfl) (fun _ _ _ h => h) (by rfl) (by intro w' hg; go_simp; try with_reducible rfl) ?_
        refine takeB 4 rfl (by kernel_rfl) (fun _ _ _ h => h) (by rfl) (by intro w' hg; go_simp; try with_reducible rfl) ?_
        refine takeB 5 rfl (by kernel_rfl) (fun _ _ _ h => h) (by rfl) (by intro w' hg; go_simp; try with_reducible rfl) ?_
        refine onlyB 6 rfl (by kernel_rfl) (by rfl) ?_
        intro K hK
        have m0 := ON'.cell 0
        simp at m0
        have z0 := ON'.free 0
        go_simp
        refine hK _ _ ((Below.refl _ _).setCell (p := ⟨g, 0, none⟩) (Nat.le_refl _) _) ?_
        clear hK K m0 z0
        have ON5 := ON'.put 0 (.int .u64 y)
        have HB5 := hide (HB4'.out.setCell (p := ⟨g, 0, none⟩) hWg (.int .u64 y))
        have HT5 := hide (HT'.out.below (((Below.refl _ u).setCell (p := ⟨g, 0, none⟩) hWg (.int .u64 y))))
        have HO5 := hide (sp_put_other2 HO4'.out (b := g) hne 0 (.int .u64 y))
        have hW5 := HB5.out.size
        obtain ⟨w5, hw5⟩ : ∃ w5, u.setCell ⟨g, 0, none⟩ (.int .u64 y) = w5 := ⟨_, rfl⟩
        rw [hw5] at ON5 HB5 HT5 HO5 hW5
        refine takeB 7 rfl (by kernel_rfl) (fun _ _ _ h => h) (by rfl) (by intro w' hg; go_simp; try with_reducible rfl) ?_
        refine doneB (by kernel_rfl) ?_
        clear ON' HB4' HO4' HT' ci' hs4' hne
        go_simp
        try rw [hw5]
        clear hw5
        go_wp2_with (first | (refine load_ref rfl _ rfl rfl (y := ⟨y, false⟩) ON5 ?_) | (at_builtin; refine wpList_append_rd rfl _ _ _ rfl refTy (base := W.heap.size) rfl (HO5.out.alloc (.cells #[.int .u64 y, .bool false] 77)) rfl (Row.two w5 ⟨y, false⟩ 77) (by simp [Value.oneCell']) (by unfold maxLen; omega) (by omega) (by simp; omega) ?_; intro A6 c6 w6 hown6 hg6 _; have HX6 := hide (below_own ((Below.refl W.heap.size w5).alloc hW5 (.cells #[.int .u64 y, .bool false] 77)) (HO5.out.alloc _) hg6 (by simp; omega)); rw [show rv LS ++ [.int .u64 y, .bool false] = rv (LS ++ [⟨y, false⟩]) from rv_snoc LS ⟨_, _⟩, ← HS.out] at hown6; have HO6 := hide hown6; clear hown6 hg6 HO5) | fail)
        have HB6 := hide (HB5.out.trans HX6.out)
        have HJ6 := hide (HT5.out.below HX6.out)
        rw [← HP2.out] at HJ6
        have HC6 := hide (show p ≤ c' - 1 ∧ c' - 1 ≤ 9223372036854775807 by omega)
        go_roundw
        case rel => exact ⟨k + 1, c6, p, c' - 1, A6, AR, by go_num, rfl, rfl, by omega, HC6, HJ6, HO6, HB6⟩
        case measure => simp [intOf]; omega
    · obtain rfl : k = n := by omega
      have HT := hide (show l.take k = l from List.take_of_length_le (by omega))
      have HO6 := hide (show wr.ownsRow W.heap.size 77 2 (.slice O k c) k (rv (Sp.swap l ids)) by have := HO.out; rwa [HT.out] at this)
      clear HO HJ
      go_wp2_with fail
      go_ret
      exact ⟨O, c, rfl, Refs.of_own HO6.out, ⟨own_cap HO6.out, own_cap63 HO6.out⟩, HB.out⟩
theorem IdsPost.got {L M : List Int} {m : Nat} {w w' : World} {e : Ending} (h : IdsPost L w e w') (hL : L = M) (hm : M.length = m) : ∃ A c, e = .returned (.slice A m c) ∧ Below w.heap.size w w' := by
  subst hL hm
  obtain ⟨A, c, he, _, _, hb⟩ := h
  exact ⟨A, c, he, hb⟩
set_option maxRecDepth 100000 in
set_option maxHeartbeats 8000000 in
theorem replace_any (l : List Sp.Ref) (ids : List Int) (A I : Option Addr) (n cap q cq : Nat) (W : World) (h : Refs W W.heap.size A n l) (hn : n ≤ cap ∧ cap ≤ 9223372036854775807) (hI : Nums .u64 W W.heap.size I q ids) (hcq : q ≤ cq ∧ cq ≤ 9223372036854775807) :
    Calls Tryd.prog 15 #[.slice A n cap, .slice I q cq] W (ReplacePost (Sp.replace l ids) W) := by
  have hl := h.len
  have hli := hI.len
  have HR := hide h
  have HI := hide hI
  have HCQ := hide hcq
  clear h hI
  go_enter Tryd.func15, Tryd.ntmps15
  go_wp2_with fail
  refine (valid_any l A n cap _ HR.out hn).mono ?_
  rintro e w1 ⟨rfl, hb1⟩
  have HB1 := hide hb1
  clear hb1
  by_cases hok : Sp.Ok l
  · have h16 : n ≤ 16 := by have := hok.1; omega
    have h16' : (n : Int) ≤ 16 := by omega
    have HF := hide (Sp.private_ok hok)
    have HK := hide hok
    rw [decide_eq_true hok]
    clear hok
    obtain ⟨m, hm⟩ : ∃ m, (Sp.priv l).length = m := ⟨_, rfl⟩
    have HM := hide hm
    have hm16 : m ≤ 16 := by have := Sp.priv_length_le l; omega
    clear hm
    have hq63 : (q : Int) ≤ 9223372036854775807 := by omega
    go_wp2_with fail
    refine (private_any l A n cap _ (HR.out.later HB1.out) hn).mono ?_
    intro e w2 hp
    obtain ⟨A2, c2, rfl, hb2⟩ := hp.got HF.out HM.out
    have HB2 := hide (HB1.out.trans (hb2.mono HB1.out.size))
    clear hp hb2
    by_cases hqm : q = m
    · have HQ := hide (show ids.length = (Sp.priv l).length by have := HM.out; omega)
      have e0 : ((q : Int) == (m : Int)) = true := by simp; omega
      have e1 : ((q : Int) != (m : Int)) = false := by simp; omega
      clear hqm
      go_wp2_with fail
      refine (swap_any l ids A I n cap q cq _ (HR.out.later HB2.out) (by omega) ((HI.out.below HB2.out).mono HB2.out.size) HCQ.out (by have := HQ.out; omega)).mono ?_
      rintro e w4 ⟨A4, c4, rfl, hR4, hc4, hb4⟩
      have HR4 := hide hR4
      have HC4 := hide hc4
      have HB4 := hide (HB2.out.trans (hb4.mono HB2.out.size))
      clear hR4 hc4 hb4
      go_wp2_with fail
      refine (valid_any (Sp.swap l ids) A4 n c4 _ HR4.out HC4.out).mono ?_
      rintro e w5 ⟨rfl, hb5⟩
      have HB5 := hide (HB4.out.trans (hb5.mono HB4.out.size))
      have HR5 := hide (HR4.out.later hb5)
      clear hb5
      by_cases hok2 : Sp.Ok (Sp.swap l ids)
      · have HF := hide (Sp.replace_ok HK.out HQ.out hok2)
        rw [decide_eq_true hok2]
        clear hok2
        go_wp2_with fail
        go_ret2
        exact ReplacePost.of HF.out rfl HR5.out HC4.out HB5.out
      · have HF := hide (Sp.replace_not HK.out HQ.out hok2)
        rw [decide_eq_false hok2]
        clear hok2
        go_wp2_with fail
        go_ret2
        exact ReplacePost.none HF.out rfl HB5.out
    · have e0 : ((q : Int) == (m : Int)) = false := by simp; omega
      have e1 : ((q : Int) != (m : Int)) = true := by simp; omega
      have HF := hide (Sp.replace_ne HK.out (ids := ids) (by have := HM.out; omega))
      clear hqm
      go_wp2_with fail
      go_ret2
      exact ReplacePost.none HF.out rfl HB2.out
  · have HF := hide (Sp.replace_bad hok ids)
    rw [decide_eq_false hok]
    clear hok
    go_wp2_with fail
    go_ret2
    exact ReplacePost.none HF.out rfl HB1.out
end Go.Proofs.YtdglcpepgodcpaaDoor
namespace Go.Proofs.YtdglcpepgodcpaaDoor
open Go.RowKit

def ocs (l : List Ob) : List Value := l.flatMap ocl
theorem ocl_length (o : Ob) : (ocl o).length = 36 := by simp [ocl, pcs]
theorem ocs_cons (x : Ob) (l : List Ob) : ocs (x :: l) = ocl x ++ ocs l := rfl
theorem ocs_append (a b : List Ob) : ocs (a ++ b) = ocs a ++ ocs b := by simp [ocs]
theorem ocs_snoc (l : List Ob) (x : Ob) : ocs l ++ ocl x = ocs (l ++ [x]) := by rw [ocs_append]; simp [ocs]
theorem ocs_length (l : List Ob) : (ocs l).length = l.length * 36 := by
  induction l with
  | nil => rfl
  | cons x l ih => rw [ocs_cons, List.length_append, ih, ocl_length, List.length_cons]; omega
theorem ocs_at {l : List Ob} {k : Nat} (h : k < l.length) {j : Nat} (hj : j < 36) : (ocs l)[k * 36 + j]? = (ocl l[k])[j]? := by
  induction l generalizing k with
  | nil => simp at h
  | cons x l ih =>
    rw [ocs_cons]
    rcases k with _ | k
    · rw [List.getElem?_append_left (by rw [ocl_length]; omega)]; simp
    · rw [List.getElem?_append_right (by rw [ocl_length]; omega), ocl_length, show (k + 1) * 36 + j - 36 = k * 36 + j by omega]
      exact ih (by simpa using h)
theorem ocl_one (o : Ob) : ∀ u ∈ ocl o, u.oneCell' = true := by
  have h := oc_one o
  rw [oc, Array.all_eq_true'] at h
  intro u hu
  exact h u (by simpa using hu)
theorem ocs_one (l : List Ob) : ∀ u ∈ ocs l, u.oneCell' = true := by
  intro u hu
  obtain ⟨o, _, ho⟩ := List.mem_flatMap.1 hu
  exact ocl_one o u ho
theorem ocs_take (l : List Ob) {i : Nat} (h : i ≤ l.length) : (ocs l).take (i * 36) = ocs (l.take i) := by
  conv => lhs; rw [← List.take_append_drop i l, ocs_append]
  rw [List.take_append_of_le_length (by rw [ocs_length, List.length_take]; omega), List.take_of_length_le (by rw [ocs_length, List.length_take]; omega)]
theorem ocs_drop (l : List Ob) {i : Nat} (h : i ≤ l.length) : (ocs l).drop (i * 36) = ocs (l.drop i) := by
  conv => lhs; rw [← List.take_append_drop i l, ocs_append]
  rw [List.drop_append_of_le_length (by rw [ocs_length, List.length_take]; omega), List.drop_of_length_le (by rw [ocs_length, List.length_take]; omega), List.nil_append]
/-- A slice of objects. -/
def Obs (w : World) (B : Nat) (A : Option Addr) (n : Nat) (l : List Ob) : Prop := l.length = n ∧ Row w B 36 A n (ocs l)
section
variable {w w' : World} {B B' n : Nat} {A : Option Addr} {l : List Ob}
theorem Obs.len (h : Obs w B A n l) : l.length = n := h.1
theorem Obs.nil : Obs w B A 0 [] := ⟨rfl, Row.nil⟩
theorem Obs.mono (h : Obs w B A n l) (hB : B ≤ B') : Obs w B' A n l := ⟨h.1, h.2.mono hB⟩
theorem Obs.below (h : Obs w B A n l) (hb : Below B w w') : Obs w' B A n l := ⟨h.1, h.2.below hb⟩
theorem Obs.later (h : Obs w w.heap.size A n l) (hb : Below w.heap.size w w') : Obs w' w'.heap.size A n l := (h.below hb).mono hb.size
theorem Obs.of_own {base : Nat} {e : TypeId} {c : Nat} (h : w.ownsRow base e 36 (.slice A n c) n (ocs l)) : Obs w w.heap.size A n l := ⟨by have := h.1; rw [ocs_length] at this; omega, Row.of_own h⟩
theorem Obs.at_ (h : Obs w B A n l) {i : Nat} (hi : i < n) : ∃ b o, ∃ hl : i < l.length, A = some ⟨b, o, none⟩ ∧ b < B ∧ ∀ j v, (ocl l[i])[j]? = some v → w.cell? ⟨b, o + i * 36 + j, none⟩ = some v := by
  have hl : i < l.length := by have := h.1; omega
  obtain ⟨b, o, e, hb, hc⟩ := h.2.rd (by
    intro h0
    have := ocs_length l
    rw [h0] at this
    simp at this
    omega)
  refine ⟨b, o, hl, e, hb, fun j v hj => ?_⟩
  have hj36 : j < 36 := by have := (List.getElem?_eq_some_iff.1 hj).1; rwa [ocl_length] at this
  rw [Nat.add_assoc]
  exact hc _ v (by rw [ocs_at hl hj36]; exact hj)
theorem Obs.take_ (h : Obs w B A n l) {i : Nat} (hi : i ≤ n) : Obs w B A i (l.take i) :=
  ⟨by rw [List.length_take]; have := h.1; omega, by rw [ocs_length, List.length_take]; have := h.1; omega, fun hA => by have := h.2.2.1 hA; omega, by rw [← ocs_take l (by have := h.1; omega)]; exact h.2.rd.take_ _⟩
theorem Obs.drop_ {b o : Nat} (h : Obs w B (some ⟨b, o, none⟩) n l) {i : Nat} (hi : i ≤ n) : Obs w B (some ⟨b, o + i * 36, none⟩) (n - i) (l.drop i) :=
  ⟨by rw [List.length_drop]; have := h.1; omega, by rw [ocs_length, List.length_drop]; have := h.1; omega, (fun hA => by cases hA), by rw [← ocs_drop l (by have := h.1; omega)]; exact h.2.rd.drop_ _⟩
end
theorem objTy : ElemTy Tryd.prog 46 42 36 464 := by
  obtain ⟨i0, hi, hz0, hz1, hz2⟩ := info_parts (show (Tryd.prog.info? 42).map (fun i => (i.zero, i.size, i.bytes)) = some (some (.agg (oc Ob.zero)), 36, 464) by kernel_rfl)
  exact ⟨i0, _, Tryd.underlying46, hi, hz0, hz1, hz2, rfl, by omega⟩
theorem exec_load_obn {o : Oper} {act : Act} {w : World} {x : Operand} (ho : o.op = .load 42 x) {b f : Nat} (hx : act.eval x = .pointer (some ⟨b, f, none⟩)) {y : Ob} (hc : ∀ j v, (ocl y)[j]? = some v → w.cell? ⟨b, f + j, none⟩ = some v) :
    (execOp act.eval o).run Tryd.prog w = .ok (.value (.agg (oc y))) w := by
  have hr := run_loadVar_mid (P := Tryd.prog) w b f 42 (ocl y) _ hc Tryd.underlying42 rfl (by rw [ocl_length]; exact obSize)
  unfold execOp
  simp only [ho, hx, Instr.loadAt, Instr.sureAddr, Sem.run_bind, Sem.run_pure, Result.andThen_ok, hr]
  rfl
/-- A store as a value. -/
def sto (A : Option Addr) (n c : Nat) : Array Value := #[.slice A n c]
end Go.Proofs.YtdglcpepgodcpaaDoor
namespace Go.Proofs.YtdglcpepgodcpaaDoor
open Go.RowKit

theorem Obs.zero_ {w : World} {B : Nat} (A : Option Addr) : Obs w B A 0 [] := ⟨rfl, Row.mk0 _ _ _ _⟩
theorem Obs.from_ {w : World} {B n i c : Nat} {A : Option Addr} {l : List Ob} (h : Obs w B A n l) (hi : i ≤ n) (hc : n ≤ c) : Obs w B (if c = i then A else A.map (fun x => x.add (i * 36))) (n - i) (l.drop i) := by
  by_cases hz : n - i = 0
  · rw [hz, List.drop_eq_nil_of_le (by have := h.len; omega)]
    exact Obs.zero_ _
  · rw [if_neg (by omega)]
    obtain ⟨b, o, _, hA, _⟩ := h.at_ (i := 0) (by omega)
    subst hA
    simp only [Option.map_some, add_spot]
    exact h.drop_ hi
theorem obSizeOf (w : World) : (sizeOf (Tryd.prog.elem 46)).run Tryd.prog w = .ok 36 w := by kernel_rfl
theorem obElem : Tryd.prog.underlying 46 = some (.slice (Tryd.prog.elem 46)) := by kernel_rfl
theorem exec_slice_from {o : Oper} {act : Act} {w : World} {x lo : Operand} (ho : o.op = .slice 46 x (some lo) none none) {A : Option Addr} {n c i : Nat} (hx : act.eval x = .slice A n c) (hl : act.eval lo = .int .i64 (i : Int)) (hi : i ≤ n) :
    (execOp act.eval o).run Tryd.prog w = .ok (.value (.slice (if c = i then A else A.map (fun x => x.add (i * 36))) (n - i) (c - i))) w := by
  have hr := run_slice_l (P := Tryd.prog) w 46 A n c obElem .i64 (i : Int) (by omega) (by omega)
  rw [obSizeOf] at hr
  simp only [Result.andThen_ok, sliced, Int.toNat_natCast] at hr
  unfold execOp
  simp only [ho, hx, hl, Option.map_some, Option.map_none, run_sliceAt_slice w 46 _ _ _ _ obElem, Sem.run_bind, hr, Result.andThen_ok, Sem.run_pure]
theorem exec_slice_to {o : Oper} {act : Act} {w : World} {x hi : Operand} (ho : o.op = .slice 46 x none (some hi) none) {A : Option Addr} {n c i : Nat} (hx : act.eval x = .slice A n c) (hh : act.eval hi = .int .i64 (i : Int)) (hic : i ≤ c) :
    (execOp act.eval o).run Tryd.prog w = .ok (.value (.slice A i c)) w := by
  have hr := run_slice_h (P := Tryd.prog) w 46 A n c obElem .i64 (i : Int) (by omega) (by omega)
  rw [obSizeOf] at hr
  have hA : (if c = 0 then A else A.map (fun x => x.add (0 * 36))) = A := by
    split
    · rfl
    · cases A with
      | none => rfl
      | some a => simp [Addr.add]
  simp only [Result.andThen_ok, sliced, Int.toNat_natCast, Nat.sub_zero, hA] at hr
  unfold execOp
  simp only [ho, hx, hh, Option.map_some, Option.map_none, run_sliceAt_slice w 46 _ _ _ _ obElem, Sem.run_bind, hr, Result.andThen_ok, Sem.run_pure]
theorem fill1o (a : Ob) : Instr.fill (fun i => some (i * 36, 36)) ((Array.range (1 * 36)).map ((oc Ob.zero)[· % (oc Ob.zero).size]!)) [(0, .agg (oc a))] = some (oc a) := by kernel_rfl
theorem run_slice1o (w : World) (a : Ob) : (Instr.buildSlice 46 1 #[(0, .agg (oc a))]).run Tryd.prog w = .ok (.slice (some ⟨w.heap.size, 0, none⟩) 1 1) (w.alloc (.cells (oc a) 42)) := by
  have hz : (zeroValue 42).run Tryd.prog w = .ok (.agg (oc Ob.zero)) w := by kernel_rfl
  have hs : (sizeOf 42).run Tryd.prog w = .ok 36 w := by kernel_rfl
  have hf := fill1o a
  simp only [Instr.buildSlice, Sem.run_bind, run_underlying Tryd.underlying46, Result.andThen_ok, hs]
  rw [if_neg (by decide), if_neg (by decide)]
  simp only [Sem.run_bind, hz, Result.andThen_ok, Sem.run_pure, Value.cells, hf, newRow, run_newObj_alloc]
theorem exec_slice1o {o : Oper} {act : Act} {w : World} {x : Operand} (ho : o.op = .buildSlice 46 1 #[(0, x)]) {a : Ob} (hx : act.eval x = .agg (oc a)) :
    (execOp act.eval o).run Tryd.prog w = .ok (.value (.slice (some ⟨w.heap.size, 0, none⟩) 1 1)) (w.alloc (.cells (oc a) 42)) := by
  have hr := run_slice1o w a
  unfold execOp
  simp only [ho, hx, List.map_toArray, List.map_cons, List.map_nil, Sem.run_bind, hr, Result.andThen_ok, Sem.run_pure]
/-- An object in a slice of one, in a new block. -/
theorem start_one (w : World) (x : Ob) : ∃ w1, w.alloc (.cells (oc x) 42) = w1 ∧ ∃ g, w.heap.size = g ∧ Row w1 (g + 1) 36 (some ⟨g, 0, none⟩) 1 (ocl x) ∧ Below w.heap.size w w1 ∧ w1.heap.size = g + 1 := by
  refine ⟨_, rfl, _, rfl, ⟨by rw [ocl_length], by simp, ?_⟩, (Below.refl _ _).alloc (Nat.le_refl _) _, by simp⟩
  exact (Row.list w (ocl x) 42).rd
end Go.Proofs.YtdglcpepgodcpaaDoor
