/- The two queues and the two ends of an object in memory: loaded, stored, indexed whole. Nothing of the program but the types' numbers. -/
import Derived.Test.YthaolmcppfjedaaObMem
namespace Go.Proofs.Ythaolmcppfjedaa
open Go.RowKit

theorem obl_there {w : World} {g : Nat} {t : TypeId} {cs : Array Value} (h : Obl w g t cs) {i n : Nat} (hn : i + n ≤ cs.size) : w.there g i n := fun j hj => ⟨by rw [h.cell, Array.getElem?_eq_getElem (by omega)]; rfl, h.free _⟩
theorem qSize : (Try.prog.info? 39).map (·.size) = some 2 := by kernel_rfl
theorem two_mid (p : Nat → Option Value) (x y : Value) (h0 : p 0 = some x) (h1 : p 1 = some y) (j : Nat) (v : Value) (h : [x, y][j]? = some v) : p j = some v := by
  rcases j with _ | _ | j
  · simpa [h0] using h
  · simpa [h1] using h
  · simp at h
theorem exec_load_qs {w : World} {a : Act} {o : Oper} {x : Operand} (ho : o.op = .load 39 x) {g : Nat} (hx : a.eval x = .pointer (some ⟨g, 30, none⟩)) {t : TypeId} {y : Ob} (h : Obl w g t (oc y)) :
    (execOp a.eval o).run Try.prog w = .ok (.value (.agg #[.slice y.q0.A y.q0.n y.q0.c, .slice y.q1.A y.q1.n y.q1.c])) w :=
  exec_load_mid ho hx h [_, _] (two_mid (fun j => (oc y)[30 + j]?) _ _ rfl rfl) rfl Try.underlying39 qSize
theorem bytesSize1 : (Try.prog.info? 38).map (·.size) = some 1 := by kernel_rfl
theorem run_index_q {w : World} (u v x : Value) (k : Nat) (hk : k < 2) (hx : (#[u, v] : Array Value)[k]? = some x) : (Instr.index 39 (.agg #[u, v]) (.int .i64 (k : Int))).run Try.prog w = .ok x w := by
  have hsz : (sizeOf 38).run Try.prog w = .ok 1 w := by
    cases hq : Try.prog.info? 38 with
    | none => have := bytesSize1; simp [hq] at this
    | some i =>
      have hs : i.size = 1 := by have := bytesSize1; simpa [hq] using this
      simp [sizeOf, typeInfo, hq, hs]
  have hp : (part 38 #[u, v] (k * 1)).run Try.prog w = .ok x w := run_part_one Try.underlying38 rfl (by rw [Nat.mul_one]; exact hx)
  unfold Instr.index
  simp only [asIntOf, Sem.run_bind, Sem.run_pure, Result.andThen_ok, run_underlying Try.underlying39, Int.toNat_natCast]
  rw [if_pos (by omega)]
  simp only [Sem.run_bind, Result.andThen_ok, hsz, hp]
theorem exec_index_q {w : World} {a : Act} {o : Oper} {x i : Operand} (ho : o.op = .index 39 x i) {u v y : Value} (hx : a.eval x = .agg #[u, v]) (k : Nat) (hi : a.eval i = .int .i64 (k : Int)) (hk : k < 2) (hy : (#[u, v] : Array Value)[k]? = some y) :
    (execOp a.eval o).run Try.prog w = .ok (.value y) w := by
  unfold execOp
  simp only [ho, hx, hi, Sem.run_bind, run_index_q u v y k hk hy, Sem.run_pure, Result.andThen_ok]
/-- Two queues, two ends, as cells. -/
def qc (s t : Sl) : Array Value := #[.slice s.A s.n s.c, .slice t.A t.n t.c]
def Ob.qs (o : Ob) : Array Value := qc o.q0 o.q1
theorem qc_one (s t : Sl) : (qc s t).all (·.oneCell') = true := by simp [qc, Value.oneCell']
def ec (a b : Int) : Array Value := #[.int .i64 a, .int .i64 b]
def noSl : Sl := ⟨none, 0, 0⟩
theorem built_noqs : Try.prog.built 39 [] = some (qc noSl noSl) := by kernel_rfl
section
variable {ops : Array Oper} {rest : List Oper} {o : Oper} {a : Act} {w : World} {Q : Exit → Act → World → Prop}
theorem exec_load_q {x : Operand} (ho : o.op = .load 39 x) {g : Nat} (hx : a.eval x = .pointer (some ⟨g, 0, none⟩)) {t : TypeId} {s u : Sl} (h : Obl w g t (qc s u)) :
    (execOp a.eval o).run Try.prog w = .ok (.value (.agg (qc s u))) w := exec_load_row ho hx h rfl Try.underlying39 qSize
theorem load_q (hgd : o.guard = none) (x : Operand) (ho : o.op = .load 39 x) {g : Nat} (hx : a.eval x = .pointer (some ⟨g, 0, none⟩)) {t : TypeId} {s u : Sl} (h : Obl w g t (qc s u))
    (hK : wpList Try.prog ops Q rest (a.put o.dst (.agg (qc s u))) w) : wpList Try.prog ops Q (o :: rest) a w :=
  wpList_load_row hgd _ x ho g hx t (qc s u) (0, 0) _ h Try.underlying39 rfl qSize hK
theorem load_qs (hgd : o.guard = none) (x : Operand) (ho : o.op = .load 39 x) {g : Nat} (hx : a.eval x = .pointer (some ⟨g, 30, none⟩)) {t : TypeId} {y : Ob} (h : Obl w g t (oc y))
    (hK : wpList Try.prog ops Q rest (a.put o.dst (.agg y.qs)) w) : wpList Try.prog ops Q (o :: rest) a w :=
  wpList_val (by simp only [Region.wanted, hgd]) (exec_load_qs ho hx h) hK
theorem load_ends (hgd : o.guard = none) (x : Operand) (ho : o.op = .load 40 x) {g : Nat} (hx : a.eval x = .pointer (some ⟨g, 32, none⟩)) {t : TypeId} {y : Ob} (h : Obl w g t (oc y))
    (hK : wpList Try.prog ops Q rest (a.put o.dst (.agg (nv .i64 [y.e0, y.e1]).toArray)) w) : wpList Try.prog ops Q (o :: rest) a w :=
  wpList_val (by simp only [Region.wanted, hgd]) (exec_load_ends ho hx h) hK
theorem store_q (hgd : o.guard = none) (x y : Operand) (ho : o.op = .store 39 x y) {g : Nat} (hx : a.eval x = .pointer (some ⟨g, 0, none⟩)) {s u : Sl} (hy : a.eval y = .agg (qc s u)) {old : Array Value} {t : TypeId} (h : Obl w g t old) (hold : old.size = 2)
    (hK : wpList Try.prog ops Q rest (a.put o.dst undef) (w.setRow g (qc s u))) : wpList Try.prog ops Q (o :: rest) a w :=
  wpList_store_row hgd _ x y ho g (qc s u) hx hy t old h qSize hold (qc_one _ _) hK
theorem wp_store_q {K : Act → World → Prop} {x y : Operand} (ho : o.op = .store 39 x y) {g : Nat} (hx : a.eval x = .pointer (some ⟨g, 0, none⟩)) {s u : Sl} (hy : a.eval y = .agg (qc s u)) {old : Array Value} {t : TypeId} (h : Obl w g t old) (hold : old.size = 2)
    (hK : K (a.put o.dst undef) (w.setRow g (qc s u))) : o.wp Try.prog a w K Q := wp_store_row _ x y ho g (qc s u) hx hy t old h qSize hold (qc_one _ _) hK
/-- Two cells in the middle of a row. -/
theorem store_two (hgd : o.guard = none) (x y : Operand) {ty : TypeId} (ho : o.op = .store ty x y) (hi : (Try.prog.info? ty).map (·.size) = some 2) {g k : Nat} (hx : a.eval x = .pointer (some ⟨g, k, none⟩)) {u v : Value} (hy : a.eval y = .agg #[u, v]) (hu : u.oneCell' = true) (hv : v.oneCell' = true)
    {t : TypeId} {cs : Array Value} (h : Obl w g t cs) (hk : k + 2 ≤ cs.size) {k1 : Nat} (hk1 : k1 = k + 1) (hK : wpList Try.prog ops Q rest (a.put o.dst undef) ((w.setCell ⟨g, k, none⟩ u).setCell ⟨g, k1, none⟩ v)) : wpList Try.prog ops Q (o :: rest) a w :=
  wpList_store_mid hgd ty x y ho g k #[u, v] hx hy (obl_there h hk) hi (by simp [hu, hv]) (by subst hk1; exact hK)
theorem wp_store_two {K : Act → World → Prop} {x y : Operand} {ty : TypeId} (ho : o.op = .store ty x y) (hi : (Try.prog.info? ty).map (·.size) = some 2) {g k : Nat} (hx : a.eval x = .pointer (some ⟨g, k, none⟩)) {u v : Value} (hy : a.eval y = .agg #[u, v]) (hu : u.oneCell' = true) (hv : v.oneCell' = true)
    {t : TypeId} {cs : Array Value} (h : Obl w g t cs) (hk : k + 2 ≤ cs.size) {k1 : Nat} (hk1 : k1 = k + 1) (hK : K (a.put o.dst undef) ((w.setCell ⟨g, k, none⟩ u).setCell ⟨g, k1, none⟩ v)) : o.wp Try.prog a w K Q :=
  wp_store_mid ty x y ho g k #[u, v] hx hy (obl_there h hk) hi (by simp [hu, hv]) (by subst hk1; exact hK)
end
theorem ret_q {w : World} {fn : Func} {p : Tmp} (hr : fn.results = #[.cell p 39]) (tmps : Array Value) {g : Nat} (hp : tmps.getD p undef = .pointer (some ⟨g, 0, none⟩)) {s u : Sl} {t : TypeId} (h : Obl w g t (qc s u)) :
    (results fn tmps).run Try.prog w = .ok (.agg (qc s u)) w := results_cell_1 hr tmps hp h Try.underlying39 rfl qSize
/-- No queue, no end: what is stored in the middle of an object. -/
theorem oc_noends (y : Ob) : ((oc y).setIfInBounds 32 (.int .i64 0)).setIfInBounds 33 (.int .i64 0) = oc { y with e0 := 0, e1 := 0 } := rfl
theorem oc_qs (y : Ob) (s t : Sl) : ((oc y).setIfInBounds 30 (.slice s.A s.n s.c)).setIfInBounds 31 (.slice t.A t.n t.c) = oc { y with q0 := s, q1 := t } := rfl
/-- The address lies in block B or above, if there is one. -/
def Above (B : Nat) (A : Option Addr) : Prop := ∀ p, A = some p → B ≤ p.block
theorem Above.none {B : Nat} : Above B none := fun p h => by cases h
theorem Above.mono {B B' : Nat} {A : Option Addr} (h : Above B A) (hB : B' ≤ B) : Above B' A := fun p hp => Nat.le_trans hB (h p hp)
theorem above_own {w : World} {base n c size : Nat} {e : TypeId} {A : Option Addr} {xs : List Value} (h : w.ownsRow base e size (.slice A n c) n xs) : Above base A := by
  intro p hp
  subst hp
  rcases h.2 with ⟨h0, _⟩ | ⟨g, cap, cur, hv, hg, _⟩
  · cases h0
  · simp only [Value.slice.injEq, Option.some.injEq] at hv
    rw [hv.1]; exact hg
theorem Bytes.keep_above {w : World} {B n m : Nat} {A : Option Addr} {l : List UInt8} {cells : Array Value} (h : Bytes w B A n l) (ha : Above (m + 1) A) : Bytes (w.setRow m cells) B A n l := by
  refine ⟨h.1, h.2.1, h.2.2.1, fun hx => ?_⟩
  obtain ⟨b, o, e, hb, hc⟩ := h.2.2.2 hx
  have hne : b ≠ m := by have := ha _ e; simp only at this; omega
  refine ⟨b, o, e, hb, fun j u hu => ?_⟩
  rw [← hc j u hu]
  unfold World.cell?
  simp only [setRow_other w m cells hne]
theorem Bytes.put_above {w : World} {B n m i : Nat} {v : Value} {A : Option Addr} {l : List UInt8} (h : Bytes w B A n l) (ha : Above (m + 1) A) : Bytes (w.setCell ⟨m, i, none⟩ v) B A n l := by
  refine ⟨h.1, h.2.1, h.2.2.1, fun hx => ?_⟩
  obtain ⟨b, o, e, hb, hc⟩ := h.2.2.2 hx
  have hne : b ≠ m := by have := ha _ e; simp only at this; omega
  refine ⟨b, o, e, hb, fun j u hu => ?_⟩
  rw [← hc j u hu]
  exact World.cell?_setCell_other _ _ _ _ (fun e => hne (by cases e; rfl))
theorem own_block_lt {w : World} {base n c size : Nat} {e : TypeId} {A : Option Addr} {xs : List Value} (h : w.ownsRow base e size (.slice A n c) n xs) : ∀ p, A = some p → p.block < w.heap.size := by
  intro p hp
  subst hp
  rcases h.2 with ⟨h0, _⟩ | ⟨g, cap, cur, hv, hg, hh, _⟩
  · cases h0
  · simp only [Value.slice.injEq, Option.some.injEq] at hv
    rw [hv.1]; exact lt_of_block hh
/-- The addresses lie in different blocks. -/
def Apart (A B : Option Addr) : Prop := ∀ p q, A = some p → B = some q → p.block ≠ q.block
theorem Apart.symm {A B : Option Addr} (h : Apart A B) : Apart B A := fun p q hp hq e => h q p hq hp e.symm
theorem blk_ne {A : Option Addr} {g : Nat} (h : ∀ p, A = some p → p.block ≠ g) : some g ≠ blk A := by
  cases A with
  | none => simp [blk]
  | some p => simp only [blk, Option.map_some, ne_eq, Option.some.injEq]; exact fun e => h p rfl e.symm
theorem Bytes.grown {w w' : World} {B n : Nat} {A C : Option Addr} {l : List UInt8} (h : Bytes w B A n l) (hg : w.grownBy w' (blk C)) (hB : B ≤ w.heap.size) (hap : Apart C A) : Bytes w' B A n l := by
  refine ⟨h.1, h.2.1, h.2.2.1, fun hx => ?_⟩
  obtain ⟨b, o, e, hb, hc⟩ := h.2.2.2 hx
  refine ⟨b, o, e, hb, fun j u hu => ?_⟩
  rw [← hc j u hu]
  exact World.cell?_of_block (a := ⟨b, o + j, none⟩) (hg.block b (by omega) (blk_ne fun p hp => hap p _ hp e))
end Go.Proofs.Ythaolmcppfjedaa
