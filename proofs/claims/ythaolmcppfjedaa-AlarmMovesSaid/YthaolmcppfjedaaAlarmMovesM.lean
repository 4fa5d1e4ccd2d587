/- Layer 14, what the laws share: processes without lists, and what raising and taking make of them; the sanity check. | Layer 15, what the laws share: processes without lists, what setting and ticks make of them; the sanity check. (Written by tools/mkalarm.py.) | A slice of two processes, a slice of two or three numbers; one loaded out of them. | What came in, as the walks of plain rows read it: slices of bytes, of numbers. | What came in, as the walks of plain rows read it: slices of bytes and strings, instructions, programs, processors. | A slice of three objects, written out; an object loaded out of one. | What came in: objects. (Written by tools/mkobcame.py.) | Address spaces, identifiers that came in. | Slots and tables that came in. | Layer 10, package table: Hold and Drop: contracts. | The lists of the process in an object that came in, and the bounds of its counts. | Processes that came in by value: their cells, lists and numbers. -/
import Derived.Test.YthaolmcppfjedaaSgOps
import Derived.Test.YthaolmcppfjedaaAlOps
import Derived.Test.YthaolmcppfjedaaPrMem
import Derived.Test.YthaolmcppfjedaaRows
import Derived.Test.YthaolmcppfjedaaAgg
import Derived.Deep.Strs
import Derived.Lib.SmallJoins
import Derived.MakeChecks
import Derived.OpenShut
import Derived.ProofKit
import Derived.ChangeMaps5
import Derived.Carry
import Derived.Test.YthaolmcppfjedaaCpuCell
import Derived.Test.YthaolmcppfjedaaOb
import Derived.Test.YthaolmcppfjedaaKeepOb
import Derived.Test.YthaolmcppfjedaaSpMem
import Derived.Test.YthaolmcppfjedaaTbMem
import Derived.Test.YthaolmcppfjedaaTbCopied
import Derived.Test.YthaolmcppfjedaaObMem
import Derived.Test.YthaolmcppfjedaaRegionD
import Derived.BigQuiet
namespace Go.Proofs.Ythaolmcppfjedaa
open Go.RowKit

def stSt (st s : Int) : Int := if s = 9 ∧ st = 1 then 2 else st
def stPd (pd s : Int) : Int := if s = 9 then pd else sgOr pd s
def stSu (st su s : Int) : Int := if s = 9 ∧ st = 1 then -9 else su
theorem proc_raise (st pd al su s : Int) : (Ob.proc st pd al su).raise s = Ob.proc (stSt st s) (stPd pd s) al (stSu st su s) := by
  unfold Ob.raise stSt stPd stSu
  by_cases h9 : s = 9
  · rw [if_pos h9]
    by_cases h1 : st = 1
    · rw [if_pos (show (Ob.proc st pd al su).state = 1 from h1), if_pos ⟨h9, h1⟩, if_pos h9, if_pos ⟨h9, h1⟩]; rfl
    · rw [if_neg (show ¬ (Ob.proc st pd al su).state = 1 from h1), if_neg (fun h => h1 h.2), if_pos h9, if_neg (fun h => h1 h.2)]
  · rw [if_neg h9, if_neg (fun h => h9 h.1), if_neg h9, if_neg (fun h => h9 h.1)]; rfl
/-- A process without lists, like b. -/
structure Plain (a b : Ob) : Prop where
  like : AlikeP a b
  n1 : a.children.n = 0
  n2 : a.code.n = 0
  n3 : a.strs.n = 0
  n4 : a.pages.n = 0
  n5 : a.table.n = 0
theorem Plain.held {a b : Ob} (h : Plain a b) (w : World) (B : Nat) : HoldsP w B a Cont.none := by
  constructor
  · rw [h.n1]; exact Nums.nil
  · rw [h.n2]; exact Inss.nil
  · rw [h.n3]; exact Strs.nil
  · rw [h.n4]; exact Refs.nil
  · rw [h.n5]; exact Slots.nil
theorem Plain.of {w : World} {B : Nat} {a b : Ob} (h : AlikeP a b) (k : HoldsP w B a Cont.none) : Plain a b := ⟨h, k.children.len.symm, k.code.len.symm, k.strs.len.symm, k.pages.len.symm, k.table.len.symm⟩
theorem Plain.proc (st pd al su : Int) : Plain (Ob.proc st pd al su) (Ob.proc st pd al su) := ⟨AlikeP.refl _, rfl, rfl, rfl, rfl, rfl⟩
/-- A plain process and no error. -/
def PlainOk (b : Ob) (w : World) (e : Ending) (w' : World) : Prop := ∃ a, e = .returned (.tuple #[.agg (pcell a), .int .i64 0]) ∧ Plain a b ∧ Below w.heap.size w w'
/-- A number and a plain process. -/
def NumPlain (n : Int) (b : Ob) (w : World) (e : Ending) (w' : World) : Prop := ∃ a, e = .returned (.tuple #[.int .i64 n, .agg (pcell a)]) ∧ Plain a b ∧ Below w.heap.size w w'
theorem sgRaise_plain {a : Ob} {st pd al su s : Int} {w : World} (h : Plain a (Ob.proc st pd al su)) (hs : 1 ≤ s ∧ s ≤ 31) (hst : st = 1 ∨ st = 2) :
    Calls Try.prog 16 #[.agg (pcell a), .int .i64 s] w (PlainOk (Ob.proc (stSt st s) (stPd pd s) al (stSu st su s)) w) := by
  have he : a.raiseErr s = 0 := by rw [h.like.raiseErr s]; unfold Ob.raiseErr; rw [if_pos hs, if_pos (show (Ob.proc st pd al su).state = 1 ∨ (Ob.proc st pd al su).state = 2 from hst)]
  have hc := sgRaise_any a s Cont.none w (h.held _ _) Cont.none_shortP
  rw [he] at hc
  refine hc.mono fun _ _ ⟨y, e, hp, hb⟩ => ⟨y, e, .of ?_ hp.ok.2, hb⟩
  have := hp.ok.1.trans (h.like.raise s)
  rwa [proc_raise] at this
theorem plain_same {a a' b : Ob} (h : Plain a b) (h' : Plain a' b) (w : World) : Calls Try.prog 12 #[.agg (pcell a), .agg (pcell a')] w (BoolPost true w) :=
  sameProc_p _ _ Cont.none w (h.like.trans h'.like.symm) (h.held _ _) (h'.held _ _) Cont.none_shortP
/-- The cells of a plain process's numbers. -/
theorem Plain.cells {v : World} {a : Ob} {st pd al su : Int} {m : Nat} {t : TypeId} (h : Plain a (Ob.proc st pd al su)) (O : Obl v m t (pcell a)) :
    v.cell? ⟨m, 0, none⟩ = some (.int .i64 st) ∧ v.cell? ⟨m, 17, none⟩ = some (.int .i64 pd) ∧ v.cell? ⟨m, 18, none⟩ = some (.int .i64 al) ∧ v.cell? ⟨m, 19, none⟩ = some (.int .i64 su) := by
  have e0 : a.state = st := h.like.state
  have e1 : a.pending = pd := h.like.pending
  have e2 : a.alarm = al := h.like.alarm
  have e3 : a.status = su := h.like.status
  rw [← e0, ← e1, ← e2, ← e3]
  exact ⟨O.cell 0, O.cell 17, O.cell 18, O.cell 19⟩

end Go.Proofs.Ythaolmcppfjedaa
namespace Go.Proofs.Ythaolmcppfjedaa
open Go.RowKit

def tkAl (al n : Int) : Int := if n < al then al - n else 0
def tkPd (pd al n : Int) : Int := if al = 0 ∨ n < al then pd else sgOr pd 14
theorem proc_ticked (st pd al su n : Int) (hst : st = 1 ∨ st = 2) (hn : 0 ≤ n) : (Ob.proc st pd al su).ticked n = Ob.proc st (tkPd pd al n) (tkAl al n) su := by
  unfold Ob.ticked tkAl tkPd
  rw [show (Ob.proc st pd al su).alarm = al from rfl, show (Ob.proc st pd al su).state = st from rfl]
  by_cases h0 : al = 0
  · subst h0
    rw [if_pos (.inl rfl), if_pos (.inl rfl), if_neg (by omega)]
  · rw [if_neg (by omega)]
    by_cases h1 : n < al
    · rw [if_pos h1, if_pos (.inr h1), if_pos h1]; rfl
    · rw [if_neg h1, if_neg (by omega), if_neg h1, show (Ob.proc st pd al su).armed 0 = Ob.proc st pd 0 su from rfl, proc_raise]
      unfold stSt stPd stSu
      rw [if_neg (by omega), if_neg (by omega), if_neg (by omega)]
/-- A number, a plain process and no error. -/
def NumPlainOk (n : Int) (b : Ob) (w : World) (e : Ending) (w' : World) : Prop := ∃ a, e = .returned (.tuple #[.int .i64 n, .agg (pcell a), .int .i64 0]) ∧ Plain a b ∧ Below w.heap.size w w'
theorem alSet_plain {a : Ob} {st pd al su n : Int} {w : World} (h : Plain a (Ob.proc st pd al su)) (hn : 0 ≤ n ∧ n ≤ 1073741824) :
    Calls Try.prog 8 #[.agg (pcell a), .int .i64 n] w (NumPlainOk al (Ob.proc st pd n su) w) := by
  have he : alErr n = 0 := if_neg (by omega)
  refine (alSet_any a n Cont.none w (h.held _ _) Cont.none_shortP).mono fun _ _ ⟨y, e, hp, hb⟩ => ?_
  rw [he] at hp e
  refine ⟨y, ?_, .of (hp.ok.1.trans (h.like.armed n)) hp.ok.2, hb⟩
  rw [e, show a.alLeft n = al by unfold Ob.alLeft; rw [if_pos he]; exact h.like.alarm]
theorem alTick_plain {a : Ob} {st pd al su n : Int} {w : World} (h : Plain a (Ob.proc st pd al su)) (hst : st = 1 ∨ st = 2) (hn : 0 ≤ n ∧ n ≤ 1073741824) (hal : -9223372036854775808 ≤ al ∧ al ≤ 9223372036854775807) :
    Calls Try.prog 10 #[.agg (pcell a), .int .i64 n] w (PlainOk (Ob.proc st (tkPd pd al n) (tkAl al n) su) w) := by
  have he : alErr n = 0 := if_neg (by omega)
  have ha : a.alarm = al := h.like.alarm
  refine (alTick_any a n Cont.none w (by rw [ha]; exact hal) (h.held _ _) Cont.none_shortP).mono fun _ _ ⟨y, e, hp, hb⟩ => ?_
  rw [he] at hp e
  refine ⟨y, e, .of ?_ hp.ok.2, hb⟩
  have := hp.ok.1.trans (h.like.ticked n)
  rwa [proc_ticked _ _ _ _ _ hst hn.1] at this

set_option maxRecDepth 100000 in
set_option maxHeartbeats 8000000 in
theorem alSane_any (W : World) : Calls Try.prog 6 #[] W (BoolPost true W) := by
  have HQ := hide (show tkPd 0 3 2 = 0 ∧ tkAl 3 2 = 1 ∧ tkPd 0 1 1 = 16384 ∧ tkAl 1 1 = 0 by decide +kernel)
  have HB := hide (Below.refl W.heap.size W)
  go_enter Try.func6, Try.ntmps6
  try dsimp only [List.append]
  go_wp2_with (first | (refine wpList_val (by rfl) (exec_build (t := 34) (vs := [(0, .int .i64 1)]) rfl rfl (built_proc 1)) ?_) | fail)
  refine (alSet_plain (n := 3) (Plain.proc 1 0 0 0) (by decide)).mono ?_
  rintro e va ⟨xa, rfl, LA, hva⟩
  have hLa := hide LA
  replace HB := hide (HB.out.trans (hva.mono HB.out.size))
  clear LA hva
  obtain ⟨a1, hwa0, ab, hma, a2, hwa, OZa, PA, hba2, hsa2⟩ := laid_pp xa va
  have hWa : W.heap.size ≤ ab := by have := HB.out.size; omega
  replace HB := hide (HB.out.trans (hba2.mono HB.out.size))
  clear hba2
  go_wp2_with (first | (refine store_proc rfl _ _ rfl rfl (c := xa) rfl OZa rfl ?_; rw [hwa]) | (refine load_proc0 rfl _ rfl rfl PA ?_) | fail)
  clear OZa hwa hwa0 hma hsa2
  refine (alTick_plain (n := 2) hLa.out (.inl rfl) (by decide) (by decide)).mono ?_
  rintro e vb ⟨xb, rfl, LB, hvb⟩
  have hLb := hide LB
  replace HB := hide (HB.out.trans (hvb.mono HB.out.size))
  replace PA := PA.below hvb PA.lt
  clear LB hvb
  obtain ⟨b1, hwb0, bb, hmb, b2, hwb, OZb, PB, hbb2, hsb2⟩ := laid_pp xb vb
  have hWb : W.heap.size ≤ bb := by have := HB.out.size; omega
  have nab : ab ≠ bb := by have := PA.lt; omega
  replace HB := hide (HB.out.trans (hbb2.mono HB.out.size))
  replace PA := PA.below hbb2 PA.lt
  clear hbb2
  rw [HQ.out.1, HQ.out.2.1] at hLb
  go_wp2_with (first | (refine store_proc rfl _ _ rfl rfl (c := xb) rfl OZb rfl ?_; rw [hwb]) | (refine load_proc0 rfl _ rfl rfl PB ?_) | fail)
  clear OZb hwb hwb0 hmb hsb2
  refine (alTick_plain (n := 1) hLb.out (.inl rfl) (by decide) (by decide)).mono ?_
  rintro e vc ⟨xc, rfl, LC, hvc⟩
  have hLc := hide LC
  replace HB := hide (HB.out.trans (hvc.mono HB.out.size))
  replace PA := PA.below hvc PA.lt
  replace PB := PB.below hvc PB.lt
  clear LC hvc
  obtain ⟨c1, hwc0, cb, hmc, c2, hwc, OZc, PC, hbc2, hsc2⟩ := laid_pp xc vc
  have hWc : W.heap.size ≤ cb := by have := HB.out.size; omega
  have nac : ab ≠ cb := by have := PA.lt; omega
  have nbc : bb ≠ cb := by have := PB.lt; omega
  replace HB := hide (HB.out.trans (hbc2.mono HB.out.size))
  replace PA := PA.below hbc2 PA.lt
  replace PB := PB.below hbc2 PB.lt
  clear hbc2
  rw [HQ.out.2.2.1, HQ.out.2.2.2] at hLc
  obtain ⟨_, lb, lc, _⟩ := hLb.out.cells PB
  obtain ⟨_, nb, nc, _⟩ := hLc.out.cells PC
  go_wp2_with (first | (refine store_proc rfl _ _ rfl rfl (c := xc) rfl OZc rfl ?_; rw [hwc]) | fail)
  clear OZc hwc hwc0 hmc hsc2
  go_ret
  exact ⟨rfl, HB.out⟩
end Go.Proofs.Ythaolmcppfjedaa
namespace Go.Proofs.Ythaolmcppfjedaa
open Go.RowKit

theorem fill2p (a b : Ob) : Instr.fill (fun i => some (i * 20, 20)) ((Array.range (2 * 20)).map ((pcell Ob.zero)[· % (pcell Ob.zero).size]!)) [(0, .agg (pcell a)), (1, .agg (pcell b))] = some (pcs a ++ pcs b).toArray := by kernel_rfl
theorem run_slice2p (w : World) (a b : Ob) : (Instr.buildSlice 44 2 #[(0, .agg (pcell a)), (1, .agg (pcell b))]).run Try.prog w = .ok (.slice (some ⟨w.heap.size, 0, none⟩) 2 2) (w.alloc (.cells (pcs a ++ pcs b).toArray 34)) := by
  have hz : (zeroValue 34).run Try.prog w = .ok (.agg (pcell Ob.zero)) w := by kernel_rfl
  have hs : (sizeOf 34).run Try.prog w = .ok 20 w := by kernel_rfl
  have hf := fill2p a b
  simp only [Instr.buildSlice, Sem.run_bind, run_underlying Try.underlying44, Result.andThen_ok, hs]
  rw [if_neg (by decide), if_neg (by decide)]
  simp only [Sem.run_bind, hz, Result.andThen_ok, Sem.run_pure, Value.cells, hf, newRow, run_newObj_alloc]
theorem exec_slice2p {o : Oper} {act : Act} {w : World} {x y : Operand} (ho : o.op = .buildSlice 44 2 #[(0, x), (1, y)]) {a b : Ob} (hx : act.eval x = .agg (pcell a)) (hy : act.eval y = .agg (pcell b)) :
    (execOp act.eval o).run Try.prog w = .ok (.value (.slice (some ⟨w.heap.size, 0, none⟩) 2 2)) (w.alloc (.cells (pcs a ++ pcs b).toArray 34)) := by
  have hr := run_slice2p w a b
  unfold execOp
  simp only [ho, hx, hy, List.map_toArray, List.map_cons, List.map_nil, Sem.run_bind, hr, Result.andThen_ok, Sem.run_pure]
theorem pcs_len (y : Ob) : (pcs y).length = 20 := by simp [pcs]
theorem twop_at {a b : Ob} {k : Nat} {x : Ob} (hx : [a, b][k]? = some x) (j : Nat) (v : Value) (h : (pcs x)[j]? = some v) : (pcs a ++ pcs b).toArray[k * 20 + j]? = some v := by
  have hj : j < 20 := by have := (List.getElem?_eq_some_iff.1 h).1; rw [pcs_len] at this; exact this
  rw [List.getElem?_toArray]
  rcases k with _ | _ | k
  · simp only [List.getElem?_cons_zero, Option.some.injEq] at hx
    subst hx
    rw [List.getElem?_append_left (by rw [pcs_len]; omega), show 0 * 20 + j = j by omega]
    exact h
  · simp only [List.getElem?_cons_succ, List.getElem?_cons_zero, Option.some.injEq] at hx
    subst hx
    rw [List.getElem?_append_right (by rw [pcs_len]; omega), pcs_len, show (0 + 1) * 20 + j - 20 = j by omega]
    exact h
  · simp at hx
theorem exec_load_twop {o : Oper} {act : Act} {w : World} {p : Operand} (ho : o.op = .load 34 p) {g k : Nat} (hp : act.eval p = .pointer (some ⟨g, k * 20, none⟩)) {t : TypeId} {a b x : Ob} (h : Obl w g t (pcs a ++ pcs b).toArray) (hx : [a, b][k]? = some x) :
    (execOp act.eval o).run Try.prog w = .ok (.value (.agg (pcell x))) w := exec_load_mid ho hp h (pcs x) (twop_at hx) rfl Try.underlying34 procSize
theorem start_ints2 (w : World) (a b : Int) : ∃ w1, w.alloc (.cells #[.int .i64 a, .int .i64 b] 2) = w1 ∧ ∃ g, w.heap.size = g ∧ Obl w1 g 2 #[.int .i64 a, .int .i64 b] ∧ Below w.heap.size w w1 ∧ w1.heap.size = g + 1 :=
  ⟨_, rfl, _, rfl, Obl.make w _ _, (Below.refl _ _).alloc (Nat.le_refl _) _, by simp⟩
theorem ints2_at {w : World} {g : Nat} {t : TypeId} {a b : Int} (h : Obl w g t #[.int .i64 a, .int .i64 b]) {j : Nat} (hj : j < 2) : ∃ s, [a, b][j]? = some s ∧ w.cell? ⟨g, j, none⟩ = some (.int .i64 s) := by
  rcases j with _ | _ | j
  · exact ⟨a, rfl, h.cell 0⟩
  · exact ⟨b, rfl, h.cell 1⟩
  · omega
theorem start_ints3 (w : World) (a b c : Int) : ∃ w1, w.alloc (.cells #[.int .i64 a, .int .i64 b, .int .i64 c] 2) = w1 ∧ ∃ g, w.heap.size = g ∧ Obl w1 g 2 #[.int .i64 a, .int .i64 b, .int .i64 c] ∧ Below w.heap.size w w1 ∧ w1.heap.size = g + 1 :=
  ⟨_, rfl, _, rfl, Obl.make w _ _, (Below.refl _ _).alloc (Nat.le_refl _) _, by simp⟩
theorem ints3_at {w : World} {g : Nat} {t : TypeId} {a b c : Int} (h : Obl w g t #[.int .i64 a, .int .i64 b, .int .i64 c]) {j : Nat} (hj : j < 3) : ∃ s, [a, b, c][j]? = some s ∧ w.cell? ⟨g, j, none⟩ = some (.int .i64 s) := by
  rcases j with _ | _ | _ | j
  · exact ⟨a, rfl, h.cell 0⟩
  · exact ⟨b, rfl, h.cell 1⟩
  · exact ⟨c, rfl, h.cell 2⟩
  · omega
end Go.Proofs.Ythaolmcppfjedaa
namespace Go.Proofs.Ythaolmcppfjedaa
open Go.ChangeShapes Go.WideShapes Go.ChangeAt Go.RowKit

theorem cardOwn : ownKnob Try.prog.godebug = none := by kernel_rfl
theorem cardOut : laidOutB Try.prog = true := by kernel_rfl
theorem u8Cells : Try.prog.cellsOf 5 = 1 := by kernel_rfl
/-- A slice of bytes that came in. -/
theorem bytes_came {H : Type} {enc : TypeId × Value → H} {W : World} {base : Nat} {sp : Nat → Bool} {held : Bool} {fuel : Nat} {A : Option Addr} {n c : Nat} {x : DataW H × List MemPlace}
    (h : DataW.trod enc Try.prog W base sp held fuel 38 [.slice A n c] = some x) : ∃ l, Bytes W W.heap.size A n l ∧ n ≤ c ∧ c ≤ 9223372036854775807 := by
  rcases Go.ChangeShapes.open_ints Try.underlying38 Try.underlying5 u8Cells h with ⟨hcs, _⟩ | ⟨a, len, cap, zs, hcs, _, hl, hm, hz, _, hcell, hwf⟩
  · simp only [List.cons.injEq, Value.slice.injEq, and_true] at hcs
    obtain ⟨rfl, rfl, rfl⟩ := hcs
    exact ⟨[], Bytes.nil, by omega, by omega⟩
  · simp only [List.cons.injEq, Value.slice.injEq, and_true] at hcs
    obtain ⟨rfl, rfl, rfl⟩ := hcs
    have hlz : n ≤ zs.length := by rw [hz]; split <;> omega
    unfold maxLen at hm
    have hr : IsRow .u8 W (some a) n zs.length zs := .inr ⟨a, rfl, hlz, by rw [hz]; unfold maxLen; split <;> omega, rfl, hcell, hwf⟩
    obtain ⟨l, hl'⟩ := hr.bytes
    exact ⟨l, hl', by omega, by omega⟩
/-- A slice of numbers that came in. -/
theorem slice_came {H : Type} {enc : TypeId × Value → H} {W : World} {base : Nat} {sp : Nat → Bool} {held : Bool} {fuel : Nat} {k : IntKind} {t e : TypeId} (ht : Try.prog.underlying t = some (.slice e)) (he : Try.prog.underlying e = some (.int k)) (hc : Try.prog.cellsOf e = 1) {A : Option Addr} {n c : Nat} {x : DataW H × List MemPlace}
    (h : DataW.trod enc Try.prog W base sp held fuel t [.slice A n c] = some x) : ∃ l, Nums k W W.heap.size A n l ∧ (∀ v ∈ l, (Lit.int k v).wf = true) ∧ n ≤ c ∧ c ≤ 9223372036854775807 := by
  rcases Go.ChangeShapes.open_ints ht he hc h with ⟨hcs, _⟩ | ⟨a, len, cap, zs, hcs, _, hl, hm, hz, _, hcell, hwf⟩
  · simp only [List.cons.injEq, Value.slice.injEq, and_true] at hcs
    obtain ⟨rfl, rfl, rfl⟩ := hcs
    exact ⟨[], Nums.nil, by simp, by omega, by omega⟩
  · simp only [List.cons.injEq, Value.slice.injEq, and_true] at hcs
    obtain ⟨rfl, rfl, rfl⟩ := hcs
    have hlz : n ≤ zs.length := by rw [hz]; split <;> omega
    unfold maxLen at hm
    have hr : IsRow k W (some a) n zs.length zs := .inr ⟨a, rfl, hlz, by rw [hz]; unfold maxLen; split <;> omega, rfl, hcell, hwf⟩
    obtain ⟨l, h1, h2, h3⟩ := hr.ints
    exact ⟨l, ⟨h1, h3⟩, h2, by omega, by omega⟩
end Go.Proofs.Ythaolmcppfjedaa
namespace Go.Proofs.Ythaolmcppfjedaa
open Go.ChangeShapes Go.WideShapes Go.ChangeAt Go.RowKit

theorem intCells : Try.prog.cellsOf 3 = 1 := by kernel_rfl
theorem i64Cells : Try.prog.cellsOf 2 = 1 := by kernel_rfl
theorem strCells1 : Try.prog.cellsOf 9 = 1 := by kernel_rfl
theorem regsCells : Try.prog.cellsOf 28 = 8 := by kernel_rfl
theorem cpuCells : Try.prog.cellsOf 30 = 9 := by kernel_rfl

/-- A slice of strings that came in. -/
theorem strs_came {H : Type} {enc : TypeId × Value → H} {W : World} {base : Nat} {sp : Nat → Bool} {held : Bool} {fuel : Nat} {v : Value} {x : DataW H × List MemPlace}
    (h : DataW.trod enc Try.prog W base sp held fuel 25 [v] = some x) : ∃ A n c l, v = .slice A n c ∧ Strs W W.heap.size A n l ∧ n ≤ 9223372036854775807 ∧ ∀ y ∈ l, y.length ≤ 9223372036854775807 := by
  rcases Go.Deep.open_strs Try.underlying25 Try.underlying9 strCells1 h with ⟨hcs, _⟩ | ⟨a, len, cap, m, Sx, hcs, _, hl, hm, hmm, _, hx⟩
  · simp only [List.cons.injEq, and_true] at hcs
    exact ⟨none, 0, 0, [], hcs, Strs.nil, by omega, by simp⟩
  · simp only [List.cons.injEq, and_true] at hcs
    have hlm : len ≤ m := by rw [hmm]; split <;> omega
    unfold maxLen at hm
    refine ⟨some a, len, cap, (List.range len).map fun i => (Sx i).data.toList, hcs, ⟨by simp, by simp [sv], by simp, fun hne => ?_⟩, by omega, ?_⟩
    · have h0 : 0 < len := by
        rcases Nat.eq_zero_or_pos len with h0 | h0
        · subst h0; simp [sv] at hne
        · exact h0
      have hc0 := (hx 0 (by omega)).1
      obtain ⟨b, o, spot⟩ := a
      have hspot : spot = none := by simpa [Addr.add] using World.cell?_spot hc0
      subst hspot
      have hlt := World.block_lt_of_cell? W _ hc0
      rw [add_spot] at hlt
      refine ⟨b, o, rfl, hlt, fun j u hu => ?_⟩
      have hj : j < len := by
        have := (List.getElem?_eq_some_iff.1 hu).1
        simpa [sv] using this
      have := (hx j (by omega)).1
      rw [add_spot] at this
      rw [this]
      rw [sv, List.map_map, List.getElem?_map, List.getElem?_range hj] at hu
      simp only [Option.map_some, Function.comp, Option.some.injEq] at hu
      rw [← hu, Lib.mk_data]
    · intro y hy
      simp only [List.mem_map, List.mem_range] at hy
      obtain ⟨i, hi, rfl⟩ := hy
      have := (hx i (by omega)).2
      unfold maxLen at this
      rw [← Lib.size_eq]
      omega
theorem insCells : Try.prog.cellsOf 59 = 4 := by kernel_rfl
/-- An instruction that came in. -/
theorem ins_came {H : Type} {enc : TypeId × Value → H} {W : World} {base : Nat} {sp : Nat → Bool} {held : Bool} {fuel : Nat} {cs : List Value} {x : DataW H × List MemPlace}
    (h : DataW.trod enc Try.prog W base sp held fuel 59 cs = some x) : ∃ y : Cd.Ins, (cs[0]? = some (.int .i64 y.op) ∧ cs[1]? = some (.int .i64 y.a) ∧ cs[2]? = some (.int .i64 y.b) ∧ cs[3]? = some (.int .i64 y.c)) ∧ Cd.in64 y := by
  obtain ⟨y0, y1, y2, y3, n, rfl, _, g0, g1, g2, g3⟩ := Joins.trod_struct4 Try.underlying59 h
  obtain ⟨n0, e0, rfl, b0⟩ := DataW.trod_int Try.underlying3 g0
  obtain ⟨n1, e1, rfl, b1⟩ := DataW.trod_int Try.underlying3 g1
  obtain ⟨n2, e2, rfl, b2⟩ := DataW.trod_int Try.underlying3 g2
  obtain ⟨n3, e3, rfl, b3⟩ := DataW.trod_int Try.underlying3 g3
  have c0 := congrArg (·[0]?) e0
  have c1 := congrArg (·[0]?) e1
  have c2 := congrArg (·[0]?) e2
  have c3 := congrArg (·[0]?) e3
  simp only [intCells, List.getElem?_take, List.getElem?_drop, List.getElem?_cons_zero, Nat.zero_lt_one, if_true] at c0 c1 c2 c3
  exact ⟨⟨n0, n1, n2, n3⟩, ⟨by simpa using c0, by simpa using c1, by simpa using c2, by simpa using c3⟩, ⟨wf_i64 b0, wf_i64 b1, wf_i64 b2, wf_i64 b3⟩⟩
/-- A slice of instructions that came in. -/
theorem inss_came {H : Type} {enc : TypeId × Value → H} {W : World} {base : Nat} {sp : Nat → Bool} {held : Bool} {fuel : Nat} {v : Value} {x : DataW H × List MemPlace}
    (h : DataW.trod enc Try.prog W base sp held fuel 24 [v] = some x) : ∃ A n c l, v = .slice A n c ∧ Inss W W.heap.size A n l ∧ n ≤ 9223372036854775807 ∧ ∀ y ∈ l, Cd.in64 y := by
  rcases DataW.trod_slice Try.underlying24 h with ⟨hcs, _⟩ | ⟨a, len, cap, elems, rest, m, _, hcs, _, _, hl, hm, hlen, hel, _⟩
  · simp only [List.cons.injEq, and_true] at hcs
    exact ⟨none, 0, 0, [], hcs, Inss.nil, by omega, by simp⟩
  · simp only [List.cons.injEq, and_true] at hcs
    unfold maxLen at hm
    have each : ∀ i, i < len → ∃ y : Cd.Ins, (W.cell? ((a.add (i * 4)).add 0) = some (.int .i64 y.op) ∧ W.cell? ((a.add (i * 4)).add 1) = some (.int .i64 y.a) ∧ W.cell? ((a.add (i * 4)).add 2) = some (.int .i64 y.b) ∧ W.cell? ((a.add (i * 4)).add 3) = some (.int .i64 y.c)) ∧ Cd.in64 y := by
      intro i hi
      have he := hel i hi
      rw [insCells, List.getElem?_eq_getElem (by omega)] at he
      obtain ⟨cs, h1, h2⟩ := Option.bind_eq_some_iff.1 he
      obtain ⟨_, hl4, hcell⟩ := World.cells?_some h1
      obtain ⟨y, ⟨c0, c1, c2, c3⟩, hy⟩ := ins_came h2
      exact ⟨y, ⟨(hcell 0 (by omega)).trans c0, (hcell 1 (by omega)).trans c1, (hcell 2 (by omega)).trans c2, (hcell 3 (by omega)).trans c3⟩, hy⟩
    haveI : Inhabited Cd.Ins := ⟨⟨0, 0, 0, 0⟩⟩
    obtain ⟨Y, hY⟩ := Go.Deep.choose_lt each
    refine ⟨some a, len, cap, (List.range len).map Y, hcs, ⟨by simp, by rw [iv_length]; simp, by simp, fun hne => ?_⟩, by omega, ?_⟩
    · have h0 : 0 < len := by
        rcases Nat.eq_zero_or_pos len with h0 | h0
        · subst h0; simp [iv] at hne
        · exact h0
      have hc0 := (hY 0 h0).1.1
      obtain ⟨b, o, spot⟩ := a
      have hspot : spot = none := by simpa [Addr.add] using World.cell?_spot hc0
      subst hspot
      have hlt := World.block_lt_of_cell? W _ hc0
      rw [add_spot, add_spot] at hlt
      refine ⟨b, o, rfl, hlt, fun j u hu => ?_⟩
      have hj : j < len * 4 := by
        have := (List.getElem?_eq_some_iff.1 hu).1
        rw [iv_length] at this
        simpa using this
      have hi : j / 4 < len := by omega
      have hil : j / 4 < ((List.range len).map Y).length := by simpa using hi
      obtain ⟨i0, i1, i2, i3⟩ := iv_at hil
      obtain ⟨⟨c0, c1, c2, c3⟩, _⟩ := hY (j / 4) hi
      rw [add_spot, add_spot] at c0 c1 c2 c3
      have hg : ((List.range len).map Y)[j / 4] = Y (j / 4) := by simp
      rw [hg] at i0 i1 i2 i3
      rcases (show j = j / 4 * 4 ∨ j = j / 4 * 4 + 1 ∨ j = j / 4 * 4 + 2 ∨ j = j / 4 * 4 + 3 by omega) with e | e | e | e
      · rw [e, i0] at hu
        rw [e, show o + j / 4 * 4 = o + j / 4 * 4 + 0 by omega]
        exact c0.trans hu
      · rw [e, i1] at hu
        rw [e, ← Nat.add_assoc]
        exact c1.trans hu
      · rw [e, i2] at hu
        rw [e, ← Nat.add_assoc]
        exact c2.trans hu
      · rw [e, i3] at hu
        rw [e, ← Nat.add_assoc]
        exact c3.trans hu
    · intro y hy
      simp only [List.mem_map, List.mem_range] at hy
      obtain ⟨i, hi, rfl⟩ := hy
      exact (hY i hi).2
/-- Numbers that came in by value. -/
theorem nums_came {H : Type} {enc : TypeId × Value → H} {W : World} {base : Nat} {sp : Nat → Bool} {held : Bool} {fuel : Nat} {cs : List Value} {x : DataW H × List MemPlace}
    (h : DataW.trod enc Try.prog W base sp held fuel 28 cs = some x) : ∃ L : List Int, cs = nv .i64 L ∧ L.length = 8 ∧ ∀ v ∈ L, Cp.i64 v := by
  obtain ⟨xs, m, _, _, hl, hx, hel⟩ := DataW.trod_array Try.underlying28 h
  rw [regsCells] at hl
  have each : ∀ i, i < 8 → ∃ v : Int, cs[i]? = some (.int .i64 v) ∧ Cp.i64 v := by
    intro i hi
    have he := hel i hi
    rw [i64Cells, List.getElem?_eq_getElem (by omega)] at he
    obtain ⟨n0, e0, _, b0⟩ := DataW.trod_int Try.underlying2 he
    have c0 := congrArg (·[0]?) e0
    simp only [List.getElem?_take, List.getElem?_drop, List.getElem?_cons_zero, Nat.zero_lt_one, if_true] at c0
    exact ⟨n0, by simpa using c0, wf_i64 b0⟩
  obtain ⟨Y, hY⟩ := Go.Deep.choose_lt each
  refine ⟨(List.range 8).map Y, ?_, by simp, fun v hv => ?_⟩
  · apply List.ext_getElem?
    intro i
    by_cases hi : i < 8
    · rw [(hY i hi).1, nv, List.map_map, List.getElem?_map, List.getElem?_range hi]
      rfl
    · rw [List.getElem?_eq_none (by omega), List.getElem?_eq_none (by simp [nv]; omega)]
  · simp only [List.mem_map, List.mem_range] at hv
    obtain ⟨i, hi, rfl⟩ := hv
    exact (hY i hi).2
set_option maxRecDepth 100000 in
/-- A processor that came in. -/
theorem cpu_came {H : Type} {enc : TypeId × Value → H} {W : World} {base b0 : Nat} {r : Reach} {sp : Nat → Bool} {held : Bool} {v : Value} {d : DataW H} {p : List MemPlace}
    (hv : Value.okWide Try.prog W r b0 30 v) (h : DataW.Trod enc Try.prog W base sp held 30 v d p) : ∃ c : Cp.Cpu, v = .agg (cc c) ∧ Cp.Ok c := by
  obtain ⟨cs, rfl, hsz⟩ := okWide_struct Try.underlying30 hv
  rw [cpuCells] at hsz
  obtain ⟨fuel, hf⟩ := h
  obtain ⟨y0, y1, n, _, _, h0, h1⟩ := Go.ChangeShapes.trod_struct2 Try.underlying30 hf
  obtain ⟨n0, e0, _, b0⟩ := DataW.trod_int Try.underlying3 h0
  obtain ⟨L, e1, hl, hL⟩ := nums_came h1
  simp only [intCells, regsCells, Value.cells, List.drop_zero] at e0 e1
  have e2 : cs.toList = .int .i64 n0 :: nv .i64 L := by
    rw [← e1, ← List.singleton_append, ← e0, List.take_of_length_le (l := cs.toList.drop 1) (by simp; omega), List.take_append_drop]
  exact ⟨⟨n0, L⟩, by rw [cc, ← e2], hl, hL, wf_i64 b0⟩
set_option maxRecDepth 100000 in
/-- An instruction that came in by value. -/
theorem instr_came {H : Type} {enc : TypeId × Value → H} {W : World} {base b0 : Nat} {r : Reach} {sp : Nat → Bool} {held : Bool} {v : Value} {d : DataW H} {p : List MemPlace}
    (hv : Value.okWide Try.prog W r b0 59 v) (h : DataW.Trod enc Try.prog W base sp held 59 v d p) : ∃ x : Cd.Ins, v = .agg #[.int .i64 x.op, .int .i64 x.a, .int .i64 x.b, .int .i64 x.c] ∧ Cd.in64 x := by
  obtain ⟨cs, rfl, hsz⟩ := okWide_struct Try.underlying59 hv
  rw [insCells] at hsz
  obtain ⟨fuel, hf⟩ := h
  obtain ⟨x, ⟨c0, c1, c2, c3⟩, h64⟩ := ins_came hf
  simp only [Value.cells, Array.getElem?_toList] at c0 c1 c2 c3
  refine ⟨x, ?_, h64⟩
  congr 1
  apply Array.ext_getElem?
  intro i
  rcases i with _ | _ | _ | _ | i
  · simpa using c0
  · simpa using c1
  · simpa using c2
  · simpa using c3
  · rw [Array.getElem?_eq_none (by omega), Array.getElem?_eq_none (by simp)]
end Go.Proofs.Ythaolmcppfjedaa
namespace Go.Proofs.Ythaolmcppfjedaa
open Go.RowKit

theorem fill3 (a b c : Ob) : Instr.fill (fun i => some (i * 36, 36)) ((Array.range (3 * 36)).map ((oc Ob.zero)[· % (oc Ob.zero).size]!)) [(0, .agg (oc a)), (1, .agg (oc b)), (2, .agg (oc c))] = some (ocl a ++ (ocl b ++ ocl c)).toArray := by kernel_rfl
theorem ocl_len (y : Ob) : (ocl y).length = 36 := by simp [ocl, pcs]
/-- The k-th of three. -/
theorem three_at {a b c : Ob} {k : Nat} {x : Ob} (hx : [a, b, c][k]? = some x) (j : Nat) (v : Value) (h : (ocl x)[j]? = some v) : (ocl a ++ (ocl b ++ ocl c)).toArray[k * 36 + j]? = some v := by
  have hj : j < 36 := by have := (List.getElem?_eq_some_iff.1 h).1; rw [ocl_len] at this; exact this
  rw [List.getElem?_toArray]
  rcases k with _ | _ | _ | k
  · simp only [List.getElem?_cons_zero, Option.some.injEq] at hx
    subst hx
    rw [List.getElem?_append_left (by rw [ocl_len]; omega), show 0 * 36 + j = j by omega]
    exact h
  · simp only [List.getElem?_cons_succ, List.getElem?_cons_zero, Option.some.injEq] at hx
    subst hx
    rw [List.getElem?_append_right (by rw [ocl_len]; omega), List.getElem?_append_left (by rw [ocl_len, ocl_len]; omega), ocl_len, show (0 + 1) * 36 + j - 36 = j by omega]
    exact h
  · simp only [List.getElem?_cons_succ, List.getElem?_cons_zero, Option.some.injEq] at hx
    subst hx
    rw [List.getElem?_append_right (by rw [ocl_len]; omega), List.getElem?_append_right (by rw [ocl_len, ocl_len]; omega), ocl_len, ocl_len, show (0 + 1 + 1) * 36 + j - 36 - 36 = j by omega]
    exact h
  · simp at hx
theorem exec_load_three {o : Oper} {act : Act} {w : World} {p : Operand} (ho : o.op = .load 43 p) {g k : Nat} (hp : act.eval p = .pointer (some ⟨g, k * 36, none⟩)) {t : TypeId} {a b c x : Ob} (h : Obl w g t (ocl a ++ (ocl b ++ ocl c)).toArray) (hx : [a, b, c][k]? = some x) :
    (execOp act.eval o).run Try.prog w = .ok (.value (.agg (oc x))) w := exec_load_mid ho hp h (ocl x) (three_at hx) rfl Try.underlying43 obSize
end Go.Proofs.Ythaolmcppfjedaa
namespace Go.Proofs.Ythaolmcppfjedaa
open Go.ChangeShapes Go.WideShapes Go.ChangeAt Go.RowKit

theorem at_one {cs : List Value} {o : Nat} {v : Value} (h : (cs.drop o).take 1 = [v]) : cs[o]? = some v := by
  have := congrArg (·[0]?) h
  simpa [List.getElem?_take, List.getElem?_drop] using this
theorem sub_at {cs : List Value} {o m i : Nat} {v : Value} (h : ((cs.drop o).take m)[i]? = some v) : cs[o + i]? = some v := by
  rw [List.getElem?_take] at h
  split at h
  · rwa [List.getElem?_drop] at h
  · cases h
section
variable {H : Type} {enc : TypeId × Value → H} {W : World} {base : Nat} {sp : Nat → Bool} {held : Bool} {fuel : Nat} {cs : List Value} {x : DataW H × List MemPlace} {t e : TypeId} {o : Nat}
theorem trod_field {fs : Array Field} (ht : Try.prog.underlying t = some (.struct fs)) (h : DataW.trod enc Try.prog W base sp held fuel t cs = some x) :
    ∃ n, cs.length = Try.prog.cellsOf t ∧ ∀ (i : Nat) (f : Field), fs[i]? = some f → ∃ y, DataW.trod enc Try.prog W base sp held n f.type ((cs.drop f.offset).take (Try.prog.cellsOf f.type)) = some y := by
  obtain ⟨xs, n, _, _, hl, hlen, hf⟩ := DataW.trod_struct ht h
  refine ⟨n, hl, fun i f hi => ?_⟩
  have hx : i < xs.length := by rw [hlen]; exact (Array.getElem?_eq_some_iff.1 hi).1
  exact ⟨xs[i], by rw [hf i f hi, List.getElem?_eq_getElem hx]⟩
theorem int_at {k : IntKind} (ht : Try.prog.underlying t = some (.int k)) (hc : Try.prog.cellsOf t = 1) (h : DataW.trod enc Try.prog W base sp held fuel t ((cs.drop o).take (Try.prog.cellsOf t)) = some x) : ∃ v, cs[o]? = some (.int k v) := by
  rw [hc] at h
  obtain ⟨n, e, _, _⟩ := DataW.trod_int ht h
  exact ⟨n, at_one e⟩
theorem slice_one (ht : Try.prog.underlying t = some (.slice e)) (hc : Try.prog.cellsOf t = 1) (h : DataW.trod enc Try.prog W base sp held fuel t ((cs.drop o).take (Try.prog.cellsOf t)) = some x) :
    ∃ A n c, (cs.drop o).take 1 = [.slice A n c] ∧ n ≤ 9223372036854775807 := by
  rw [hc] at h
  rcases DataW.trod_slice ht h with ⟨e, _⟩ | ⟨a, len, cap, _, _, _, _, e, _, _, hl, hm, _⟩
  · exact ⟨none, 0, 0, e, by omega⟩
  · exact ⟨some a, len, cap, e, by unfold maxLen at hm; omega⟩
theorem slice_at (ht : Try.prog.underlying t = some (.slice e)) (hc : Try.prog.cellsOf t = 1) (h : DataW.trod enc Try.prog W base sp held fuel t ((cs.drop o).take (Try.prog.cellsOf t)) = some x) :
    ∃ s : Sl, cs[o]? = some (.slice s.A s.n s.c) ∧ s.n ≤ 9223372036854775807 := by
  obtain ⟨A, n, c, e, hn⟩ := slice_one ht hc h
  exact ⟨⟨A, n, c⟩, at_one e, hn⟩
theorem numsl_at {k : IntKind} (ht : Try.prog.underlying t = some (.slice e)) (he : Try.prog.underlying e = some (.int k)) (hce : Try.prog.cellsOf e = 1) (hc : Try.prog.cellsOf t = 1)
    (h : DataW.trod enc Try.prog W base sp held fuel t ((cs.drop o).take (Try.prog.cellsOf t)) = some x) : ∃ s : Sl, cs[o]? = some (.slice s.A s.n s.c) ∧ s.n ≤ 9223372036854775807 ∧ ∃ l, Nums k W W.heap.size s.A s.n l := by
  rw [hc] at h
  rcases Go.ChangeShapes.open_ints ht he hce h with ⟨hcs, _⟩ | ⟨a, len, cap, zs, hcs, _, hl, hm, hz, _, hcell, hwf⟩
  · exact ⟨⟨none, 0, 0⟩, at_one hcs, by simp, [], Nums.nil⟩
  · have hlz : len ≤ zs.length := by rw [hz]; split <;> omega
    unfold maxLen at hm
    have hr : IsRow k W (some a) len zs.length zs := .inr ⟨a, rfl, hlz, by rw [hz]; unfold maxLen; split <;> omega, rfl, hcell, hwf⟩
    obtain ⟨l, h1, _, h3⟩ := hr.ints
    exact ⟨⟨some a, len, cap⟩, at_one hcs, by show len ≤ _; omega, l, h1, h3⟩
theorem bytesl_at (ht : Try.prog.underlying t = some (.slice e)) (he : Try.prog.underlying e = some (.int .u8)) (hce : Try.prog.cellsOf e = 1) (hc : Try.prog.cellsOf t = 1)
    (h : DataW.trod enc Try.prog W base sp held fuel t ((cs.drop o).take (Try.prog.cellsOf t)) = some x) : ∃ s : Sl, cs[o]? = some (.slice s.A s.n s.c) ∧ s.n ≤ 9223372036854775807 ∧ s.n ≤ s.c ∧ ∃ l, Bytes W W.heap.size s.A s.n l := by
  rw [hc] at h
  rcases Go.ChangeShapes.open_ints ht he hce h with ⟨hcs, _⟩ | ⟨a, len, cap, zs, hcs, _, hl, hm, hz, _, hcell, hwf⟩
  · exact ⟨⟨none, 0, 0⟩, at_one hcs, by simp, by simp, [], Bytes.nil⟩
  · have hlz : len ≤ zs.length := by rw [hz]; split <;> omega
    unfold maxLen at hm
    have hr : IsRow .u8 W (some a) len zs.length zs := .inr ⟨a, rfl, hlz, by rw [hz]; unfold maxLen; split <;> omega, rfl, hcell, hwf⟩
    obtain ⟨l, h1⟩ := hr.bytes
    exact ⟨⟨some a, len, cap⟩, at_one hcs, by show len ≤ _; omega, hl, l, h1⟩
theorem numslc_at {k : IntKind} (ht : Try.prog.underlying t = some (.slice e)) (he : Try.prog.underlying e = some (.int k)) (hce : Try.prog.cellsOf e = 1) (hc : Try.prog.cellsOf t = 1)
    (h : DataW.trod enc Try.prog W base sp held fuel t ((cs.drop o).take (Try.prog.cellsOf t)) = some x) : ∃ s : Sl, cs[o]? = some (.slice s.A s.n s.c) ∧ s.n ≤ 9223372036854775807 ∧ s.n ≤ s.c ∧ ∃ l, Nums k W W.heap.size s.A s.n l := by
  rw [hc] at h
  rcases Go.ChangeShapes.open_ints ht he hce h with ⟨hcs, _⟩ | ⟨a, len, cap, zs, hcs, _, hl, hm, hz, _, hcell, hwf⟩
  · exact ⟨⟨none, 0, 0⟩, at_one hcs, by simp, by simp, [], Nums.nil⟩
  · have hlz : len ≤ zs.length := by rw [hz]; split <;> omega
    unfold maxLen at hm
    have hr : IsRow k W (some a) len zs.length zs := .inr ⟨a, rfl, hlz, by rw [hz]; unfold maxLen; split <;> omega, rfl, hcell, hwf⟩
    obtain ⟨l, h1, _, h3⟩ := hr.ints
    exact ⟨⟨some a, len, cap⟩, at_one hcs, by show len ≤ _; omega, hl, l, h1, h3⟩
/-- The lists of an object that came in, but for words, names and strings. -/
structure Lists (w : World) (o : Ob) : Prop where
  data : ∃ D, Bytes w w.heap.size o.data.A o.data.n D
  backlog : ∃ I, Nums .u64 w w.heap.size o.backlog.A o.backlog.n I
  q0 : ∃ D, Bytes w w.heap.size o.q0.A o.q0.n D
  q1 : ∃ D, Bytes w w.heap.size o.q1.A o.q1.n D
  caps : o.data.n ≤ o.data.c ∧ o.q0.n ≤ o.q0.c ∧ o.q1.n ≤ o.q1.c
  back : o.backlog.n ≤ o.backlog.c ∧ o.backlog.n ≤ 9223372036854775807
theorem u64Cells : Try.prog.cellsOf 22 = 1 := by kernel_rfl
theorem nmCells : Try.prog.cellsOf 54 = 3 := by kernel_rfl
theorem sl64 : Try.prog.cellsOf 23 = 1 := by kernel_rfl
/-- An entry that came in. -/
theorem name_came (h : DataW.trod enc Try.prog W base sp held fuel 54 cs = some x) : ∃ y : Nm, (cs[0]? = some (.string ⟨y.path.toArray⟩) ∧ cs[1]? = some (.int .i64 y.kind) ∧ cs[2]? = some (.slice y.ids.A y.ids.n y.ids.c)) ∧
    (y.path.length ≤ 9223372036854775807 ∧ y.ids.n ≤ 9223372036854775807) ∧ ∃ I, Nums .u64 W W.heap.size y.ids.A y.ids.n I := by
  obtain ⟨n, _, F⟩ := trod_field Try.underlying54 h
  obtain ⟨y0, g0⟩ := F 0 _ rfl
  obtain ⟨y1, g1⟩ := F 1 _ rfl
  obtain ⟨y2, g2⟩ := F 2 _ rfl
  have g0' : DataW.trod enc Try.prog W base sp held n 9 ((cs.drop 0).take 1) = some y0 := by rw [← strCells1]; exact g0
  obtain ⟨s, e0, _, hs⟩ := DataW.trod_string Try.underlying9 g0'
  obtain ⟨kd, c1⟩ := int_at (o := 1) Try.underlying3 intCells g1
  obtain ⟨S, c2, hn, I, hI⟩ := numsl_at (o := 2) Try.underlying23 Try.underlying22 u64Cells sl64 g2
  unfold maxLen at hs
  refine ⟨⟨s.data.toList, kd, S⟩, ⟨?_, c1, c2⟩, ⟨?_, hn⟩, I, hI⟩
  · rw [Lib.mk_data]; exact at_one e0
  · show s.data.toList.length ≤ _; rw [← Lib.size_eq]; omega
/-- A slice of entries that came in. -/
theorem names_came {v : Value} (h : DataW.trod enc Try.prog W base sp held fuel 41 [v] = some x) : ∃ (s : Sl) (l : List Nm), v = .slice s.A s.n s.c ∧ Nms W W.heap.size s.A s.n l ∧ s.n ≤ 9223372036854775807 ∧
    ∀ y ∈ l, y.path.length ≤ 9223372036854775807 ∧ y.ids.n ≤ 9223372036854775807 := by
  rcases DataW.trod_slice Try.underlying41 h with ⟨hcs, _⟩ | ⟨a, len, cap, elems, rest, m, _, hcs, _, _, hl, hm, hlen, hel, _⟩
  · simp only [List.cons.injEq, and_true] at hcs
    exact ⟨⟨none, 0, 0⟩, [], hcs, Nms.nil, by simp, by simp⟩
  · simp only [List.cons.injEq, and_true] at hcs
    unfold maxLen at hm
    have each : ∀ i, i < len → ∃ y : Nm, (W.cell? ((a.add (i * 3)).add 0) = some (.string ⟨y.path.toArray⟩) ∧ W.cell? ((a.add (i * 3)).add 1) = some (.int .i64 y.kind) ∧ W.cell? ((a.add (i * 3)).add 2) = some (.slice y.ids.A y.ids.n y.ids.c)) ∧
        (y.path.length ≤ 9223372036854775807 ∧ y.ids.n ≤ 9223372036854775807) ∧ ∃ I, Nums .u64 W W.heap.size y.ids.A y.ids.n I := by
      intro i hi
      have he := hel i hi
      rw [nmCells, List.getElem?_eq_getElem (by omega)] at he
      obtain ⟨cs, h1, h2⟩ := Option.bind_eq_some_iff.1 he
      obtain ⟨_, hl3, hcell⟩ := World.cells?_some h1
      obtain ⟨y, ⟨c0, c1, c2⟩, hy⟩ := name_came h2
      exact ⟨y, ⟨(hcell 0 (by omega)).trans c0, (hcell 1 (by omega)).trans c1, (hcell 2 (by omega)).trans c2⟩, hy⟩
    haveI : Inhabited Nm := ⟨⟨[], 0, ⟨none, 0, 0⟩⟩⟩
    obtain ⟨Y, hY⟩ := Go.Deep.choose_lt each
    refine ⟨⟨some a, len, cap⟩, (List.range len).map Y, hcs, ⟨by simp, ⟨by rw [nmv_length]; simp, by simp, fun hne => ?_⟩, ?_⟩, by show len ≤ _; omega, ?_⟩
    · have h0 : 0 < len := by
        rcases Nat.eq_zero_or_pos len with h0 | h0
        · subst h0; simp [nmv] at hne
        · exact h0
      have hc0 := (hY 0 h0).1.1
      obtain ⟨b, o, spot⟩ := a
      have hspot : spot = none := by simpa [Addr.add] using World.cell?_spot hc0
      subst hspot
      have hlt := World.block_lt_of_cell? W _ hc0
      rw [add_spot, add_spot] at hlt
      refine ⟨b, o, rfl, hlt, fun j u hu => ?_⟩
      have hj : j < len * 3 := by
        have := (List.getElem?_eq_some_iff.1 hu).1
        rw [nmv_length] at this
        simpa using this
      have hi : j / 3 < len := by omega
      have hil : j / 3 < ((List.range len).map Y).length := by simpa using hi
      obtain ⟨i0, i1, i2⟩ := nmv_at hil
      obtain ⟨⟨c0, c1, c2⟩, _⟩ := hY (j / 3) hi
      rw [add_spot, add_spot] at c0 c1 c2
      have hg : ((List.range len).map Y)[j / 3] = Y (j / 3) := by simp
      rw [hg] at i0 i1 i2
      rcases (show j = j / 3 * 3 ∨ j = j / 3 * 3 + 1 ∨ j = j / 3 * 3 + 2 by omega) with e | e | e
      · rw [e, i0] at hu
        rw [e, show o + j / 3 * 3 = o + j / 3 * 3 + 0 by omega]
        exact c0.trans hu
      · rw [e, i1] at hu
        rw [e, ← Nat.add_assoc]
        exact c1.trans hu
      · rw [e, i2] at hu
        rw [e, ← Nat.add_assoc]
        exact c2.trans hu
    · intro y hy
      simp only [List.mem_map, List.mem_range] at hy
      obtain ⟨i, hi, rfl⟩ := hy
      exact (hY i hi).2.2
    · intro y hy
      simp only [List.mem_map, List.mem_range] at hy
      obtain ⟨i, hi, rfl⟩ := hy
      exact (hY i hi).2.1
theorem procCells : Try.prog.cellsOf 34 = 20 := by kernel_rfl
theorem objCells : Try.prog.cellsOf 43 = 36 := by kernel_rfl
theorem progCells : Try.prog.cellsOf 27 = 3 := by kernel_rfl
theorem qCells : Try.prog.cellsOf 39 = 2 := by kernel_rfl
theorem endsCells : Try.prog.cellsOf 40 = 2 := by kernel_rfl
theorem sl8 : Try.prog.cellsOf 38 = 1 := by kernel_rfl
theorem slI64 : Try.prog.cellsOf 37 = 1 := by kernel_rfl
theorem slStr : Try.prog.cellsOf 25 = 1 := by kernel_rfl
theorem slIns : Try.prog.cellsOf 24 = 1 := by kernel_rfl
theorem slRef : Try.prog.cellsOf 31 = 1 := by kernel_rfl
theorem slSlot : Try.prog.cellsOf 32 = 1 := by kernel_rfl
theorem slNm : Try.prog.cellsOf 41 = 1 := by kernel_rfl
set_option maxRecDepth 100000 in
/-- A process that came in: its cells. -/
theorem proc_came (h : DataW.trod enc Try.prog W base sp held fuel 34 cs = some x) : ∃ o : Ob, cs = pcs o ∧ (o.children.n ≤ 9223372036854775807 ∧ o.code.n ≤ 9223372036854775807 ∧ o.strs.n ≤ 9223372036854775807 ∧ o.pages.n ≤ 9223372036854775807 ∧ o.table.n ≤ 9223372036854775807) ∧
    ∃ l, Strs W W.heap.size o.strs.A o.strs.n l ∧ ∀ y ∈ l, y.length ≤ 9223372036854775807 := by
  obtain ⟨n, hl, F⟩ := trod_field Try.underlying34 h
  rw [procCells] at hl
  obtain ⟨y0, g0⟩ := F 0 _ rfl
  obtain ⟨y1, g1⟩ := F 1 _ rfl
  obtain ⟨y2, g2⟩ := F 2 _ rfl
  obtain ⟨y3, g3⟩ := F 3 _ rfl
  obtain ⟨y4, g4⟩ := F 4 _ rfl
  obtain ⟨y5, g5⟩ := F 5 _ rfl
  obtain ⟨y6, g6⟩ := F 6 _ rfl
  obtain ⟨y7, g7⟩ := F 7 _ rfl
  obtain ⟨y8, g8⟩ := F 8 _ rfl
  obtain ⟨y9, g9⟩ := F 9 _ rfl
  obtain ⟨st, c0⟩ := int_at (o := 0) Try.underlying3 intCells g0
  obtain ⟨pa, c1⟩ := int_at (o := 1) Try.underlying22 u64Cells g1
  obtain ⟨ch, c2, n2⟩ := slice_at (o := 2) Try.underlying23 sl64 g2
  obtain ⟨n3, _, P⟩ := trod_field Try.underlying27 g3
  obtain ⟨z0, p0⟩ := P 0 _ rfl
  obtain ⟨z1, p1⟩ := P 1 _ rfl
  obtain ⟨z2, p2⟩ := P 2 _ rfl
  obtain ⟨co, d0, m0⟩ := slice_at (o := 0) Try.underlying24 slIns p0
  obtain ⟨A1, k1, b1, d1, m1⟩ := slice_one (o := 1) Try.underlying25 slStr p1
  obtain ⟨pg, d2⟩ := int_at (o := 2) Try.underlying3 intCells p2
  have p1' : DataW.trod enc Try.prog W base sp held n3 25 [.slice A1 k1 b1] = some z1 := by rw [← d1, ← slStr]; exact p1
  obtain ⟨A2, k2, b2, L, e2, hS, _, hL⟩ := strs_came p1'
  simp only [Value.slice.injEq] at e2
  obtain ⟨rfl, rfl, rfl⟩ := e2
  have c3 := sub_at d0
  have c4 := sub_at (at_one d1)
  have c5 := sub_at d2
  obtain ⟨n4, _, C⟩ := trod_field Try.underlying30 g4
  obtain ⟨v0, u0⟩ := C 0 _ rfl
  obtain ⟨v1, u1⟩ := C 1 _ rfl
  obtain ⟨pc, f0⟩ := int_at (o := 0) Try.underlying3 intCells u0
  have c6 := sub_at f0
  obtain ⟨R, e1, hR, _⟩ := nums_came u1
  match R, hR with
  | [r0, r1, r2, r3, r4, r5, r6, r7], _ =>
    have c7 := sub_at (sub_at (i := 0) (v := .int .i64 r0) (by rw [e1]; rfl))
    have c8 := sub_at (sub_at (i := 1) (v := .int .i64 r1) (by rw [e1]; rfl))
    have c9 := sub_at (sub_at (i := 2) (v := .int .i64 r2) (by rw [e1]; rfl))
    have c10 := sub_at (sub_at (i := 3) (v := .int .i64 r3) (by rw [e1]; rfl))
    have c11 := sub_at (sub_at (i := 4) (v := .int .i64 r4) (by rw [e1]; rfl))
    have c12 := sub_at (sub_at (i := 5) (v := .int .i64 r5) (by rw [e1]; rfl))
    have c13 := sub_at (sub_at (i := 6) (v := .int .i64 r6) (by rw [e1]; rfl))
    have c14 := sub_at (sub_at (i := 7) (v := .int .i64 r7) (by rw [e1]; rfl))
    obtain ⟨pp, c15, n15⟩ := slice_at (o := 15) Try.underlying31 slRef g5
    obtain ⟨tb, c16, n16⟩ := slice_at (o := 16) Try.underlying32 slSlot g6
    obtain ⟨pe, c17⟩ := int_at (o := 17) Try.underlying2 i64Cells g7
    obtain ⟨al, c18⟩ := int_at (o := 18) Try.underlying2 i64Cells g8
    obtain ⟨su, c19⟩ := int_at (o := 19) Try.underlying2 i64Cells g9
    refine ⟨{ Ob.zero with state := st, parent := pa, children := ch, code := co, strs := ⟨A1, k1, b1⟩, ppages := pg, pc := pc, r0 := r0, r1 := r1, r2 := r2, r3 := r3, r4 := r4, r5 := r5, r6 := r6, r7 := r7, pages := pp, table := tb, pending := pe, alarm := al, status := su }, ?_, ⟨n2, m0, m1, n15, n16⟩, L, hS, hL⟩
    apply List.ext_getElem?
    intro i
    rcases i with _ | _ | _ | _ | _ | _ | _ | _ | _ | _ | _ | _ | _ | _ | _ | _ | _ | _ | _ | _ | i
    · exact c0
    · exact c1
    · exact c2
    · exact c3
    · exact c4
    · exact c5
    · exact c6
    · exact c7
    · exact c8
    · exact c9
    · exact c10
    · exact c11
    · exact c12
    · exact c13
    · exact c14
    · exact c15
    · exact c16
    · exact c17
    · exact c18
    · exact c19
    · rw [List.getElem?_eq_none (by omega), List.getElem?_eq_none (by simp [pcs])]
set_option maxRecDepth 100000 in
/-- An object that came in: its cells. -/
theorem obj_cells (h : DataW.trod enc Try.prog W base sp held fuel 43 cs = some x) : ∃ (o : Ob) (l : List Nm) (strs : List (List UInt8)) (L : List Int), cs = ocl o ∧ Nms W W.heap.size o.names.A o.names.n l ∧ Strs W W.heap.size o.strs.A o.strs.n strs ∧ Fits o l strs ∧
    Nums .i64 W W.heap.size o.words.A o.words.n L ∧ Lists W o := by
  obtain ⟨n, hl, F⟩ := trod_field Try.underlying43 h
  rw [objCells] at hl
  obtain ⟨y0, g0⟩ := F 0 _ rfl
  obtain ⟨y1, g1⟩ := F 1 _ rfl
  obtain ⟨y2, g2⟩ := F 2 _ rfl
  obtain ⟨y3, g3⟩ := F 3 _ rfl
  obtain ⟨y4, g4⟩ := F 4 _ rfl
  obtain ⟨y5, g5⟩ := F 5 _ rfl
  obtain ⟨y6, g6⟩ := F 6 _ rfl
  obtain ⟨y7, g7⟩ := F 7 _ rfl
  obtain ⟨y8, g8⟩ := F 8 _ rfl
  obtain ⟨y9, g9⟩ := F 9 _ rfl
  obtain ⟨y10, g10⟩ := F 10 _ rfl
  obtain ⟨y11, g11⟩ := F 11 _ rfl
  obtain ⟨y12, g12⟩ := F 12 _ rfl
  obtain ⟨y13, g13⟩ := F 13 _ rfl
  obtain ⟨y14, g14⟩ := F 14 _ rfl
  obtain ⟨id, c0⟩ := int_at (o := 0) Try.underlying22 u64Cells g0
  obtain ⟨kd, c1⟩ := int_at (o := 1) Try.underlying3 intCells g1
  obtain ⟨rf, c2⟩ := int_at (o := 2) Try.underlying3 intCells g2
  have g3' : DataW.trod enc Try.prog W base sp held n 34 ((cs.drop 3).take 20) = some y3 := by rw [← procCells]; exact g3
  obtain ⟨p, ep, ⟨b1, b2, b3, b4, b5⟩, S, hS, hSl⟩ := proc_came g3'
  have c3 := sub_at (i := 0) (by rw [ep]; rfl)
  have c4 := sub_at (i := 1) (by rw [ep]; rfl)
  have c5 := sub_at (i := 2) (by rw [ep]; rfl)
  have c6 := sub_at (i := 3) (by rw [ep]; rfl)
  have c7 := sub_at (i := 4) (by rw [ep]; rfl)
  have c8 := sub_at (i := 5) (by rw [ep]; rfl)
  have c9 := sub_at (i := 6) (by rw [ep]; rfl)
  have c10 := sub_at (i := 7) (by rw [ep]; rfl)
  have c11 := sub_at (i := 8) (by rw [ep]; rfl)
  have c12 := sub_at (i := 9) (by rw [ep]; rfl)
  have c13 := sub_at (i := 10) (by rw [ep]; rfl)
  have c14 := sub_at (i := 11) (by rw [ep]; rfl)
  have c15 := sub_at (i := 12) (by rw [ep]; rfl)
  have c16 := sub_at (i := 13) (by rw [ep]; rfl)
  have c17 := sub_at (i := 14) (by rw [ep]; rfl)
  have c18 := sub_at (i := 15) (by rw [ep]; rfl)
  have c19 := sub_at (i := 16) (by rw [ep]; rfl)
  have c20 := sub_at (i := 17) (by rw [ep]; rfl)
  have c21 := sub_at (i := 18) (by rw [ep]; rfl)
  have c22 := sub_at (i := 19) (by rw [ep]; rfl)
  obtain ⟨wo, c23, n23, L, hL⟩ := numsl_at (o := 23) Try.underlying37 Try.underlying2 i64Cells slI64 g4
  obtain ⟨da, c24, n24, g24, hda⟩ := bytesl_at (o := 24) Try.underlying38 Try.underlying5 u8Cells sl8 g5
  obtain ⟨of, c25⟩ := int_at (o := 25) Try.underlying3 intCells g6
  obtain ⟨ta, c26⟩ := int_at (o := 26) Try.underlying22 u64Cells g7
  obtain ⟨rd, c27⟩ := int_at (o := 27) Try.underlying3 intCells g8
  obtain ⟨wr, c28⟩ := int_at (o := 28) Try.underlying3 intCells g9
  obtain ⟨bl, c29, n29, g29, hbl⟩ := numslc_at (o := 29) Try.underlying23 Try.underlying22 u64Cells sl64 g10
  obtain ⟨xs, m, _, _, _, hxl, hx⟩ := DataW.trod_array Try.underlying39 g11
  have x0 := hx 0 (by omega)
  have x1 := hx 1 (by omega)
  rw [List.getElem?_eq_getElem (by omega)] at x0 x1
  obtain ⟨q0, d0, n30, g30, hq0⟩ := bytesl_at (o := 0 * Try.prog.cellsOf 38) Try.underlying38 Try.underlying5 u8Cells sl8 x0
  obtain ⟨q1, d1, n31, g31, hq1⟩ := bytesl_at (o := 1 * Try.prog.cellsOf 38) Try.underlying38 Try.underlying5 u8Cells sl8 x1
  rw [sl8] at d0 d1
  have c30 := sub_at d0
  have c31 := sub_at d1
  obtain ⟨ys, m2, _, _, _, hyl, hy⟩ := DataW.trod_array Try.underlying40 g12
  have w0 := hy 0 (by omega)
  have w1 := hy 1 (by omega)
  rw [List.getElem?_eq_getElem (by omega)] at w0 w1
  obtain ⟨e0, f0⟩ := int_at (o := 0 * Try.prog.cellsOf 3) Try.underlying3 intCells w0
  obtain ⟨e1, f1⟩ := int_at (o := 1 * Try.prog.cellsOf 3) Try.underlying3 intCells w1
  rw [intCells] at f0 f1
  have c32 := sub_at f0
  have c33 := sub_at f1
  obtain ⟨ct, c34⟩ := int_at (o := 34) Try.underlying2 i64Cells g13
  obtain ⟨A9, k9, b9, e9, _⟩ := slice_one (o := 35) Try.underlying41 slNm g14
  have g14' : DataW.trod enc Try.prog W base sp held n 41 [.slice A9 k9 b9] = some y14 := by rw [← e9, ← slNm]; exact g14
  obtain ⟨nm, N, en, hN, n35, hNl⟩ := names_came g14'
  have c35 := at_one e9
  rw [en] at c35
  refine ⟨{ p with id := id, kind := kd, refs := rf, words := wo, data := da, offset := of, target := ta, readers := rd, writers := wr, backlog := bl, q0 := q0, q1 := q1, e0 := e0, e1 := e1, count := ct, names := nm }, N, S, L, ?_, hN, hS, ⟨b1, b2, b3, b4, b5, n23, n24, n29, n30, n31, n35, hNl, hSl⟩, hL, ⟨hda, hbl, hq0, hq1, ⟨g24, g30, g31⟩, g29, n29⟩⟩
  apply List.ext_getElem?
  intro i
  rcases i with _ | _ | _ | _ | _ | _ | _ | _ | _ | _ | _ | _ | _ | _ | _ | _ | _ | _ | _ | _ | _ | _ | _ | _ | _ | _ | _ | _ | _ | _ | _ | _ | _ | _ | _ | _ | i
  · exact c0
  · exact c1
  · exact c2
  · exact c3
  · exact c4
  · exact c5
  · exact c6
  · exact c7
  · exact c8
  · exact c9
  · exact c10
  · exact c11
  · exact c12
  · exact c13
  · exact c14
  · exact c15
  · exact c16
  · exact c17
  · exact c18
  · exact c19
  · exact c20
  · exact c21
  · exact c22
  · exact c23
  · exact c24
  · exact c25
  · exact c26
  · exact c27
  · exact c28
  · exact c29
  · exact c30
  · exact c31
  · exact c32
  · exact c33
  · exact c34
  · exact c35
  · rw [List.getElem?_eq_none (by omega), List.getElem?_eq_none (by simp [ocl, pcs])]
set_option maxRecDepth 100000 in
/-- An object that came in by value. -/
theorem ob_came {b0 : Nat} {r : Reach} {v : Value} {d : DataW H} {p : List MemPlace} (hv : Value.okWide Try.prog W r b0 43 v) (h : DataW.Trod enc Try.prog W base sp held 43 v d p) :
    ∃ (o : Ob) (l : List Nm) (strs : List (List UInt8)) (L : List Int), v = .agg (oc o) ∧ Nms W W.heap.size o.names.A o.names.n l ∧ Strs W W.heap.size o.strs.A o.strs.n strs ∧ Fits o l strs ∧ Nums .i64 W W.heap.size o.words.A o.words.n L ∧ Lists W o := by
  obtain ⟨cs, rfl, hsz⟩ := okWide_struct Try.underlying43 hv
  obtain ⟨fuel, hf⟩ := h
  obtain ⟨o, l, strs, L, hcs, hr⟩ := obj_cells hf
  refine ⟨o, l, strs, L, ?_, hr⟩
  simp only [Value.cells] at hcs
  rw [oc, ← hcs]
end
end Go.Proofs.Ythaolmcppfjedaa
namespace Go.Proofs.Ythaolmcppfjedaa
open Go.ChangeShapes Go.WideShapes Go.ChangeAt Go.RowKit

theorem spU64Cells : Try.prog.cellsOf 22 = 1 := by kernel_rfl
theorem boolCells : Try.prog.cellsOf 4 = 1 := by kernel_rfl
theorem refCells : Try.prog.cellsOf 61 = 2 := by kernel_rfl
/-- A slice of identifiers that came in. -/
theorem ids_came {H : Type} {enc : TypeId × Value → H} {W : World} {base : Nat} {sp : Nat → Bool} {held : Bool} {fuel : Nat} {A : Option Addr} {n c : Nat} {x : DataW H × List MemPlace}
    (h : DataW.trod enc Try.prog W base sp held fuel 23 [.slice A n c] = some x) : ∃ l, Nums .u64 W W.heap.size A n l ∧ (∀ v ∈ l, (Lit.int .u64 v).wf = true) ∧ n ≤ c ∧ c ≤ 9223372036854775807 := slice_came Try.underlying23 Try.underlying22 spU64Cells h
/-- A page that came in. -/
theorem ref_came {H : Type} {enc : TypeId × Value → H} {W : World} {base : Nat} {sp : Nat → Bool} {held : Bool} {fuel : Nat} {cs : List Value} {x : DataW H × List MemPlace}
    (h : DataW.trod enc Try.prog W base sp held fuel 61 cs = some x) : ∃ y : Sp.Ref, (cs[0]? = some (.int .u64 y.id) ∧ cs[1]? = some (.bool y.sh)) ∧ (Lit.int .u64 y.id).wf = true := by
  obtain ⟨y0, y1, n, _, _, h0, h1⟩ := Go.ChangeShapes.trod_struct2 Try.underlying61 h
  obtain ⟨n0, e0, rfl, b0⟩ := DataW.trod_int Try.underlying22 h0
  obtain ⟨n1, e1, rfl⟩ := DataW.trod_bool Try.underlying4 h1
  have c0 := congrArg (·[0]?) e0
  have c1 := congrArg (·[0]?) e1
  simp only [spU64Cells, boolCells, List.getElem?_take, List.getElem?_drop, List.getElem?_cons_zero, Nat.zero_lt_one, if_true] at c0 c1
  exact ⟨⟨n0, n1⟩, ⟨by simpa using c0, by simpa using c1⟩, b0⟩
/-- An address space that came in. -/
theorem refs_came {H : Type} {enc : TypeId × Value → H} {W : World} {base : Nat} {sp : Nat → Bool} {held : Bool} {fuel : Nat} {v : Value} {x : DataW H × List MemPlace}
    (h : DataW.trod enc Try.prog W base sp held fuel 31 [v] = some x) : ∃ A n c l, v = .slice A n c ∧ Refs W W.heap.size A n l ∧ (n ≤ c ∧ c ≤ 9223372036854775807) ∧ ∀ y ∈ l, (Lit.int .u64 y.id).wf = true := by
  rcases DataW.trod_slice Try.underlying31 h with ⟨hcs, _⟩ | ⟨a, len, cap, elems, rest, m, _, hcs, _, _, hl, hm, hlen, hel, _⟩
  · simp only [List.cons.injEq, and_true] at hcs
    exact ⟨none, 0, 0, [], hcs, Refs.nil, by omega, by simp⟩
  · simp only [List.cons.injEq, and_true] at hcs
    unfold maxLen at hm
    have each : ∀ i, i < len → ∃ y : Sp.Ref, (W.cell? ((a.add (i * 2)).add 0) = some (.int .u64 y.id) ∧ W.cell? ((a.add (i * 2)).add 1) = some (.bool y.sh)) ∧ (Lit.int .u64 y.id).wf = true := by
      intro i hi
      have he := hel i hi
      rw [refCells, List.getElem?_eq_getElem (by omega)] at he
      obtain ⟨cs, h1, h2⟩ := Option.bind_eq_some_iff.1 he
      obtain ⟨_, hl2, hcell⟩ := World.cells?_some h1
      obtain ⟨y, ⟨c0, c1⟩, hy⟩ := ref_came h2
      exact ⟨y, ⟨(hcell 0 (by omega)).trans c0, (hcell 1 (by omega)).trans c1⟩, hy⟩
    haveI : Inhabited Sp.Ref := ⟨⟨0, false⟩⟩
    obtain ⟨Y, hY⟩ := Go.Deep.choose_lt each
    refine ⟨some a, len, cap, (List.range len).map Y, hcs, ⟨by simp, by rw [rv_length]; simp, by simp, fun hne => ?_⟩, by omega, ?_⟩
    · have h0 : 0 < len := by
        rcases Nat.eq_zero_or_pos len with h0 | h0
        · subst h0; simp [rv] at hne
        · exact h0
      have hc0 := (hY 0 h0).1.1
      obtain ⟨b, o, spot⟩ := a
      have hspot : spot = none := by simpa [Addr.add] using World.cell?_spot hc0
      subst hspot
      have hlt := World.block_lt_of_cell? W _ hc0
      rw [add_spot, add_spot] at hlt
      refine ⟨b, o, rfl, hlt, fun j u hu => ?_⟩
      have hj : j < len * 2 := by
        have := (List.getElem?_eq_some_iff.1 hu).1
        rw [rv_length] at this
        simpa using this
      have hi : j / 2 < len := by omega
      have hil : j / 2 < ((List.range len).map Y).length := by simpa using hi
      obtain ⟨i0, i1⟩ := rv_at hil
      obtain ⟨⟨c0, c1⟩, _⟩ := hY (j / 2) hi
      rw [add_spot, add_spot] at c0 c1
      have hg : ((List.range len).map Y)[j / 2] = Y (j / 2) := by simp
      rw [hg] at i0 i1
      rcases (show j = j / 2 * 2 ∨ j = j / 2 * 2 + 1 by omega) with e | e
      · rw [e, i0] at hu
        rw [e, show o + j / 2 * 2 = o + j / 2 * 2 + 0 by omega]
        exact c0.trans hu
      · rw [e, i1] at hu
        rw [e, ← Nat.add_assoc]
        exact c1.trans hu
    · intro y hy
      simp only [List.mem_map, List.mem_range] at hy
      obtain ⟨i, hi, rfl⟩ := hy
      exact (hY i hi).2
theorem space_came {H : Type} {enc : TypeId × Value → H} {W : World} {base : Nat} {sp : Nat → Bool} {held : Bool} {fuel : Nat} {A : Option Addr} {n c : Nat} {x : DataW H × List MemPlace}
    (h : DataW.trod enc Try.prog W base sp held fuel 31 [.slice A n c] = some x) : ∃ l, Refs W W.heap.size A n l ∧ (∀ y ∈ l, (Lit.int .u64 y.id).wf = true) ∧ n ≤ c ∧ c ≤ 9223372036854775807 := by
  obtain ⟨A', n', c', l, e, h1, h2, h3⟩ := refs_came h
  cases e
  exact ⟨l, h1, h3, h2⟩
end Go.Proofs.Ythaolmcppfjedaa
namespace Go.Proofs.Ythaolmcppfjedaa
open Go.ChangeShapes Go.WideShapes Go.ChangeAt Go.RowKit

theorem slInt : Try.prog.cellsOf 3 = 1 := by kernel_rfl
theorem slU64 : Try.prog.cellsOf 22 = 1 := by kernel_rfl
theorem slotCells : Try.prog.cellsOf 63 = 4 := by kernel_rfl
/-- A slot that came in. -/
theorem slot1_came {H : Type} {enc : TypeId × Value → H} {W : World} {base : Nat} {sp : Nat → Bool} {held : Bool} {fuel : Nat} {cs : List Value} {x : DataW H × List MemPlace}
    (h : DataW.trod enc Try.prog W base sp held fuel 63 cs = some x) : ∃ y : Tb.Slot, (cs[0]? = some (.int .i64 y.kind) ∧ cs[1]? = some (.int .u64 y.desc) ∧ cs[2]? = some (.int .u64 y.target) ∧ cs[3]? = some (.int .i64 y.fin)) ∧ True := by
  obtain ⟨y0, y1, y2, y3, n, rfl, _, g0, g1, g2, g3⟩ := Joins.trod_struct4 Try.underlying63 h
  obtain ⟨n0, e0, rfl, b0⟩ := DataW.trod_int Try.underlying3 g0
  obtain ⟨n1, e1, rfl, b1⟩ := DataW.trod_int Try.underlying22 g1
  obtain ⟨n2, e2, rfl, b2⟩ := DataW.trod_int Try.underlying22 g2
  obtain ⟨n3, e3, rfl, b3⟩ := DataW.trod_int Try.underlying3 g3
  have c0 := congrArg (·[0]?) e0
  have c1 := congrArg (·[0]?) e1
  have c2 := congrArg (·[0]?) e2
  have c3 := congrArg (·[0]?) e3
  simp only [slInt, slU64, List.getElem?_take, List.getElem?_drop, List.getElem?_cons_zero, Nat.zero_lt_one, if_true] at c0 c1 c2 c3
  exact ⟨⟨n0, n1, n2, n3⟩, ⟨by simpa using c0, by simpa using c1, by simpa using c2, by simpa using c3⟩, trivial⟩
/-- A slice of slots that came in. -/
theorem slots0_came {H : Type} {enc : TypeId × Value → H} {W : World} {base : Nat} {sp : Nat → Bool} {held : Bool} {fuel : Nat} {v : Value} {x : DataW H × List MemPlace}
    (h : DataW.trod enc Try.prog W base sp held fuel 32 [v] = some x) : ∃ A n c l, v = .slice A n c ∧ Slots W W.heap.size A n l ∧ (n ≤ c ∧ c ≤ 9223372036854775807) ∧ True := by
  rcases DataW.trod_slice Try.underlying32 h with ⟨hcs, _⟩ | ⟨a, len, cap, elems, rest, m, _, hcs, _, _, hl, hm, hlen, hel, _⟩
  · simp only [List.cons.injEq, and_true] at hcs
    exact ⟨none, 0, 0, [], hcs, Slots.nil, by omega, trivial⟩
  · simp only [List.cons.injEq, and_true] at hcs
    unfold maxLen at hm
    have each : ∀ i, i < len → ∃ y : Tb.Slot, (W.cell? ((a.add (i * 4)).add 0) = some (.int .i64 y.kind) ∧ W.cell? ((a.add (i * 4)).add 1) = some (.int .u64 y.desc) ∧ W.cell? ((a.add (i * 4)).add 2) = some (.int .u64 y.target) ∧ W.cell? ((a.add (i * 4)).add 3) = some (.int .i64 y.fin)) ∧ True := by
      intro i hi
      have he := hel i hi
      rw [slotCells, List.getElem?_eq_getElem (by omega)] at he
      obtain ⟨cs, h1, h2⟩ := Option.bind_eq_some_iff.1 he
      obtain ⟨_, hl4, hcell⟩ := World.cells?_some h1
      obtain ⟨y, ⟨c0, c1, c2, c3⟩, hy⟩ := slot1_came h2
      exact ⟨y, ⟨(hcell 0 (by omega)).trans c0, (hcell 1 (by omega)).trans c1, (hcell 2 (by omega)).trans c2, (hcell 3 (by omega)).trans c3⟩, hy⟩
    haveI : Inhabited Tb.Slot := ⟨⟨0, 0, 0, 0⟩⟩
    obtain ⟨Y, hY⟩ := Go.Deep.choose_lt each
    refine ⟨some a, len, cap, (List.range len).map Y, hcs, ⟨by simp, by rw [stv_length]; simp, by simp, fun hne => ?_⟩, by omega, ?_⟩
    · have h0 : 0 < len := by
        rcases Nat.eq_zero_or_pos len with h0 | h0
        · subst h0; simp [stv] at hne
        · exact h0
      have hc0 := (hY 0 h0).1.1
      obtain ⟨b, o, spot⟩ := a
      have hspot : spot = none := by simpa [Addr.add] using World.cell?_spot hc0
      subst hspot
      have hlt := World.block_lt_of_cell? W _ hc0
      rw [add_spot, add_spot] at hlt
      refine ⟨b, o, rfl, hlt, fun j u hu => ?_⟩
      have hj : j < len * 4 := by
        have := (List.getElem?_eq_some_iff.1 hu).1
        rw [stv_length] at this
        simpa using this
      have hi : j / 4 < len := by omega
      have hil : j / 4 < ((List.range len).map Y).length := by simpa using hi
      have i0 := stv_get hil (show 0 < 4 by omega)
      have i1 := stv_get hil (show 1 < 4 by omega)
      have i2 := stv_get hil (show 2 < 4 by omega)
      have i3 := stv_get hil (show 3 < 4 by omega)
      simp only [stc, Nat.add_zero, List.getElem?_cons_zero, List.getElem?_cons_succ] at i0 i1 i2 i3
      obtain ⟨⟨c0, c1, c2, c3⟩, _⟩ := hY (j / 4) hi
      rw [add_spot, add_spot] at c0 c1 c2 c3
      have hg : ((List.range len).map Y)[j / 4] = Y (j / 4) := by simp
      rw [hg] at i0 i1 i2 i3
      rcases (show j = j / 4 * 4 ∨ j = j / 4 * 4 + 1 ∨ j = j / 4 * 4 + 2 ∨ j = j / 4 * 4 + 3 by omega) with e | e | e | e
      · rw [e, i0] at hu
        rw [e, show o + j / 4 * 4 = o + j / 4 * 4 + 0 by omega]
        exact c0.trans hu
      · rw [e, i1] at hu
        rw [e, ← Nat.add_assoc]
        exact c1.trans hu
      · rw [e, i2] at hu
        rw [e, ← Nat.add_assoc]
        exact c2.trans hu
      · rw [e, i3] at hu
        rw [e, ← Nat.add_assoc]
        exact c3.trans hu
    · trivial
set_option maxRecDepth 100000 in
/-- A slot that came in by value. -/
theorem slot_came {H : Type} {enc : TypeId × Value → H} {W : World} {base b0 : Nat} {r : Reach} {sp : Nat → Bool} {held : Bool} {v : Value} {d : DataW H} {p : List MemPlace}
    (hv : Value.okWide Try.prog W r b0 63 v) (h : DataW.Trod enc Try.prog W base sp held 63 v d p) : ∃ x : Tb.Slot, v = .agg #[.int .i64 x.kind, .int .u64 x.desc, .int .u64 x.target, .int .i64 x.fin] ∧ True := by
  obtain ⟨cs, rfl, hsz⟩ := okWide_struct Try.underlying63 hv
  rw [slotCells] at hsz
  obtain ⟨fuel, hf⟩ := h
  obtain ⟨x, ⟨c0, c1, c2, c3⟩, h64⟩ := slot1_came hf
  simp only [Value.cells, Array.getElem?_toList] at c0 c1 c2 c3
  refine ⟨x, ?_, h64⟩
  congr 1
  apply Array.ext_getElem?
  intro i
  rcases i with _ | _ | _ | _ | i
  · simpa using c0
  · simpa using c1
  · simpa using c2
  · simpa using c3
  · rw [Array.getElem?_eq_none (by omega), Array.getElem?_eq_none (by simp)]
theorem table_came {H : Type} {enc : TypeId × Value → H} {W : World} {base : Nat} {sp : Nat → Bool} {held : Bool} {fuel : Nat} {A : Option Addr} {n c : Nat} {x : DataW H × List MemPlace}
    (h : DataW.trod enc Try.prog W base sp held fuel 32 [.slice A n c] = some x) : ∃ l, Slots W W.heap.size A n l ∧ n ≤ c ∧ c ≤ 9223372036854775807 := by
  obtain ⟨A', n', c', l, e, h1, h2⟩ := slots0_came h
  cases e
  exact ⟨l, h1, h2.1⟩
end Go.Proofs.Ythaolmcppfjedaa
namespace Go.Proofs.Ythaolmcppfjedaa
open Go.RowKit

/-- Where an object counts a slot. -/
def Tb.Slot.off (s : Tb.Slot) : Nat := if s.kind = 2 then 27 else if s.kind = 3 then 28 else if s.kind = 4 then 32 + s.fin.toNat else 2
namespace Ob
def cnt (o : Ob) (s : Tb.Slot) : Int := if s.kind = 2 then o.readers else if s.kind = 3 then o.writers else if s.kind = 4 then (if s.fin = 0 then o.e0 else o.e1) else o.refs
def setCnt (o : Ob) (s : Tb.Slot) (v : Int) : Ob := if s.kind = 2 then { o with readers := v } else if s.kind = 3 then { o with writers := v } else if s.kind = 4 then (if s.fin = 0 then { o with e0 := v } else { o with e1 := v }) else { o with refs := v }
/-- Which error: the slot is none, the object is not its holder. -/
def fits (o : Ob) (s : Tb.Slot) : Int := if s.Ok then (if (Tb.holder s).1 = 0 ∨ o.id ≠ (Tb.holder s).1 ∨ o.kind ≠ (Tb.holder s).2 then 10 else 0) else 1
theorem cell_off {o : Ob} {s : Tb.Slot} (h : s.kind = 4 → s.fin = 0 ∨ s.fin = 1) : (oc o)[s.off]? = some (.int .i64 (o.cnt s)) := by
  unfold Tb.Slot.off cnt
  by_cases h2 : s.kind = 2
  · rw [if_pos h2, if_pos h2]; rfl
  · by_cases h3 : s.kind = 3
    · rw [if_neg h2, if_neg h2, if_pos h3, if_pos h3]; rfl
    · by_cases h4 : s.kind = 4
      · rw [if_neg h2, if_neg h2, if_neg h3, if_neg h3, if_pos h4, if_pos h4]
        rcases h h4 with e | e <;> rw [e] <;> rfl
      · rw [if_neg h2, if_neg h2, if_neg h3, if_neg h3, if_neg h4, if_neg h4]; rfl
theorem put_off {o : Ob} {s : Tb.Slot} (h : s.kind = 4 → s.fin = 0 ∨ s.fin = 1) (v : Int) : (oc o).setIfInBounds s.off (.int .i64 v) = oc (o.setCnt s v) := by
  unfold Tb.Slot.off setCnt
  by_cases h2 : s.kind = 2
  · rw [if_pos h2, if_pos h2]; rfl
  · by_cases h3 : s.kind = 3
    · rw [if_neg h2, if_neg h2, if_pos h3, if_pos h3]; rfl
    · by_cases h4 : s.kind = 4
      · rw [if_neg h2, if_neg h2, if_neg h3, if_neg h3, if_pos h4, if_pos h4]
        rcases h h4 with e | e <;> rw [e] <;> rfl
      · rw [if_neg h2, if_neg h2, if_neg h3, if_neg h3, if_neg h4, if_neg h4]; rfl
theorem cnt_relist (o c : Ob) (s : Tb.Slot) : (o.relist c).cnt s = o.cnt s := rfl
end Ob
theorem Tb.Slot.ok_fin {s : Tb.Slot} (h : s.Ok) : s.kind = 4 → s.fin = 0 ∨ s.fin = 1 := fun h4 => by
  unfold Tb.Slot.Ok at h
  rw [if_neg (by omega)] at h
  rcases h.2.2.2.2 with e | e
  · exact .inl e
  · exact .inr e.1
theorem Ob.fits_ok {o : Ob} {s : Tb.Slot} (h : o.fits s = 0) : s.Ok := by
  unfold Ob.fits at h
  by_cases hk : s.Ok
  · exact hk
  · rw [if_neg hk] at h; omega

theorem start_os (W : World) (o : Ob) (s : Tb.Slot) : ∃ w1, (W.alloc (.cells (oc o) 43)).alloc (.cells #[.int .i64 s.kind, .int .u64 s.desc, .int .u64 s.target, .int .i64 s.fin] 63) = w1 ∧
    Obl w1 W.heap.size 43 (oc o) ∧ Obl w1 (W.heap.size + 1) 63 #[.int .i64 s.kind, .int .u64 s.desc, .int .u64 s.target, .int .i64 s.fin] ∧ Below W.heap.size W w1 ∧ w1.heap.size = W.heap.size + 2 := by
  refine ⟨_, rfl, (Obl.make W _ _).alloc _, ?_, ((Below.refl _ _).alloc (Nat.le_refl _) _).alloc (by simp) _, by simp⟩
  have := Obl.make (W.alloc (.cells (oc o) 43)) 63 #[.int .i64 s.kind, .int .u64 s.desc, .int .u64 s.target, .int .i64 s.fin]
  rwa [World.size_alloc] at this
/-- A pointer into a block. -/
def PtrPost (b k : Nat) (w : World) (e : Ending) (w' : World) : Prop := e = .returned (.pointer (some ⟨b, k, none⟩)) ∧ Below w.heap.size w w'
theorem PtrPost.of {b k i : Nat} {w w' : World} {e : Ending} (h : k = i) (he : e = .returned (.pointer (some ⟨b, i, none⟩))) (hb : Below w.heap.size w w') : PtrPost b k w e w' := by subst h; exact ⟨he, hb⟩
end Go.Proofs.Ythaolmcppfjedaa
namespace Go.Proofs.Ythaolmcppfjedaa
open Go.ChangeShapes Go.WideShapes Go.ChangeAt Go.RowKit

/-- The lists of an object's process. -/
structure ProcLists (w : World) (o : Ob) : Prop where
  children : ∃ l, Nums .u64 w w.heap.size o.children.A o.children.n l
  code : ∃ l, Inss w w.heap.size o.code.A o.code.n l
  strs : ∃ l, Strs w w.heap.size o.strs.A o.strs.n l
  pages : ∃ l, Refs w w.heap.size o.pages.A o.pages.n l
  table : ∃ l, Slots w w.heap.size o.table.A o.table.n l
def in64 (v : Int) : Prop := -9223372036854775808 ≤ v ∧ v ≤ 9223372036854775807
section
variable {H : Type} {enc : TypeId × Value → H} {W : World} {base : Nat} {sp : Nat → Bool} {held : Bool}
theorem int_in {fuel : Nat} {v : Int} {x : DataW H × List MemPlace} (h : DataW.trod enc Try.prog W base sp held fuel 3 [.int .i64 v] = some x) : in64 v := by
  obtain ⟨n, e, _, b⟩ := DataW.trod_int Try.underlying3 h
  simp only [List.cons.injEq, Value.int.injEq, true_and, and_true] at e
  subst e
  exact wf_i64 b
theorem field_at {fuel off k : Nat} {t : TypeId} {cs r : List Value} {y : DataW H × List MemPlace} (h : DataW.trod enc Try.prog W base sp held fuel t ((cs.drop off).take (Try.prog.cellsOf t)) = some y) (hc : Try.prog.cellsOf t = k) (e : (cs.drop off).take k = r) : DataW.trod enc Try.prog W base sp held fuel t r = some y := by
  rw [hc, e] at h
  exact h
set_option maxRecDepth 100000 in
theorem ob_lists {o : Ob} {d : DataW H} {p : List MemPlace} (h : DataW.Trod enc Try.prog W base sp held 43 (.agg (oc o)) d p) : ProcLists W o ∧ (in64 o.refs ∧ in64 o.readers ∧ in64 o.writers ∧ in64 o.e0 ∧ in64 o.e1) := by
  obtain ⟨fuel, hf⟩ := h
  have hf' : DataW.trod enc Try.prog W base sp held fuel 43 (ocl o) = some (d, p) := hf
  obtain ⟨n, _, F⟩ := trod_field Try.underlying43 hf'
  obtain ⟨y2, g2⟩ := F 2 _ rfl
  obtain ⟨y3, g3⟩ := F 3 _ rfl
  obtain ⟨y8, g8⟩ := F 8 _ rfl
  obtain ⟨y9, g9⟩ := F 9 _ rfl
  obtain ⟨y12, g12⟩ := F 12 _ rfl
  have h2 : DataW.trod enc Try.prog W base sp held n 3 [.int .i64 o.refs] = some y2 := field_at (t := 3) (cs := ocl o) (off := 2) g2 intCells rfl
  have h8 : DataW.trod enc Try.prog W base sp held n 3 [.int .i64 o.readers] = some y8 := field_at (t := 3) (cs := ocl o) (off := 27) g8 intCells rfl
  have h9 : DataW.trod enc Try.prog W base sp held n 3 [.int .i64 o.writers] = some y9 := field_at (t := 3) (cs := ocl o) (off := 28) g9 intCells rfl
  have h3 : DataW.trod enc Try.prog W base sp held n 34 (pcs o) = some y3 := field_at (t := 34) (cs := ocl o) (off := 3) g3 procCells rfl
  have h12 : DataW.trod enc Try.prog W base sp held n 40 [.int .i64 o.e0, .int .i64 o.e1] = some y12 := field_at (t := 40) (cs := ocl o) (off := 32) g12 endsCells rfl
  obtain ⟨m, _, P⟩ := trod_field Try.underlying34 h3
  obtain ⟨z2, p2⟩ := P 2 _ rfl
  obtain ⟨z3, p3⟩ := P 3 _ rfl
  obtain ⟨z5, p5⟩ := P 5 _ rfl
  obtain ⟨z6, p6⟩ := P 6 _ rfl
  have q2 : DataW.trod enc Try.prog W base sp held m 23 [.slice o.children.A o.children.n o.children.c] = some z2 := field_at (t := 23) (cs := pcs o) (off := 2) p2 sl64 rfl
  have q3 : DataW.trod enc Try.prog W base sp held m 27 [.slice o.code.A o.code.n o.code.c, .slice o.strs.A o.strs.n o.strs.c, .int .i64 o.ppages] = some z3 := field_at (t := 27) (cs := pcs o) (off := 3) p3 progCells rfl
  have q5 : DataW.trod enc Try.prog W base sp held m 31 [.slice o.pages.A o.pages.n o.pages.c] = some z5 := field_at (t := 31) (cs := pcs o) (off := 15) p5 slRef rfl
  have q6 : DataW.trod enc Try.prog W base sp held m 32 [.slice o.table.A o.table.n o.table.c] = some z6 := field_at (t := 32) (cs := pcs o) (off := 16) p6 slSlot rfl
  obtain ⟨k, _, C⟩ := trod_field Try.underlying27 q3
  obtain ⟨u0, r0⟩ := C 0 _ rfl
  obtain ⟨u1, r1⟩ := C 1 _ rfl
  have s0 : DataW.trod enc Try.prog W base sp held k 24 [.slice o.code.A o.code.n o.code.c] = some u0 := field_at (t := 24) (cs := [.slice o.code.A o.code.n o.code.c, .slice o.strs.A o.strs.n o.strs.c, .int .i64 o.ppages]) (off := 0) r0 slIns rfl
  have s1 : DataW.trod enc Try.prog W base sp held k 25 [.slice o.strs.A o.strs.n o.strs.c] = some u1 := field_at (t := 25) (cs := [.slice o.code.A o.code.n o.code.c, .slice o.strs.A o.strs.n o.strs.c, .int .i64 o.ppages]) (off := 1) r1 slStr rfl
  obtain ⟨I, hI, _⟩ := ids_came q2
  obtain ⟨A0, n0, c0, K, e0, hK, _⟩ := inss_came s0
  obtain ⟨A1, n1, c1, T, e1, hT, _⟩ := strs_came s1
  obtain ⟨R, hR, _⟩ := space_came q5
  obtain ⟨t, hS, _⟩ := table_came q6
  cases e0
  cases e1
  obtain ⟨xs, m2, _, _, hl, hx, hel⟩ := DataW.trod_array Try.underlying40 h12
  have v0 := hel 0 (by omega)
  have v1 := hel 1 (by omega)
  rw [intCells, List.getElem?_eq_getElem (by omega)] at v0 v1
  refine ⟨⟨⟨I, hI⟩, ⟨K, hK⟩, ⟨T, hT⟩, ⟨R, hR⟩, ⟨t, hS⟩⟩, int_in h2, int_in h8, int_in h9, int_in (v := o.e0) v0, int_in (v := o.e1) v1⟩
end
end Go.Proofs.Ythaolmcppfjedaa
namespace Go.Proofs.Ythaolmcppfjedaa
open Go.ChangeShapes Go.WideShapes Go.ChangeAt Go.RowKit

/-- The numbers of a process are of 64 bits. -/
def ProcIn64 (o : Ob) : Prop := in64 o.state ∧ in64 o.ppages ∧ in64 o.pending ∧ in64 o.alarm ∧ in64 o.status
section
variable {H : Type} {enc : TypeId × Value → H} {W : World} {base : Nat} {sp : Nat → Bool} {held : Bool}
theorem int64_in {fuel : Nat} {v : Int} {x : DataW H × List MemPlace} (h : DataW.trod enc Try.prog W base sp held fuel 2 [.int .i64 v] = some x) : in64 v := by
  obtain ⟨n, e, _, b⟩ := DataW.trod_int Try.underlying2 h
  simp only [List.cons.injEq, Value.int.injEq, true_and, and_true] at e
  subst e
  exact wf_i64 b
set_option maxRecDepth 100000 in
/-- The lists of a process. -/
theorem proc_lists {fuel : Nat} {o : Ob} {x : DataW H × List MemPlace} (h3 : DataW.trod enc Try.prog W base sp held fuel 34 (pcs o) = some x) : ∃ X : Cont, HoldsP W W.heap.size o X ∧ (∀ y ∈ X.strs, y.length ≤ 9223372036854775807) ∧ ProcIn64 o := by
  obtain ⟨m, _, P⟩ := trod_field Try.underlying34 h3
  obtain ⟨z0, p0⟩ := P 0 _ rfl
  obtain ⟨z2, p2⟩ := P 2 _ rfl
  obtain ⟨z3, p3⟩ := P 3 _ rfl
  obtain ⟨z5, p5⟩ := P 5 _ rfl
  obtain ⟨z6, p6⟩ := P 6 _ rfl
  obtain ⟨z7, p7⟩ := P 7 _ rfl
  obtain ⟨z8, p8⟩ := P 8 _ rfl
  obtain ⟨z9, p9⟩ := P 9 _ rfl
  have q0 : DataW.trod enc Try.prog W base sp held m 3 [.int .i64 o.state] = some z0 := field_at (t := 3) (cs := pcs o) (off := 0) p0 intCells rfl
  have q7 : DataW.trod enc Try.prog W base sp held m 2 [.int .i64 o.pending] = some z7 := field_at (t := 2) (cs := pcs o) (off := 17) p7 i64Cells rfl
  have q8 : DataW.trod enc Try.prog W base sp held m 2 [.int .i64 o.alarm] = some z8 := field_at (t := 2) (cs := pcs o) (off := 18) p8 i64Cells rfl
  have q9 : DataW.trod enc Try.prog W base sp held m 2 [.int .i64 o.status] = some z9 := field_at (t := 2) (cs := pcs o) (off := 19) p9 i64Cells rfl
  have q2 : DataW.trod enc Try.prog W base sp held m 23 [.slice o.children.A o.children.n o.children.c] = some z2 := field_at (t := 23) (cs := pcs o) (off := 2) p2 sl64 rfl
  have q3 : DataW.trod enc Try.prog W base sp held m 27 [.slice o.code.A o.code.n o.code.c, .slice o.strs.A o.strs.n o.strs.c, .int .i64 o.ppages] = some z3 := field_at (t := 27) (cs := pcs o) (off := 3) p3 progCells rfl
  have q5 : DataW.trod enc Try.prog W base sp held m 31 [.slice o.pages.A o.pages.n o.pages.c] = some z5 := field_at (t := 31) (cs := pcs o) (off := 15) p5 slRef rfl
  have q6 : DataW.trod enc Try.prog W base sp held m 32 [.slice o.table.A o.table.n o.table.c] = some z6 := field_at (t := 32) (cs := pcs o) (off := 16) p6 slSlot rfl
  obtain ⟨k, _, C⟩ := trod_field Try.underlying27 q3
  obtain ⟨u0, r0⟩ := C 0 _ rfl
  obtain ⟨u1, r1⟩ := C 1 _ rfl
  obtain ⟨u2, r2⟩ := C 2 _ rfl
  have s0 : DataW.trod enc Try.prog W base sp held k 24 [.slice o.code.A o.code.n o.code.c] = some u0 := field_at (t := 24) (cs := [.slice o.code.A o.code.n o.code.c, .slice o.strs.A o.strs.n o.strs.c, .int .i64 o.ppages]) (off := 0) r0 slIns rfl
  have s1 : DataW.trod enc Try.prog W base sp held k 25 [.slice o.strs.A o.strs.n o.strs.c] = some u1 := field_at (t := 25) (cs := [.slice o.code.A o.code.n o.code.c, .slice o.strs.A o.strs.n o.strs.c, .int .i64 o.ppages]) (off := 1) r1 slStr rfl
  have s2 : DataW.trod enc Try.prog W base sp held k 3 [.int .i64 o.ppages] = some u2 := field_at (t := 3) (cs := [.slice o.code.A o.code.n o.code.c, .slice o.strs.A o.strs.n o.strs.c, .int .i64 o.ppages]) (off := 2) r2 intCells rfl
  obtain ⟨I, hI, _⟩ := ids_came q2
  obtain ⟨A0, n0, c0, K, e0, hK, _⟩ := inss_came s0
  obtain ⟨A1, n1, c1, T, e1, hT, _, hTl⟩ := strs_came s1
  obtain ⟨R, hR, _⟩ := space_came q5
  obtain ⟨t, hS, _⟩ := table_came q6
  cases e0
  cases e1
  exact ⟨{ Cont.none with children := I, code := K, strs := T, pages := R, table := t }, ⟨hI, hK, hT, hR, hS⟩, hTl, int_in q0, int_in s2, int64_in q7, int64_in q8, int64_in q9⟩
set_option maxRecDepth 100000 in
/-- A process that came in by value. -/
theorem pr_came {b0 : Nat} {r : Reach} {v : Value} {d : DataW H} {p : List MemPlace} (hv : Value.okWide Try.prog W r b0 34 v) (h : DataW.Trod enc Try.prog W base sp held 34 v d p) :
    ∃ (o : Ob) (X : Cont), v = .agg (pcell o) ∧ HoldsP W W.heap.size o X ∧ Fits o.only [] X.strs ∧ ProcIn64 o := by
  obtain ⟨cs, rfl, hsz⟩ := okWide_struct Try.underlying34 hv
  obtain ⟨fuel, hf⟩ := h
  obtain ⟨o, hcs, ⟨b1, b2, b3, b4, b5⟩, _⟩ := proc_came hf
  rw [hcs] at hf
  obtain ⟨X, hX, hT, h64⟩ := proc_lists hf
  refine ⟨o, X, ?_, hX, ⟨b1, b2, b3, b4, b5, by simp [Ob.only, Ob.zero], by simp [Ob.only, Ob.zero], by simp [Ob.only, Ob.zero], by simp [Ob.only, Ob.zero], by simp [Ob.only, Ob.zero], by simp [Ob.only, Ob.zero], by simp, hT⟩, h64⟩
  simp only [Value.cells] at hcs
  rw [pcell, ← hcs]
end
end Go.Proofs.Ythaolmcppfjedaa
