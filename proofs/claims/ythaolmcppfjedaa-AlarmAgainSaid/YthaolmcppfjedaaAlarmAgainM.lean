/- Layer 14, what the laws share: processes without lists, and what raising and taking make of them; the sanity check. | Layer 15, what the laws share: processes without lists, what setting and ticks make of them; the sanity check. (Written by tools/mkalarm.py.) | What came in, as the walks of plain rows read it: slices of bytes, of numbers. -/
import Derived.Test.YthaolmcppfjedaaSgOps
import Derived.Test.YthaolmcppfjedaaAlOps
import Derived.Test.YthaolmcppfjedaaRows
import Derived.Test.YthaolmcppfjedaaAgg
import Derived.Deep.Strs
import Derived.Lib.SmallJoins
import Derived.MakeChecks
import Derived.OpenShut
import Derived.ProofKit
import Derived.ChangeMaps5
import Derived.Carry
namespace Go.Proofs.Ythaolmcppfjedaa
open Go.RowKit

def stSt (st s : Int) : Int := if s = 9 ∧ st = 1 then 2 else st
def stPd (pd s : Int) : Int := if s = 9 then pd else sgOr pd s
def stSu (st su s : Int) : Int := if s = 9 ∧ st = 1 then -9 else su
theorem proc_raise (st pd al su s : Int) : (Ob.proc st pd al su).raise s = Ob.proc (stSt st s) (stPd pd s) al (stSu st su s) := by
  unfold Ob.raise stSt stPd stSu
  by_cases h9 : s = 9
  · rw [if_pos h9]
    by_cases h1 : st = 1
    · rw [if_pos (show (Ob.proc st pd al su).state = 1 from h1), if_pos ⟨h9, h1⟩, if_pos h9, if_pos ⟨h9, h1⟩]; rfl
    · rw [if_neg (show ¬ (Ob.proc st pd al su).state = 1 from h1), if_neg (fun h => h1 h.2), if_pos h9, if_neg (fun h => h1 h.2)]
  · rw [if_neg h9, if_neg (fun h => h9 h.1), if_neg h9, if_neg (fun h => h9 h.1)]; rfl
/-- A process without lists, like b. -/
structure Plain (a b : Ob) : Prop where
  like : AlikeP a b
  n1 : a.children.n = 0
  n2 : a.code.n = 0
  n3 : a.strs.n = 0
  n4 : a.pages.n = 0
  n5 : a.table.n = 0
theorem Plain.held {a b : Ob} (h : Plain a b) (w : World) (B : Nat) : HoldsP w B a Cont.none := by
  constructor
  · rw [h.n1]; exact Nums.nil
  · rw [h.n2]; exact Inss.nil
  · rw [h.n3]; exact Strs.nil
  · rw [h.n4]; exact Refs.nil
  · rw [h.n5]; exact Slots.nil
theorem Plain.of {w : World} {B : Nat} {a b : Ob} (h : AlikeP a b) (k : HoldsP w B a Cont.none) : Plain a b := ⟨h, k.children.len.symm, k.code.len.symm, k.strs.len.symm, k.pages.len.symm, k.table.len.symm⟩
theorem Plain.proc (st pd al su : Int) : Plain (Ob.proc st pd al su) (Ob.proc st pd al su) := ⟨AlikeP.refl _, rfl, rfl, rfl, rfl, rfl⟩
/-- A plain process and no error. -/
def PlainOk (b : Ob) (w : World) (e : Ending) (w' : World) : Prop := ∃ a, e = .returned (.tuple #[.agg (pcell a), .int .i64 0]) ∧ Plain a b ∧ Below w.heap.size w w'
/-- A number and a plain process. -/
def NumPlain (n : Int) (b : Ob) (w : World) (e : Ending) (w' : World) : Prop := ∃ a, e = .returned (.tuple #[.int .i64 n, .agg (pcell a)]) ∧ Plain a b ∧ Below w.heap.size w w'
theorem sgRaise_plain {a : Ob} {st pd al su s : Int} {w : World} (h : Plain a (Ob.proc st pd al su)) (hs : 1 ≤ s ∧ s ≤ 31) (hst : st = 1 ∨ st = 2) :
    Calls Try.prog 16 #[.agg (pcell a), .int .i64 s] w (PlainOk (Ob.proc (stSt st s) (stPd pd s) al (stSu st su s)) w) := by
  have he : a.raiseErr s = 0 := by rw [h.like.raiseErr s]; unfold Ob.raiseErr; rw [if_pos hs, if_pos (show (Ob.proc st pd al su).state = 1 ∨ (Ob.proc st pd al su).state = 2 from hst)]
  have hc := sgRaise_any a s Cont.none w (h.held _ _) Cont.none_shortP
  rw [he] at hc
  refine hc.mono fun _ _ ⟨y, e, hp, hb⟩ => ⟨y, e, .of ?_ hp.ok.2, hb⟩
  have := hp.ok.1.trans (h.like.raise s)
  rwa [proc_raise] at this
theorem plain_same {a a' b : Ob} (h : Plain a b) (h' : Plain a' b) (w : World) : Calls Try.prog 12 #[.agg (pcell a), .agg (pcell a')] w (BoolPost true w) :=
  sameProc_p _ _ Cont.none w (h.like.trans h'.like.symm) (h.held _ _) (h'.held _ _) Cont.none_shortP
/-- The cells of a plain process's numbers. -/
theorem Plain.cells {v : World} {a : Ob} {st pd al su : Int} {m : Nat} {t : TypeId} (h : Plain a (Ob.proc st pd al su)) (O : Obl v m t (pcell a)) :
    v.cell? ⟨m, 0, none⟩ = some (.int .i64 st) ∧ v.cell? ⟨m, 17, none⟩ = some (.int .i64 pd) ∧ v.cell? ⟨m, 18, none⟩ = some (.int .i64 al) ∧ v.cell? ⟨m, 19, none⟩ = some (.int .i64 su) := by
  have e0 : a.state = st := h.like.state
  have e1 : a.pending = pd := h.like.pending
  have e2 : a.alarm = al := h.like.alarm
  have e3 : a.status = su := h.like.status
  rw [← e0, ← e1, ← e2, ← e3]
  exact ⟨O.cell 0, O.cell 17, O.cell 18, O.cell 19⟩

end Go.Proofs.Ythaolmcppfjedaa
namespace Go.Proofs.Ythaolmcppfjedaa
open Go.RowKit

def tkAl (al n : Int) : Int := if n < al then al - n else 0
def tkPd (pd al n : Int) : Int := if al = 0 ∨ n < al then pd else sgOr pd 14
theorem proc_ticked (st pd al su n : Int) (hst : st = 1 ∨ st = 2) (hn : 0 ≤ n) : (Ob.proc st pd al su).ticked n = Ob.proc st (tkPd pd al n) (tkAl al n) su := by
  unfold Ob.ticked tkAl tkPd
  rw [show (Ob.proc st pd al su).alarm = al from rfl, show (Ob.proc st pd al su).state = st from rfl]
  by_cases h0 : al = 0
  · subst h0
    rw [if_pos (.inl rfl), if_pos (.inl rfl), if_neg (by omega)]
  · rw [if_neg (by omega)]
    by_cases h1 : n < al
    · rw [if_pos h1, if_pos (.inr h1), if_pos h1]; rfl
    · rw [if_neg h1, if_neg (by omega), if_neg h1, show (Ob.proc st pd al su).armed 0 = Ob.proc st pd 0 su from rfl, proc_raise]
      unfold stSt stPd stSu
      rw [if_neg (by omega), if_neg (by omega), if_neg (by omega)]
/-- A number, a plain process and no error. -/
def NumPlainOk (n : Int) (b : Ob) (w : World) (e : Ending) (w' : World) : Prop := ∃ a, e = .returned (.tuple #[.int .i64 n, .agg (pcell a), .int .i64 0]) ∧ Plain a b ∧ Below w.heap.size w w'
theorem alSet_plain {a : Ob} {st pd al su n : Int} {w : World} (h : Plain a (Ob.proc st pd al su)) (hn : 0 ≤ n ∧ n ≤ 1073741824) :
    Calls Try.prog 8 #[.agg (pcell a), .int .i64 n] w (NumPlainOk al (Ob.proc st pd n su) w) := by
  have he : alErr n = 0 := if_neg (by omega)
  refine (alSet_any a n Cont.none w (h.held _ _) Cont.none_shortP).mono fun _ _ ⟨y, e, hp, hb⟩ => ?_
  rw [he] at hp e
  refine ⟨y, ?_, .of (hp.ok.1.trans (h.like.armed n)) hp.ok.2, hb⟩
  rw [e, show a.alLeft n = al by unfold Ob.alLeft; rw [if_pos he]; exact h.like.alarm]
theorem alTick_plain {a : Ob} {st pd al su n : Int} {w : World} (h : Plain a (Ob.proc st pd al su)) (hst : st = 1 ∨ st = 2) (hn : 0 ≤ n ∧ n ≤ 1073741824) (hal : -9223372036854775808 ≤ al ∧ al ≤ 9223372036854775807) :
    Calls Try.prog 10 #[.agg (pcell a), .int .i64 n] w (PlainOk (Ob.proc st (tkPd pd al n) (tkAl al n) su) w) := by
  have he : alErr n = 0 := if_neg (by omega)
  have ha : a.alarm = al := h.like.alarm
  refine (alTick_any a n Cont.none w (by rw [ha]; exact hal) (h.held _ _) Cont.none_shortP).mono fun _ _ ⟨y, e, hp, hb⟩ => ?_
  rw [he] at hp e
  refine ⟨y, e, .of ?_ hp.ok.2, hb⟩
  have := hp.ok.1.trans (h.like.ticked n)
  rwa [proc_ticked _ _ _ _ _ hst hn.1] at this

set_option maxRecDepth 100000 in
set_option maxHeartbeats 8000000 in
theorem alSane_any (W : World) : Calls Try.prog 6 #[] W (BoolPost true W) := by
  have HQ := hide (show tkPd 0 3 2 = 0 ∧ tkAl 3 2 = 1 ∧ tkPd 0 1 1 = 16384 ∧ tkAl 1 1 = 0 by decide +kernel)
  have HB := hide (Below.refl W.heap.size W)
  go_enter Try.func6, Try.ntmps6
  try dsimp only [List.append]
  go_wp2_with (first | (refine wpList_val (by rfl) (exec_build (t := 34) (vs := [(0, .int .i64 1)]) rfl rfl (built_proc 1)) ?_) | fail)
  refine (alSet_plain (n := 3) (Plain.proc 1 0 0 0) (by decide)).mono ?_
  rintro e va ⟨xa, rfl, LA, hva⟩
  have hLa := hide LA
  replace HB := hide (HB.out.trans (hva.mono HB.out.size))
  clear LA hva
  obtain ⟨a1, hwa0, ab, hma, a2, hwa, OZa, PA, hba2, hsa2⟩ := laid_pp xa va
  have hWa : W.heap.size ≤ ab := by have := HB.out.size; omega
  replace HB := hide (HB.out.trans (hba2.mono HB.out.size))
  clear hba2
  go_wp2_with (first | (refine store_proc rfl _ _ rfl rfl (c := xa) rfl OZa rfl ?_; rw [hwa]) | (refine load_proc0 rfl _ rfl rfl PA ?_) | fail)
  clear OZa hwa hwa0 hma hsa2
  refine (alTick_plain (n := 2) hLa.out (.inl rfl) (by decide) (by decide)).mono ?_
  rintro e vb ⟨xb, rfl, LB, hvb⟩
  have hLb := hide LB
  replace HB := hide (HB.out.trans (hvb.mono HB.out.size))
  replace PA := PA.below hvb PA.lt
  clear LB hvb
  obtain ⟨b1, hwb0, bb, hmb, b2, hwb, OZb, PB, hbb2, hsb2⟩ := laid_pp xb vb
  have hWb : W.heap.size ≤ bb := by have := HB.out.size; omega
  have nab : ab ≠ bb := by have := PA.lt; omega
  replace HB := hide (HB.out.trans (hbb2.mono HB.out.size))
  replace PA := PA.below hbb2 PA.lt
  clear hbb2
  rw [HQ.out.1, HQ.out.2.1] at hLb
  go_wp2_with (first | (refine store_proc rfl _ _ rfl rfl (c := xb) rfl OZb rfl ?_; rw [hwb]) | (refine load_proc0 rfl _ rfl rfl PB ?_) | fail)
  clear OZb hwb hwb0 hmb hsb2
  refine (alTick_plain (n := 1) hLb.out (.inl rfl) (by decide) (by decide)).mono ?_
  rintro e vc ⟨xc, rfl, LC, hvc⟩
  have hLc := hide LC
  replace HB := hide (HB.out.trans (hvc.mono HB.out.size))
  replace PA := PA.below hvc PA.lt
  replace PB := PB.below hvc PB.lt
  clear LC hvc
  obtain ⟨c1, hwc0, cb, hmc, c2, hwc, OZc, PC, hbc2, hsc2⟩ := laid_pp xc vc
  have hWc : W.heap.size ≤ cb := by have := HB.out.size; omega
  have nac : ab ≠ cb := by have := PA.lt; omega
  have nbc : bb ≠ cb := by have := PB.lt; omega
  replace HB := hide (HB.out.trans (hbc2.mono HB.out.size))
  replace PA := PA.below hbc2 PA.lt
  replace PB := PB.below hbc2 PB.lt
  clear hbc2
  rw [HQ.out.2.2.1, HQ.out.2.2.2] at hLc
  obtain ⟨_, lb, lc, _⟩ := hLb.out.cells PB
  obtain ⟨_, nb, nc, _⟩ := hLc.out.cells PC
  go_wp2_with (first | (refine store_proc rfl _ _ rfl rfl (c := xc) rfl OZc rfl ?_; rw [hwc]) | fail)
  clear OZc hwc hwc0 hmc hsc2
  go_ret
  exact ⟨rfl, HB.out⟩
end Go.Proofs.Ythaolmcppfjedaa
namespace Go.Proofs.Ythaolmcppfjedaa
open Go.ChangeShapes Go.WideShapes Go.ChangeAt Go.RowKit

theorem cardOwn : ownKnob Try.prog.godebug = none := by kernel_rfl
theorem cardOut : laidOutB Try.prog = true := by kernel_rfl
theorem u8Cells : Try.prog.cellsOf 5 = 1 := by kernel_rfl
/-- A slice of bytes that came in. -/
theorem bytes_came {H : Type} {enc : TypeId × Value → H} {W : World} {base : Nat} {sp : Nat → Bool} {held : Bool} {fuel : Nat} {A : Option Addr} {n c : Nat} {x : DataW H × List MemPlace}
    (h : DataW.trod enc Try.prog W base sp held fuel 38 [.slice A n c] = some x) : ∃ l, Bytes W W.heap.size A n l ∧ n ≤ c ∧ c ≤ 9223372036854775807 := by
  rcases Go.ChangeShapes.open_ints Try.underlying38 Try.underlying5 u8Cells h with ⟨hcs, _⟩ | ⟨a, len, cap, zs, hcs, _, hl, hm, hz, _, hcell, hwf⟩
  · simp only [List.cons.injEq, Value.slice.injEq, and_true] at hcs
    obtain ⟨rfl, rfl, rfl⟩ := hcs
    exact ⟨[], Bytes.nil, by omega, by omega⟩
  · simp only [List.cons.injEq, Value.slice.injEq, and_true] at hcs
    obtain ⟨rfl, rfl, rfl⟩ := hcs
    have hlz : n ≤ zs.length := by rw [hz]; split <;> omega
    unfold maxLen at hm
    have hr : IsRow .u8 W (some a) n zs.length zs := .inr ⟨a, rfl, hlz, by rw [hz]; unfold maxLen; split <;> omega, rfl, hcell, hwf⟩
    obtain ⟨l, hl'⟩ := hr.bytes
    exact ⟨l, hl', by omega, by omega⟩
/-- A slice of numbers that came in. -/
theorem slice_came {H : Type} {enc : TypeId × Value → H} {W : World} {base : Nat} {sp : Nat → Bool} {held : Bool} {fuel : Nat} {k : IntKind} {t e : TypeId} (ht : Try.prog.underlying t = some (.slice e)) (he : Try.prog.underlying e = some (.int k)) (hc : Try.prog.cellsOf e = 1) {A : Option Addr} {n c : Nat} {x : DataW H × List MemPlace}
    (h : DataW.trod enc Try.prog W base sp held fuel t [.slice A n c] = some x) : ∃ l, Nums k W W.heap.size A n l ∧ (∀ v ∈ l, (Lit.int k v).wf = true) ∧ n ≤ c ∧ c ≤ 9223372036854775807 := by
  rcases Go.ChangeShapes.open_ints ht he hc h with ⟨hcs, _⟩ | ⟨a, len, cap, zs, hcs, _, hl, hm, hz, _, hcell, hwf⟩
  · simp only [List.cons.injEq, Value.slice.injEq, and_true] at hcs
    obtain ⟨rfl, rfl, rfl⟩ := hcs
    exact ⟨[], Nums.nil, by simp, by omega, by omega⟩
  · simp only [List.cons.injEq, Value.slice.injEq, and_true] at hcs
    obtain ⟨rfl, rfl, rfl⟩ := hcs
    have hlz : n ≤ zs.length := by rw [hz]; split <;> omega
    unfold maxLen at hm
    have hr : IsRow k W (some a) n zs.length zs := .inr ⟨a, rfl, hlz, by rw [hz]; unfold maxLen; split <;> omega, rfl, hcell, hwf⟩
    obtain ⟨l, h1, h2, h3⟩ := hr.ints
    exact ⟨l, ⟨h1, h3⟩, h2, by omega, by omega⟩
end Go.Proofs.Ythaolmcppfjedaa
