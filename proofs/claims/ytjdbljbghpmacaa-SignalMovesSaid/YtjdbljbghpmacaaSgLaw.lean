/- Layer 14, what the laws share: processes without lists, and what raising and taking make of them; the sanity check. -/
import Derived.Test.YtjdbljbghpmacaaSgOps
namespace Go.Proofs.Ytjdbljbghpmacaa
open Go.RowKit

def stSt (st s : Int) : Int := if s = 9 ∧ st = 1 then 2 else st
def stPd (pd s : Int) : Int := if s = 9 then pd else sgOr pd s
def stSu (st su s : Int) : Int := if s = 9 ∧ st = 1 then -9 else su
theorem proc_raise (st pd al su s : Int) : (Ob.proc st pd al su).raise s = Ob.proc (stSt st s) (stPd pd s) al (stSu st su s) := by
  unfold Ob.raise stSt stPd stSu
  by_cases h9 : s = 9
  · rw [if_pos h9]
    by_cases h1 : st = 1
    · rw [if_pos (show (Ob.proc st pd al su).state = 1 from h1), if_pos ⟨h9, h1⟩, if_pos h9, if_pos ⟨h9, h1⟩]; rfl
    · rw [if_neg (show ¬ (Ob.proc st pd al su).state = 1 from h1), if_neg (fun h => h1 h.2), if_pos h9, if_neg (fun h => h1 h.2)]
  · rw [if_neg h9, if_neg (fun h => h9 h.1), if_neg h9, if_neg (fun h => h9 h.1)]; rfl
/-- A process without lists, like b. -/
structure Plain (a b : Ob) : Prop where
  like : AlikeP a b
  n1 : a.children.n = 0
  n2 : a.code.n = 0
  n3 : a.strs.n = 0
  n4 : a.pages.n = 0
  n5 : a.table.n = 0
theorem Plain.held {a b : Ob} (h : Plain a b) (w : World) (B : Nat) : HoldsP w B a Cont.none := by
  constructor
  · rw [h.n1]; exact Nums.nil
  · rw [h.n2]; exact Inss.nil
  · rw [h.n3]; exact Strs.nil
  · rw [h.n4]; exact Refs.nil
  · rw [h.n5]; exact Slots.nil
theorem Plain.of {w : World} {B : Nat} {a b : Ob} (h : AlikeP a b) (k : HoldsP w B a Cont.none) : Plain a b := ⟨h, k.children.len.symm, k.code.len.symm, k.strs.len.symm, k.pages.len.symm, k.table.len.symm⟩
theorem Plain.proc (st pd al su : Int) : Plain (Ob.proc st pd al su) (Ob.proc st pd al su) := ⟨AlikeP.refl _, rfl, rfl, rfl, rfl, rfl⟩
/-- A plain process and no error. -/
def PlainOk (b : Ob) (w : World) (e : Ending) (w' : World) : Prop := ∃ a, e = .returned (.tuple #[.agg (pcell a), .int .i64 0]) ∧ Plain a b ∧ Below w.heap.size w w'
/-- A number and a plain process. -/
def NumPlain (n : Int) (b : Ob) (w : World) (e : Ending) (w' : World) : Prop := ∃ a, e = .returned (.tuple #[.int .i64 n, .agg (pcell a)]) ∧ Plain a b ∧ Below w.heap.size w w'
theorem sgRaise_plain {a : Ob} {st pd al su s : Int} {w : World} (h : Plain a (Ob.proc st pd al su)) (hs : 1 ≤ s ∧ s ≤ 31) (hst : st = 1 ∨ st = 2) :
    Calls Try.prog 8 #[.agg (pcell a), .int .i64 s] w (PlainOk (Ob.proc (stSt st s) (stPd pd s) al (stSu st su s)) w) := by
  have he : a.raiseErr s = 0 := by rw [h.like.raiseErr s]; unfold Ob.raiseErr; rw [if_pos hs, if_pos (show (Ob.proc st pd al su).state = 1 ∨ (Ob.proc st pd al su).state = 2 from hst)]
  have hc := sgRaise_any a s Cont.none w (h.held _ _) Cont.none_shortP
  rw [he] at hc
  refine hc.mono fun _ _ ⟨y, e, hp, hb⟩ => ⟨y, e, .of ?_ hp.ok.2, hb⟩
  have := hp.ok.1.trans (h.like.raise s)
  rwa [proc_raise] at this
theorem sgTake_plain {a : Ob} {st pd al su : Int} {w : World} (h : Plain a (Ob.proc st pd al su)) : Calls Try.prog 11 #[.agg (pcell a)] w (NumPlain pd (Ob.proc st 0 al su) w) := by
  have hc := sgTake_any a Cont.none w (h.held _ _) Cont.none_shortP
  rw [show a.pending = pd from h.like.pending] at hc
  exact hc.mono fun _ _ ⟨y, e, h1, h2, hb⟩ => ⟨y, e, .of (h1.trans h.like.taken) h2, hb⟩
theorem plain_same {a a' b : Ob} (h : Plain a b) (h' : Plain a' b) (w : World) : Calls Try.prog 10 #[.agg (pcell a), .agg (pcell a')] w (BoolPost true w) :=
  sameProc_p _ _ Cont.none w (h.like.trans h'.like.symm) (h.held _ _) (h'.held _ _) Cont.none_shortP
/-- The cells of a plain process's numbers. -/
theorem Plain.cells {v : World} {a : Ob} {st pd al su : Int} {m : Nat} {t : TypeId} (h : Plain a (Ob.proc st pd al su)) (O : Obl v m t (pcell a)) :
    v.cell? ⟨m, 0, none⟩ = some (.int .i64 st) ∧ v.cell? ⟨m, 17, none⟩ = some (.int .i64 pd) ∧ v.cell? ⟨m, 18, none⟩ = some (.int .i64 al) ∧ v.cell? ⟨m, 19, none⟩ = some (.int .i64 su) := by
  have e0 : a.state = st := h.like.state
  have e1 : a.pending = pd := h.like.pending
  have e2 : a.alarm = al := h.like.alarm
  have e3 : a.status = su := h.like.status
  rw [← e0, ← e1, ← e2, ← e3]
  exact ⟨O.cell 0, O.cell 17, O.cell 18, O.cell 19⟩

set_option maxRecDepth 100000 in
set_option maxHeartbeats 8000000 in
theorem sgSane_any (W : World) : Calls Try.prog 6 #[] W (BoolPost true W) := by
  have HV := hide (show decide (sgValid 16384) = true by decide +kernel)
  have HP := hide (show stPd 0 14 = 16384 by decide +kernel)
  go_enter Try.func6, Try.ntmps6
  try dsimp only [List.append]
  go_wp2_with (first | (refine wpList_val (by rfl) (exec_build (t := 34) (vs := [(0, .int .i64 1)]) rfl rfl (built_proc 1)) ?_) | fail)
  refine (sgRaise_plain (s := 14) (Plain.proc 1 0 0 0) (by decide) (.inl rfl)).mono ?_
  rintro e v1 ⟨xa, rfl, LA, hv1⟩
  have hLa := hide LA
  have HB := hide hv1
  rw [HP.out, show stSt 1 14 = 1 from rfl, show stSu 1 0 14 = 0 from rfl] at hLa
  clear LA hv1
  obtain ⟨a1, hwa0, ab, hma, a2, hwa, OZa, PA, hba2, hsa2⟩ := laid_pp xa v1
  replace HB := hide (HB.out.trans (hba2.mono HB.out.size))
  clear hba2
  go_wp2_with (first | (refine store_proc rfl _ _ rfl rfl (c := xa) rfl OZa rfl ?_; rw [hwa]) | (refine load_proc0 rfl _ rfl rfl PA ?_) | fail)
  clear OZa hwa hwa0 hma hsa2
  refine (sgTake_plain hLa.out).mono ?_
  rintro e v2 ⟨xb, rfl, LB, hv2⟩
  have hLb := hide LB
  replace HB := hide (HB.out.trans (hv2.mono HB.out.size))
  replace PA := PA.below hv2 PA.lt
  clear LB hv2
  obtain ⟨b1, hwb0, bb, hmb, b2, hwb, OZb, PB, hbb2, hsb2⟩ := laid_pp xb v2
  replace HB := hide (HB.out.trans (hbb2.mono HB.out.size))
  replace PA := PA.below hbb2 PA.lt
  clear hbb2
  go_wp2_with (first | (refine store_proc rfl _ _ rfl rfl (c := xb) rfl OZb rfl ?_; rw [hwb]) | (refine load_proc0 rfl _ rfl rfl PA ?_) | fail)
  clear OZb hwb hwb0 hmb hsb2
  refine (sgRaise_plain (s := 9) hLa.out (by decide) (.inl rfl)).mono ?_
  rintro e v3 ⟨xc, rfl, LC, hv3⟩
  have hLc := hide LC
  replace HB := hide (HB.out.trans (hv3.mono HB.out.size))
  rw [show stPd 16384 9 = 16384 from rfl, show stSt 1 9 = 2 from rfl, show stSu 1 0 9 = -9 from rfl] at hLc
  replace PA := PA.below hv3 PA.lt
  replace PB := PB.below hv3 PB.lt
  clear LC hv3
  obtain ⟨c1, hwc0, cb, hmc, c2, hwc, OZc, PC, hbc2, hsc2⟩ := laid_pp xc v3
  replace HB := hide (HB.out.trans (hbc2.mono HB.out.size))
  replace PA := PA.below hbc2 PA.lt
  replace PB := PB.below hbc2 PB.lt
  clear hbc2
  obtain ⟨ka, kb, _, kd⟩ := hLa.out.cells PA
  obtain ⟨la, lb, _, ld⟩ := hLb.out.cells PB
  obtain ⟨na, nb, _, nd⟩ := hLc.out.cells PC
  go_wp2_with (first | (refine store_proc rfl _ _ rfl rfl (c := xc) rfl OZc rfl ?_; rw [hwc]) | (go_at_call 13; refine (sgValid_any _ _).mono ?_; rintro e z1 ⟨rfl, hz1⟩; rw [HV.out]) | fail)
  go_ret
  exact ⟨rfl, HB.out.trans (hz1.mono HB.out.size)⟩
end Go.Proofs.Ytjdbljbghpmacaa
