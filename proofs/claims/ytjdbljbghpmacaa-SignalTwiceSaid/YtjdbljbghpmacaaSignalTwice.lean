/- Layer 14: raising twice, in any order, and taking (SignalTwice): the walk. (Written by tools/mksgtwice.py.) -/
import Derived.Test.YtjdbljbghpmacaaSgLaw
namespace Go.Proofs.Ytjdbljbghpmacaa
open Go.RowKit

def bitOf (s : Int) : Int := if s = 9 then 0 else 1
def exact_bool (b : Bool) (w : World) (e : Ending) (w' : World) : Prop := e = .returned (.bool b) ∧ w' = w
def exact_int (n : Int) (w : World) (e : Ending) (w' : World) : Prop := e = .returned (.int .i64 n) ∧ w' = w
set_option maxRecDepth 100000 in
theorem sgBit_same (s : Int) (w : World) : Calls Try.prog 15 #[.int .i64 s] w (exact_int (bitOf s) w) := by
  by_cases h : s = 9
  · have HE : Hid (bitOf s = 0) := hide (by unfold bitOf; rw [if_pos h])
    subst h
    go_enter Try.func15, Try.ntmps15
    go_wp2_with fail
    go_ret
    exact ⟨by rw [HE.out]; rfl, rfl⟩
  · have HE : Hid (bitOf s = 1) := hide (by unfold bitOf; rw [if_neg h])
    have b9 : (s == 9) = false := by simpa using h
    clear h
    go_enter Try.func15, Try.ntmps15
    go_wp2_with fail
    go_ret
    exact ⟨by rw [HE.out]; rfl, rfl⟩
set_option maxRecDepth 100000 in
theorem sgValid_same (p : Int) (W : World) : Calls Try.prog 13 #[.int .i64 p] W (exact_bool (decide (sgValid p)) W) := by
  go_enter Try.func13, Try.ntmps13
  go_wp2_with fail
  go_ret
  exact ⟨rfl, rfl⟩
/-- What is so for any two signals. -/
def TwiceOk (s t : Int) : Prop :=
  (stSt (stSt 1 s) s = stSt 1 s ∧ stPd (stPd 0 s) s = stPd 0 s ∧ stSu (stSt 1 s) (stSu 1 0 s) s = stSu 1 0 s) ∧
  (stSt (stSt 1 t) s = stSt (stSt 1 s) t ∧ stPd (stPd 0 t) s = stPd (stPd 0 s) t ∧ stSu (stSt 1 t) (stSu 1 0 t) s = stSu (stSt 1 s) (stSu 1 0 s) t) ∧
  bits .and .i64 (stPd (stPd 0 s) t / 2 ^ s.toNat) 1 = bitOf s ∧ bits .and .i64 (stPd (stPd 0 s) t / 2 ^ t.toNat) 1 = bitOf t ∧ sgValid (stPd (stPd 0 s) t) ∧ (stSt (stSt 1 s) t == 2) = ((s == 9) || (t == 9))
instance (s t : Int) : Decidable (TwiceOk s t) := by unfold TwiceOk; infer_instance
set_option maxRecDepth 100000 in
theorem twice_all : ∀ a b : Fin 31, TwiceOk (1 + (a.val : Int)) (1 + (b.val : Int)) := by decide +kernel
theorem twice_ok {s t : Int} (hs : 1 ≤ s ∧ s ≤ 31) (ht : 1 ≤ t ∧ t ≤ 31) : TwiceOk s t := by
  have h := twice_all ⟨(s - 1).toNat, by omega⟩ ⟨(t - 1).toNat, by omega⟩
  have e1 : 1 + (((s - 1).toNat : Nat) : Int) = s := by omega
  have e2 : 1 + (((t - 1).toNat : Nat) : Int) = t := by omega
  simp only [e1, e2] at h
  exact h
theorem stSt_12 {st s : Int} (h : st = 1 ∨ st = 2) : stSt st s = 1 ∨ stSt st s = 2 := by unfold stSt; split <;> omega

set_option maxRecDepth 100000 in
set_option maxHeartbeats 8000000 in
theorem signalTwice_any (a b : Nat) (ha : a < 256) (hb : b < 256) (W : World) : Calls Try.prog 4 #[.int .u8 (a : Int), .int .u8 (b : Int)] W (BoolPost true W) := by
  obtain ⟨s, hs⟩ : ∃ s, (1 : Int) + (a : Int) % 31 = s := ⟨_, rfl⟩
  obtain ⟨t, ht⟩ : ∃ t, (1 : Int) + (b : Int) % 31 = t := ⟨_, rfl⟩
  have hs1 : 1 ≤ s ∧ s ≤ 31 := by omega
  have ht1 : 1 ≤ t ∧ t ≤ 31 := by omega
  have HS1 := hide hs1
  have HT1 := hide ht1
  have HF := hide (twice_ok hs1 ht1)
  clear hs1 ht1
  go_enter Try.func4, Try.ntmps4
  try dsimp only [List.append]
  go_wp2_with fail
  refine (sgSane_any _).mono ?_
  rintro e w1 ⟨rfl, hb1⟩
  have HB := hide hb1
  clear hb1
  obtain ⟨p1, hwp0, pb, hmp, p2, hwp, OZp, PP, hbp2, hsp2⟩ := laid_pp (Ob.proc 1 0 0 0) w1
  replace HB := hide (HB.out.trans (hbp2.mono HB.out.size))
  have hLp := hide (Plain.proc 1 0 0 0)
  clear hbp2
  go_wp2_with (first | (refine wpList_val (by rfl) (exec_build (t := 34) (vs := [(0, .int .i64 1)]) rfl rfl (built_proc 1)) ?_) | (refine store_proc rfl _ _ rfl rfl (c := Ob.proc 1 0 0 0) rfl OZp rfl ?_; rw [hwp]) | (refine load_proc0 rfl _ rfl rfl PP ?_) | fail)
  clear OZp hwp hwp0 hmp hsp2
  clear hs ht ha hb
  refine (sgRaise_plain hLp.out HS1.out (.inl rfl)).mono ?_
  rintro e vx ⟨xx, rfl, LX, hvx⟩
  have hLx := hide LX
  replace HB := hide (HB.out.trans (hvx.mono HB.out.size))
  replace PP := PP.below hvx PP.lt
  clear LX hvx
  obtain ⟨x1, hwx0, xb, hmx, x2, hwx, OZx, PX, hbx2, hsx2⟩ := laid_pp xx vx
  replace HB := hide (HB.out.trans (hbx2.mono HB.out.size))
  replace PP := PP.below hbx2 PP.lt
  clear hbx2
  go_wp2_with (first | (refine store_proc rfl _ _ rfl rfl (c := xx) rfl OZx rfl ?_; rw [hwx]) | (refine load_proc0 rfl _ rfl rfl PX ?_) | fail)
  clear OZx hwx hwx0 hmx hsx2
  refine (sgRaise_plain hLx.out HS1.out (stSt_12 (.inl rfl))).mono ?_
  rintro e vy ⟨xy, rfl, LY, hvy⟩
  have hLy := hide LY
  replace HB := hide (HB.out.trans (hvy.mono HB.out.size))
  replace PP := PP.below hvy PP.lt
  replace PX := PX.below hvy PX.lt
  clear LY hvy
  obtain ⟨y1, hwy0, yb, hmy, y2, hwy, OZy, PY, hby2, hsy2⟩ := laid_pp xy vy
  replace HB := hide (HB.out.trans (hby2.mono HB.out.size))
  replace PP := PP.below hby2 PP.lt
  replace PX := PX.below hby2 PX.lt
  clear hby2
  go_wp2_with (first | (refine store_proc rfl _ _ rfl rfl (c := xy) rfl OZy rfl ?_; rw [hwy]) | (refine load_proc0 rfl _ rfl rfl PX ?_) | fail)
  clear OZy hwy hwy0 hmy hsy2
  refine (sgRaise_plain hLx.out HT1.out (stSt_12 (.inl rfl))).mono ?_
  rintro e vu ⟨xu, rfl, LU, hvu⟩
  have hLu := hide LU
  replace HB := hide (HB.out.trans (hvu.mono HB.out.size))
  replace PP := PP.below hvu PP.lt
  replace PX := PX.below hvu PX.lt
  replace PY := PY.below hvu PY.lt
  clear LU hvu
  obtain ⟨u1, hwu0, ub, hmu, u2, hwu, OZu, PU, hbu2, hsu2⟩ := laid_pp xu vu
  replace HB := hide (HB.out.trans (hbu2.mono HB.out.size))
  replace PP := PP.below hbu2 PP.lt
  replace PX := PX.below hbu2 PX.lt
  replace PY := PY.below hbu2 PY.lt
  clear hbu2
  go_wp2_with (first | (refine store_proc rfl _ _ rfl rfl (c := xu) rfl OZu rfl ?_; rw [hwu]) | (refine load_proc0 rfl _ rfl rfl PP ?_) | fail)
  clear OZu hwu hwu0 hmu hsu2
  refine (sgRaise_plain hLp.out HT1.out (.inl rfl)).mono ?_
  rintro e vv ⟨xv, rfl, LV, hvv⟩
  have hLv := hide LV
  replace HB := hide (HB.out.trans (hvv.mono HB.out.size))
  replace PP := PP.below hvv PP.lt
  replace PX := PX.below hvv PX.lt
  replace PY := PY.below hvv PY.lt
  replace PU := PU.below hvv PU.lt
  clear LV hvv
  obtain ⟨v1, hwv0, vb, hmv, v2, hwv, OZv, PV, hbv2, hsv2⟩ := laid_pp xv vv
  replace HB := hide (HB.out.trans (hbv2.mono HB.out.size))
  replace PP := PP.below hbv2 PP.lt
  replace PX := PX.below hbv2 PX.lt
  replace PY := PY.below hbv2 PY.lt
  replace PU := PU.below hbv2 PU.lt
  clear hbv2
  go_wp2_with (first | (refine store_proc rfl _ _ rfl rfl (c := xv) rfl OZv rfl ?_; rw [hwv]) | (refine load_proc0 rfl _ rfl rfl PV ?_) | fail)
  clear OZv hwv hwv0 hmv hsv2
  refine (sgRaise_plain hLv.out HS1.out (stSt_12 (.inl rfl))).mono ?_
  rintro e vw ⟨xw, rfl, LW, hvw⟩
  have hLw := hide LW
  replace HB := hide (HB.out.trans (hvw.mono HB.out.size))
  replace PP := PP.below hvw PP.lt
  replace PX := PX.below hvw PX.lt
  replace PY := PY.below hvw PY.lt
  replace PU := PU.below hvw PU.lt
  replace PV := PV.below hvw PV.lt
  clear LW hvw
  obtain ⟨w1, hww0, wb, hmw, w2, hww, OZw, PW, hbw2, hsw2⟩ := laid_pp xw vw
  replace HB := hide (HB.out.trans (hbw2.mono HB.out.size))
  replace PP := PP.below hbw2 PP.lt
  replace PX := PX.below hbw2 PX.lt
  replace PY := PY.below hbw2 PY.lt
  replace PU := PU.below hbw2 PU.lt
  replace PV := PV.below hbw2 PV.lt
  clear hbw2
  go_wp2_with (first | (refine store_proc rfl _ _ rfl rfl (c := xw) rfl OZw rfl ?_; rw [hww]) | (refine load_proc0 rfl _ rfl rfl PU ?_) | fail)
  clear OZw hww hww0 hmw hsw2
  refine (sgTake_plain hLu.out).mono ?_
  rintro e vz ⟨xz, rfl, LZ, hvz⟩
  have hLz := hide LZ
  replace HB := hide (HB.out.trans (hvz.mono HB.out.size))
  replace PP := PP.below hvz PP.lt
  replace PX := PX.below hvz PX.lt
  replace PY := PY.below hvz PY.lt
  replace PU := PU.below hvz PU.lt
  replace PV := PV.below hvz PV.lt
  replace PW := PW.below hvz PW.lt
  clear LZ hvz
  obtain ⟨z1, hwz0, zb, hmz, z2, hwz, OZz, PZ, hbz2, hsz2⟩ := laid_pp xz vz
  replace HB := hide (HB.out.trans (hbz2.mono HB.out.size))
  replace PP := PP.below hbz2 PP.lt
  replace PX := PX.below hbz2 PX.lt
  replace PY := PY.below hbz2 PY.lt
  replace PU := PU.below hbz2 PU.lt
  replace PV := PV.below hbz2 PV.lt
  replace PW := PW.below hbz2 PW.lt
  clear hbz2
  go_wp2_with (first | (refine store_proc rfl _ _ rfl rfl (c := xz) rfl OZz rfl ?_; rw [hwz]) | (refine load_proc0 rfl _ rfl rfl PZ ?_) | fail)
  clear OZz hwz hwz0 hmz hsz2
  refine (sgTake_plain hLz.out).mono ?_
  rintro e vm ⟨xm, rfl, LM, hvm⟩
  have hLm := hide LM
  replace HB := hide (HB.out.trans (hvm.mono HB.out.size))
  replace PP := PP.below hvm PP.lt
  replace PX := PX.below hvm PX.lt
  replace PY := PY.below hvm PY.lt
  replace PU := PU.below hvm PU.lt
  replace PV := PV.below hvm PV.lt
  replace PW := PW.below hvm PW.lt
  replace PZ := PZ.below hvm PZ.lt
  clear LM hvm
  obtain ⟨m1, hwm0, mb, hmm, m2, hwm, OZm, PM, hbm2, hsm2⟩ := laid_pp xm vm
  replace HB := hide (HB.out.trans (hbm2.mono HB.out.size))
  replace PP := PP.below hbm2 PP.lt
  replace PX := PX.below hbm2 PX.lt
  replace PY := PY.below hbm2 PY.lt
  replace PU := PU.below hbm2 PU.lt
  replace PV := PV.below hbm2 PV.lt
  replace PW := PW.below hbm2 PW.lt
  replace PZ := PZ.below hbm2 PZ.lt
  clear hbm2
  have hLy' := hLy.out
  have hLw' := hLw.out
  rw [HF.out.1.1, HF.out.1.2.1, HF.out.1.2.2] at hLy'
  rw [HF.out.2.1.1, HF.out.2.1.2.1, HF.out.2.1.2.2] at hLw'
  replace hLy := hide hLy'
  replace hLw := hide hLw'
  clear hLy' hLw'
  go_upto_region 12 with (first | (refine store_proc rfl _ _ rfl rfl (c := xm) rfl OZm rfl ?_; rw [hwm]) | fail)
  clear OZm hwm hwm0 hmm hsm2
  refine wp_region_lit ?_
  refine wpList_val (by rfl) (by go_simp; try with_reducible rfl) ?_
  refine wpList_val (by rfl) (by go_simp; try with_reducible rfl) ?_
  go_simp
  refine wpList_val (by rfl) (by go_simp; try with_reducible rfl) ?_
  refine wpList_val (by kernel_rfl) (by go_simp; try with_reducible rfl) ?_
  refine wpList_val (by kernel_rfl) (by go_simp; try with_reducible rfl) ?_
  go_simp
  refine wpList_val (by rfl) (by go_simp; try with_reducible rfl) ?_
  go_simp
  refine wpList_val (by rfl) (by go_simp; try with_reducible rfl) ?_
  refine wpList_val (by kernel_rfl) (by go_simp; try with_reducible rfl) ?_
  refine wpList_val (by kernel_rfl) (by go_simp; try with_reducible rfl) ?_
  go_simp
  refine wpList_val (by rfl) (by go_simp; try with_reducible rfl) ?_
  go_simp
  refine wpList_val (by rfl) (by go_simp; try with_reducible rfl) ?_
  refine wpList_val (by kernel_rfl) (by go_simp; try with_reducible rfl) ?_
  refine wpList_val (by kernel_rfl) (by go_simp; try with_reducible rfl) ?_
  go_simp
  refine wpList_val (by rfl) (by go_simp; try with_reducible rfl) ?_
  go_simp
  refine wpList_val (by rfl) (by go_simp; try with_reducible rfl) ?_
  refine wpList_val (by kernel_rfl) (by go_simp; try with_reducible rfl) ?_
  refine wpList_val (by kernel_rfl) (by go_simp; try with_reducible rfl) ?_
  go_simp
  refine wpList_val (by rfl) (by go_simp; try with_reducible rfl) ?_
  go_simp
  refine wpList_val (by rfl) (by go_simp; try with_reducible rfl) ?_
  refine wpList_val (by kernel_rfl) (by exact exec_load_proc0 rfl rfl PX) ?_
  refine wpList_val (by kernel_rfl) (by exact exec_load_proc0 rfl rfl PY) ?_
  go_simp
  refine wpList_met (by kernel_rfl) fun K hK => ?_
  go_simp
  refine (plain_same hLx.out hLy.out _).mono ?_
  rintro e z1 ⟨rfl, hz1⟩
  refine hK _ _ ?_
  clear hK K
  replace PU := PU.below hz1 PU.lt
  replace PW := PW.below hz1 PW.lt
  replace HB := hide (HB.out.trans (hz1.mono HB.out.size))
  clear hz1
  go_simp
  refine wpList_val (by kernel_rfl) (by go_simp; try with_reducible rfl) ?_
  refine wpList_val (by rfl) (by go_simp; try with_reducible rfl) ?_
  go_simp
  refine wpList_val (by rfl) (by go_simp; try with_reducible rfl) ?_
  refine wpList_val (by kernel_rfl) (by exact exec_load_proc0 rfl rfl PU) ?_
  refine wpList_val (by kernel_rfl) (by exact exec_load_proc0 rfl rfl PW) ?_
  go_simp
  refine wpList_met (by kernel_rfl) fun K hK => ?_
  go_simp
  refine (plain_same hLu.out hLw.out _).mono ?_
  rintro e z2 ⟨rfl, hz2⟩
  refine hK _ _ ?_
  clear hK K
  replace PU := PU.below hz2 PU.lt
  replace HB := hide (HB.out.trans (hz2.mono HB.out.size))
  clear hz2
  go_simp
  refine wpList_val (by kernel_rfl) (by go_simp; try with_reducible rfl) ?_
  refine wpList_val (by rfl) (by go_simp; try with_reducible rfl) ?_
  go_simp
  refine wpList_val (by rfl) (by go_simp; try with_reducible rfl) ?_
  refine wpList_val (by kernel_rfl) (by go_simp; try with_reducible rfl) ?_
  refine wpList_val (by kernel_rfl) (by go_simp; try with_reducible rfl) ?_
  go_simp
  refine wpList_val (by rfl) (by go_simp; try with_reducible rfl) ?_
  go_simp
  refine wpList_nil ?_
  go_simp
  obtain ⟨c0, _, _, _⟩ := hLu.out.cells PU
  obtain ⟨_, _, f3, f4, f5, f6⟩ := HF.out
  obtain ⟨st, hst⟩ : ∃ st, stSt (stSt 1 s) t = st := ⟨_, rfl⟩
  obtain ⟨pd, hpd⟩ : ∃ pd, stPd (stPd 0 s) t = pd := ⟨_, rfl⟩
  rw [hst] at c0 f6
  rw [hpd] at f3 f4 f5 ⊢
  have hV := decide_eq_true f5
  have HV := hide hV
  obtain ⟨bs, hbs⟩ : ∃ b, bitOf s = b := ⟨_, rfl⟩
  obtain ⟨bt, hbt⟩ : ∃ b, bitOf t = b := ⟨_, rfl⟩
  have HBS := hide hbs
  have HBT := hide hbt
  rw [hbs] at f3
  rw [hbt] at f4
  obtain ⟨hs1, hs31⟩ := HS1.out
  obtain ⟨ht1, ht31⟩ := HT1.out
  have hlu := PU.lt
  clear hst hpd f5 hV hbs hbt PX PY PW PP PV PZ PM
  go_upto_region 14 with fail
  cases h9 : (s == 9) with
  | true =>
    replace f6 : (st == 2) = true := by rw [f6, h9]; rfl
    refine region_B (by kernel_rfl) z2.heap.size ?_
    refine takeB 0 rfl (by kernel_rfl) (fun _ _ _ h => h) (by rfl) (by intro w' hg; go_simp; try with_reducible rfl) ?_
    refine takeB 1 rfl (by kernel_rfl) (fun _ _ _ h => h) (by rfl) (by intro w' hg; go_simp; try with_reducible rfl) ?_
    refine takeB 2 rfl (by kernel_rfl) (fun _ _ _ h => h) (by rfl) (by intro w' hg; go_simp; try with_reducible rfl) ?_
    go_simp
    refine takeB 3 rfl (by kernel_rfl) (fun _ _ _ h => h) (by rfl) (by intro w' hg; go_simp; try with_reducible rfl) ?_
    go_simp
    refine takeB 4 rfl (by kernel_rfl) (fun _ _ _ h => h) (by rfl) (by intro w' hg; go_simp; try with_reducible rfl) ?_
    go_simp
    refine onlyB 5 rfl (by kernel_rfl) (by rfl) ?_
    intro K hK
    go_simp
    refine (sgBit_same s _).mono ?_
    rintro e y1 ⟨rfl, rfl⟩
    rw [HBS.out]
    refine hK _ _ (Below.refl _ _) ?_
    clear hK K
    go_simp
    refine takeB 6 rfl (by kernel_rfl) (fun _ _ _ h => h) (by rfl) (by intro w' hg; go_simp; try with_reducible rfl) ?_
    go_simp
    refine takeB 7 rfl (by kernel_rfl) (fun _ _ _ h => h) (by rfl) (by intro w' hg; go_simp; try with_reducible rfl) ?_
    refine takeB 8 rfl (by kernel_rfl) (fun _ _ _ h => h) (by kernel_rfl) (by intro w' hg; go_simp; try with_reducible rfl) ?_
    refine takeB 9 rfl (by kernel_rfl) (fun _ _ _ h => h) (by kernel_rfl) (by intro w' hg; go_simp; try with_reducible rfl) ?_
    refine takeB 10 rfl (by kernel_rfl) (fun _ _ _ h => h) (by kernel_rfl) (by intro w' hg; go_simp; try with_reducible rfl) ?_
    go_simp
    refine takeB 11 rfl (by kernel_rfl) (fun _ _ _ h => h) (by kernel_rfl) (by intro w' hg; go_simp; try with_reducible rfl) ?_
    go_simp
    refine takeB 12 rfl (by kernel_rfl) (fun _ _ _ h => h) (by kernel_rfl) (by intro w' hg; go_simp; try with_reducible rfl) ?_
    go_simp
    refine onlyB 13 rfl (by kernel_rfl) (by kernel_rfl) ?_
    intro K hK
    go_simp
    refine (sgBit_same t _).mono ?_
    rintro e y2 ⟨rfl, rfl⟩
    rw [HBT.out]
    refine hK _ _ (Below.refl _ _) ?_
    clear hK K
    go_simp
    refine takeB 14 rfl (by kernel_rfl) (fun _ _ _ h => h) (by kernel_rfl) (by intro w' hg; go_simp; try with_reducible rfl) ?_
    go_simp
    refine takeB 15 rfl (by kernel_rfl) (fun _ _ _ h => h) (by rfl) (by intro w' hg; go_simp; try with_reducible rfl) ?_
    go_simp
    refine takeB 16 rfl (by kernel_rfl) (fun _ _ _ h => h) (by rfl) (by intro w' hg; go_simp; try with_reducible rfl) ?_
    refine takeB 17 rfl (by kernel_rfl) (fun _ _ _ h => h) (by kernel_rfl) (by intro w' hg; go_simp; try with_reducible rfl) ?_
    go_simp
    refine onlyB 18 rfl (by kernel_rfl) (by kernel_rfl) ?_
    intro K hK
    go_simp
    refine (sgValid_same pd _).mono ?_
    rintro e y3 ⟨rfl, rfl⟩
    rw [HV.out]
    refine hK _ _ (Below.refl _ _) ?_
    clear hK K
    go_simp
    refine takeB 19 rfl (by kernel_rfl) (fun _ _ _ h => h) (by rfl) (by intro w' hg; go_simp; try with_reducible rfl) ?_
    go_simp
    refine takeB 20 rfl (by kernel_rfl) (fun _ _ _ h => h) (by rfl) (by intro w' hg; go_simp; try with_reducible rfl) ?_
    refine takeB 21 rfl (by kernel_rfl) (fun _ _ _ h => h) (by kernel_rfl) (by intro w' hg; go_simp; try with_reducible rfl) ?_
    refine takeB 22 rfl (by kernel_rfl) (fun _ _ _ h => h) (by kernel_rfl) (by intro w' hg; have g0 := (hg.cell (p := ⟨ub, 0, none⟩) hlu).trans (show z2.drew.cell? _ = _ from c0); go_simp; try with_reducible rfl) ?_
    refine takeB 23 rfl (by kernel_rfl) (fun _ _ _ h => h) (by kernel_rfl) (by intro w' hg; go_simp; try with_reducible rfl) ?_
    go_simp
    refine takeB 24 rfl (by kernel_rfl) (fun _ _ _ h => h) (by kernel_rfl) (by intro w' hg; go_simp; try with_reducible rfl) ?_
    refine takeB 25 rfl (by kernel_rfl) (fun _ _ _ h => h) (by kernel_rfl) (by intro w' hg; go_simp; try with_reducible rfl) ?_
    go_simp
    refine takeB 26 rfl (by kernel_rfl) (fun _ _ _ h => h) (by kernel_rfl) (by intro w' hg; go_simp; try with_reducible rfl) ?_
    refine skipB 27 rfl (by kernel_rfl) (fun _ _ _ h => h) (by kernel_rfl) ?_
    refine skipB 28 rfl (by kernel_rfl) (fun _ _ _ h => h) (by kernel_rfl) ?_
    refine takeB 29 rfl (by kernel_rfl) (fun _ _ _ h => h) (by kernel_rfl) (by intro w' hg; go_simp; try with_reducible rfl) ?_
    go_simp
    refine takeB 30 rfl (by kernel_rfl) (fun _ _ _ h => h) (by kernel_rfl) (by intro w' hg; go_simp; try with_reducible rfl) ?_
    go_simp
    refine takeB 31 rfl (by kernel_rfl) (fun _ _ _ h => h) (by rfl) (by intro w' hg; go_simp; try with_reducible rfl) ?_
    go_simp
    refine takeB 32 rfl (by kernel_rfl) (fun _ _ _ h => h) (by rfl) (by intro w' hg; go_simp; try with_reducible rfl) ?_
    refine doneB (by kernel_rfl) ?_
    go_simp
    go_wp2_with fail
    go_ret
    exact ⟨rfl, HB.out.drew⟩
  | false =>
    replace f6 : (st == 2) = (t == 9) := by rw [f6, h9]; rfl
    obtain ⟨t9, ht9⟩ : ∃ b, (t == 9) = b := ⟨_, rfl⟩
    rw [ht9] at f6
    refine region_B (by kernel_rfl) z2.heap.size ?_
    refine takeB 0 rfl (by kernel_rfl) (fun _ _ _ h => h) (by rfl) (by intro w' hg; go_simp; try with_reducible rfl) ?_
    refine takeB 1 rfl (by kernel_rfl) (fun _ _ _ h => h) (by rfl) (by intro w' hg; go_simp; try with_reducible rfl) ?_
    refine takeB 2 rfl (by kernel_rfl) (fun _ _ _ h => h) (by rfl) (by intro w' hg; go_simp; try with_reducible rfl) ?_
    go_simp
    refine takeB 3 rfl (by kernel_rfl) (fun _ _ _ h => h) (by rfl) (by intro w' hg; go_simp; try with_reducible rfl) ?_
    go_simp
    refine takeB 4 rfl (by kernel_rfl) (fun _ _ _ h => h) (by rfl) (by intro w' hg; go_simp; try with_reducible rfl) ?_
    go_simp
    refine onlyB 5 rfl (by kernel_rfl) (by rfl) ?_
    intro K hK
    go_simp
    refine (sgBit_same s _).mono ?_
    rintro e y1 ⟨rfl, rfl⟩
    rw [HBS.out]
    refine hK _ _ (Below.refl _ _) ?_
    clear hK K
    go_simp
    refine takeB 6 rfl (by kernel_rfl) (fun _ _ _ h => h) (by rfl) (by intro w' hg; go_simp; try with_reducible rfl) ?_
    go_simp
    refine takeB 7 rfl (by kernel_rfl) (fun _ _ _ h => h) (by rfl) (by intro w' hg; go_simp; try with_reducible rfl) ?_
    refine takeB 8 rfl (by kernel_rfl) (fun _ _ _ h => h) (by kernel_rfl) (by intro w' hg; go_simp; try with_reducible rfl) ?_
    refine takeB 9 rfl (by kernel_rfl) (fun _ _ _ h => h) (by kernel_rfl) (by intro w' hg; go_simp; try with_reducible rfl) ?_
    refine takeB 10 rfl (by kernel_rfl) (fun _ _ _ h => h) (by kernel_rfl) (by intro w' hg; go_simp; try with_reducible rfl) ?_
    go_simp
    refine takeB 11 rfl (by kernel_rfl) (fun _ _ _ h => h) (by kernel_rfl) (by intro w' hg; go_simp; try with_reducible rfl) ?_
    go_simp
    refine takeB 12 rfl (by kernel_rfl) (fun _ _ _ h => h) (by kernel_rfl) (by intro w' hg; go_simp; try with_reducible rfl) ?_
    go_simp
    refine onlyB 13 rfl (by kernel_rfl) (by kernel_rfl) ?_
    intro K hK
    go_simp
    refine (sgBit_same t _).mono ?_
    rintro e y2 ⟨rfl, rfl⟩
    rw [HBT.out]
    refine hK _ _ (Below.refl _ _) ?_
    clear hK K
    go_simp
    refine takeB 14 rfl (by kernel_rfl) (fun _ _ _ h => h) (by kernel_rfl) (by intro w' hg; go_simp; try with_reducible rfl) ?_
    go_simp
    refine takeB 15 rfl (by kernel_rfl) (fun _ _ _ h => h) (by rfl) (by intro w' hg; go_simp; try with_reducible rfl) ?_
    go_simp
    refine takeB 16 rfl (by kernel_rfl) (fun _ _ _ h => h) (by rfl) (by intro w' hg; go_simp; try with_reducible rfl) ?_
    refine takeB 17 rfl (by kernel_rfl) (fun _ _ _ h => h) (by kernel_rfl) (by intro w' hg; go_simp; try with_reducible rfl) ?_
    go_simp
    refine onlyB 18 rfl (by kernel_rfl) (by kernel_rfl) ?_
    intro K hK
    go_simp
    refine (sgValid_same pd _).mono ?_
    rintro e y3 ⟨rfl, rfl⟩
    rw [HV.out]
    refine hK _ _ (Below.refl _ _) ?_
    clear hK K
    go_simp
    refine takeB 19 rfl (by kernel_rfl) (fun _ _ _ h => h) (by rfl) (by intro w' hg; go_simp; try with_reducible rfl) ?_
    go_simp
    refine takeB 20 rfl (by kernel_rfl) (fun _ _ _ h => h) (by rfl) (by intro w' hg; go_simp; try with_reducible rfl) ?_
    refine takeB 21 rfl (by kernel_rfl) (fun _ _ _ h => h) (by kernel_rfl) (by intro w' hg; go_simp; try with_reducible rfl) ?_
    refine takeB 22 rfl (by kernel_rfl) (fun _ _ _ h => h) (by kernel_rfl) (by intro w' hg; have g0 := (hg.cell (p := ⟨ub, 0, none⟩) hlu).trans (show z2.drew.cell? _ = _ from c0); go_simp; try with_reducible rfl) ?_
    refine takeB 23 rfl (by kernel_rfl) (fun _ _ _ h => h) (by kernel_rfl) (by intro w' hg; go_simp; try with_reducible rfl) ?_
    go_simp
    refine takeB 24 rfl (by kernel_rfl) (fun _ _ _ h => h) (by kernel_rfl) (by intro w' hg; go_simp; try with_reducible rfl) ?_
    refine takeB 25 rfl (by kernel_rfl) (fun _ _ _ h => h) (by kernel_rfl) (by intro w' hg; go_simp; try with_reducible rfl) ?_
    go_simp
    refine takeB 26 rfl (by kernel_rfl) (fun _ _ _ h => h) (by kernel_rfl) (by intro w' hg; go_simp; try with_reducible rfl) ?_
    refine takeB 27 rfl (by kernel_rfl) (fun _ _ _ h => h) (by kernel_rfl) (by intro w' hg; go_simp; try with_reducible rfl) ?_
    refine takeB 28 rfl (by kernel_rfl) (fun _ _ _ h => h) (by kernel_rfl) (by intro w' hg; go_simp; try with_reducible rfl) ?_
    go_simp
    refine takeB 29 rfl (by kernel_rfl) (fun _ _ _ h => h) (by kernel_rfl) (by intro w' hg; go_simp; try with_reducible rfl) ?_
    go_simp
    refine takeB 30 rfl (by kernel_rfl) (fun _ _ _ h => h) (by kernel_rfl) (by intro w' hg; go_simp; try with_reducible rfl) ?_
    go_simp
    refine takeB 31 rfl (by kernel_rfl) (fun _ _ _ h => h) (by rfl) (by intro w' hg; go_simp; try with_reducible rfl) ?_
    go_simp
    refine takeB 32 rfl (by kernel_rfl) (fun _ _ _ h => h) (by rfl) (by intro w' hg; go_simp; try with_reducible rfl) ?_
    refine doneB (by kernel_rfl) ?_
    go_simp
    go_wp2_with fail
    go_ret
    exact ⟨rfl, HB.out.drew⟩
end Go.Proofs.Ytjdbljbghpmacaa
