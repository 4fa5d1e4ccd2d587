/- Layer 15: setting an alarm and ticks as the reference has them (AlarmMoves): the walk. (Written by tools/mkalmoves.py.) -/
import Derived.Test.YthaolmcppfjedaaAlarmMovesM
namespace Go.Proofs.Ythaolmcppfjedaa
open Go.RowKit

set_option maxRecDepth 100000 in
set_option maxHeartbeats 16000000 in
theorem alarmMoves_any (o : Ob) (X : Cont) (tk nn : Int) (t l : Nat) (ht : t < 256) (hl : l < 256) (ha : -9223372036854775808 ≤ o.alarm ∧ o.alarm ≤ 9223372036854775807) (W : World) (h : HoldsP W W.heap.size o X) (hf : Fits o.only [] X.strs) :
    Calls Try.prog 3 #[.agg (pcell o), .int .i64 tk, .int .i64 nn, .int .u8 (t : Int), .int .u8 (l : Int)] W (BoolPost true W) := by
  obtain ⟨w0, hw, O, hb, hs⟩ : ∃ w0, W.alloc (.cells (pcell o) 34) = w0 ∧ Obl w0 W.heap.size 34 (pcell o) ∧ Below W.heap.size W w0 ∧ w0.heap.size = W.heap.size + 1 :=
    ⟨_, rfl, Obl.make W _ _, (Below.refl _ _).alloc (Nat.le_refl _) _, by simp⟩
  obtain ⟨st, hst⟩ : ∃ st, (1 : Int) + (t : Int) % 3 = st := ⟨_, rfl⟩
  have H0 := hide h
  have HF := hide hf
  have HA0 := hide ha
  have HL0 : Hid (-9223372036854775808 ≤ (l : Int) ∧ (l : Int) ≤ 9223372036854775807) := hide (by omega)
  have HB := hide hb
  clear h hf hb hs ha
  go_enter Try.func3, Try.ntmps3
  try dsimp only [List.append]
  go_wp2_with fail
  refine (alSane_any _).mono ?_
  rintro e w1 ⟨rfl, hb1⟩
  replace O := O.below hb1 O.lt
  replace HB := hide (HB.out.trans (hb1.mono HB.out.size))
  clear hb1 hw
  go_wp2_with (first | (refine load_proc0 rfl _ rfl rfl O ?_) | (refine wpList_val (by rfl) (exec_build (t := 43) (vs := [(3, .agg (pcell o))]) rfl (by go_simp) (built_obproc o)) ?_) | fail)
  refine (keepob_kept o.only [] X.strs _ Nms.nil ((H0.out.strs.below HB.out).mono HB.out.size) HF.out).mono ?_
  rintro e w2 ⟨bv, rfl, hkept, hb2⟩
  replace O := O.below hb2 O.lt
  replace HB := hide (HB.out.trans (hb2.mono HB.out.size))
  clear hb2 HF
  cases bv with
  | false =>
    go_wp2_with fail
    go_ret
    exact ⟨rfl, HB.out⟩
  | true =>
    have HX := hide (kept_shortP (hkept rfl) H0.out)
    clear hkept
    have hO2 := O.lt
    have Ow := O
    obtain ⟨m1, hwm0, mb, hmm, m2, hwm, OZm, PM, hbm2, hsm2⟩ := laid_pp o w2
    replace O := O.below hbm2 O.lt
    replace HB := hide (HB.out.trans (hbm2.mono HB.out.size))
    have hOM : W.heap.size ≠ mb := by omega
    have hMW : W.heap.size ≤ mb := by have := HB.out.size; omega
    obtain ⟨oa, hoa⟩ : ∃ oa, ({ o with state := st } : Ob) = oa := ⟨_, rfl⟩
    obtain ⟨om, hom⟩ : ∃ om, ({ oa with alarm := (l : Int) } : Ob) = om := ⟨_, rfl⟩
    have cm0 : m2.cell? ⟨mb, 0, none⟩ = some (.int .i64 o.state) := PM.cell 0
    have zm0 := PM.free 0
    have PA0 : Obl (m2.setCell ⟨mb, 0, none⟩ (.int .i64 st)) mb 34 (pcell oa) := by
      have h := PM.put 0 (.int .i64 st); rw [← hoa]; simpa [pcell, pcs] using h
    have OA := O.put_other (b' := mb) hOM 0 (.int .i64 st)
    have HBA := hide (HB.out.setCell (p := ⟨mb, 0, none⟩) hMW (.int .i64 st))
    obtain ⟨ma, hma⟩ : ∃ m, m2.setCell ⟨mb, 0, none⟩ (.int .i64 st) = m := ⟨_, rfl⟩
    rw [hma] at PA0 OA HBA
    have ca0 : ma.cell? ⟨mb, 18, none⟩ = some (.int .i64 oa.alarm) := PA0.cell 18
    have za0 := PA0.free 18
    have PN : Obl (ma.setCell ⟨mb, 18, none⟩ (.int .i64 (l : Int))) mb 34 (pcell om) := by
      have h := PA0.put 18 (.int .i64 (l : Int)); rw [← hom]; simpa [pcell, pcs] using h
    have O3 := OA.put_other (b' := mb) hOM 18 (.int .i64 (l : Int))
    have HB3 := hide (HBA.out.setCell (p := ⟨mb, 18, none⟩) hMW (.int .i64 (l : Int)))
    obtain ⟨m3, hm3⟩ : ∃ m3, ma.setCell ⟨mb, 18, none⟩ (.int .i64 (l : Int)) = m3 := ⟨_, rfl⟩
    rw [hm3] at PN O3 HB3
    have HOM : Hid (HoldsP W W.heap.size om X) := hide (by rw [← hom, ← hoa]; exact ⟨H0.out.1, H0.out.2, H0.out.3, H0.out.4, H0.out.5⟩)
    have HAM : Hid (-9223372036854775808 ≤ om.alarm ∧ om.alarm ≤ 9223372036854775807) := hide (by rw [← hom]; exact HL0.out)
    clear hbm2 hO2 hom hoa HB HBA OA
    go_upto_region 7 with (first | (refine load_proc0 rfl _ rfl rfl Ow ?_) | (refine store_proc rfl _ _ rfl rfl (c := o) rfl OZm rfl ?_; rw [hwm]) | fail)
    clear OZm hwm hwm0 hmm hsm2 PM PA0 O Ow cm0 zm0 ca0 za0 hOM hMW hst
    try rw [hm3]
    clear hm3 hma
    have OT := Obl.make m3 34 (pcs o ++ pcs om).toArray
    have HB := hide (HB3.out.alloc HB3.out.size (.cells (pcs o ++ pcs om).toArray 34))
    obtain ⟨m4, hm4⟩ : ∃ m4, m3.alloc (.cells (pcs o ++ pcs om).toArray 34) = m4 := ⟨_, rfl⟩
    rw [hm4] at OT HB
    obtain ⟨gs, hgs⟩ : ∃ gs, m3.heap.size = gs := ⟨_, rfl⟩
    rw [hgs] at OT
    have HOT := hide OT
    clear OT
    go_wp2_with (first | (refine wpList_val (by rfl) (exec_load_proc0 rfl rfl O3) ?_) | (refine wpList_val (by rfl) (exec_load_proc0 rfl rfl PN) ?_) | (refine wpList_yield rfl (exec_slice2p rfl rfl rfl) ?_; rw [hgs, hm4]) | fail)
    clear O3 PN hm4 hgs HB3
    go_loopw [45] (fun s wr => ∃ k : Nat, s = .int .i64 (k : Int) ∧ k ≤ 2 ∧ Hid (Obl wr gs 34 (pcs o ++ pcs om).toArray) ∧ Hid (Below W.heap.size W wr)) (fun s _ => 2 - (intOf s).toNat)
    case atStart => exact ⟨0, rfl, by omega, HOT, HB⟩
    case round =>
      clear HOT HB
      obtain ⟨k, rfl, hk, HOT, HB⟩ := hrel
      by_cases hlt : k < 2
      · have hlt' : (k : Int) < 2 := by omega
        obtain ⟨x, hx⟩ : ∃ x, [o, om][k]? = some x := ⟨[o, om][k], List.getElem?_eq_getElem hlt⟩
        have HH : Hid (HoldsP W W.heap.size x X ∧ (-9223372036854775808 ≤ x.alarm ∧ x.alarm ≤ 9223372036854775807)) := by
          rcases k with _ | _ | k
          · obtain rfl : o = x := by simpa using hx
            exact hide ⟨H0.out, HA0.out⟩
          · obtain rfl : om = x := by simpa using hx
            exact hide ⟨HOM.out, HAM.out⟩
          · omega
        obtain ⟨x1, hwx0, xb, hmx, x2, hwx, OZx, PX, hbx2, hsx2⟩ := laid_pp x wr
        have OT := HOT.out
        have HT2 := hide (OT.below hbx2 OT.lt)
        have HB2 := hide (HB.out.trans (hbx2.mono HB.out.size))
        clear hbx2 HOT HB hsx2
        obtain ⟨s2, hs2⟩ : ∃ s2, bits .and .i64 nn 255 = s2 := ⟨_, rfl⟩
        obtain ⟨y1, hwy, yb, hmy, OI, hby, hsy⟩ := start_ints3 x2 tk nn s2
        have PX3 := PX.below hby PX.lt
        have HT3 := hide (HT2.out.below hby HT2.out.lt)
        have HB3 := hide (HB2.out.trans (hby.mono HB2.out.size))
        clear hby HT2 HB2 hsy
        go_wp2_with (first | (refine wpList_val (by rfl) (exec_load_twop rfl rfl OT hx) ?_) | (refine store_proc rfl _ _ rfl rfl (c := x) rfl OZx rfl ?_; rw [hwx]) | fail)
        clear OT OZx hwx hwx0 hmx hx PX hwy hmy hs2
        go_loopw [55] (fun s wr => ∃ j : Nat, s = .int .i64 (j : Int) ∧ j ≤ 3 ∧ Hid (Obl wr gs 34 (pcs o ++ pcs om).toArray) ∧ Obl wr yb 2 #[.int .i64 tk, .int .i64 nn, .int .i64 s2] ∧ Obl wr xb 34 (pcell x) ∧ Hid (Below W.heap.size W wr)) (fun s _ => 3 - (intOf s).toNat)
        case atStart => exact ⟨0, rfl, by omega, HT3, OI, PX3, HB3⟩
        case round =>
          clear HT3 OI PX3 HB3
          obtain ⟨j, rfl, hj, HT, OI, PX, HB⟩ := hrel
          by_cases hjl : j < 3
          · have hjl' : (j : Int) < 3 := by omega
            obtain ⟨s, _, cs⟩ := ints3_at OI hjl
            obtain ⟨re, hre⟩ : ∃ re, alErr s = re := ⟨_, rfl⟩
            obtain ⟨le, hle⟩ : ∃ le, x.alLeft s = le := ⟨_, rfl⟩
            have HRE := hide hre
            have HLE := hide hle
            clear hre hle
            go_wp2_with (first | (refine load_proc0 rfl _ rfl rfl PX ?_) | fail)
            refine (alSet_any x s X _ ((HH.out.1.below HB.out).mono HB.out.size) HX.out).mono ?_
            rintro e v1 ⟨ya, rfl, LA, hv1⟩
            rw [HRE.out] at LA ⊢
            rw [HLE.out]
            have hLa := hide LA
            clear LA
            replace HT := hide (HT.out.below hv1 HT.out.lt)
            replace OI := OI.below hv1 OI.lt
            replace PX := PX.below hv1 PX.lt
            replace HB := hide (HB.out.trans ((hv1).mono HB.out.size))
            clear hv1
            obtain ⟨a1, hwa0, ab, hma, a2, hwa, OZa, PA, hba2, hsa2⟩ := laid_pp ya v1
            replace HT := hide (HT.out.below hba2 HT.out.lt)
            replace OI := OI.below hba2 OI.lt
            replace PX := PX.below hba2 PX.lt
            replace HB := hide (HB.out.trans ((hba2).mono HB.out.size))
            replace hLa := hide (hLa.out.later hba2)
            clear hba2
            go_wp2_with (first | (refine store_proc rfl _ _ rfl rfl (c := ya) rfl OZa rfl ?_; rw [hwa]) | (refine load_proc0 rfl _ rfl rfl PX ?_) | fail)
            clear OZa hwa hwa0 hma hsa2
            refine (refAlSet_any x s X _ ((HH.out.1.below HB.out).mono HB.out.size)).mono ?_
            rintro e v2 ⟨yb0, rfl, LB, hv2⟩
            rw [HRE.out] at LB ⊢
            rw [HLE.out]
            have hLb := hide LB
            clear LB
            replace HT := hide (HT.out.below hv2 HT.out.lt)
            replace OI := OI.below hv2 OI.lt
            replace PX := PX.below hv2 PX.lt
            replace HB := hide (HB.out.trans ((hv2).mono HB.out.size))
            replace PA := PA.below hv2 PA.lt
            replace hLa := hide (hLa.out.later hv2)
            clear hv2
            obtain ⟨b1, hwb0, bb, hmb, b2, hwb, OZb, PB, hbb2, hsb2⟩ := laid_pp yb0 v2
            replace HT := hide (HT.out.below hbb2 HT.out.lt)
            replace OI := OI.below hbb2 OI.lt
            replace PX := PX.below hbb2 PX.lt
            replace HB := hide (HB.out.trans ((hbb2).mono HB.out.size))
            replace PA := PA.below hbb2 PA.lt
            replace hLa := hide (hLa.out.later hbb2)
            replace hLb := hide (hLb.out.later hbb2)
            clear hbb2
            go_wp2_with (first | (refine store_proc rfl _ _ rfl rfl (c := yb0) rfl OZb rfl ?_; rw [hwb]) | (refine load_proc0 rfl _ rfl rfl PX ?_) | fail)
            clear OZb hwb hwb0 hmb hsb2
            refine (alTick_any x s X _ HH.out.2 ((HH.out.1.below HB.out).mono HB.out.size) HX.out).mono ?_
            rintro e v3 ⟨yc, rfl, LC, hv3⟩
            rw [HRE.out] at LC ⊢
            have hLc := hide LC
            clear LC
            replace HT := hide (HT.out.below hv3 HT.out.lt)
            replace OI := OI.below hv3 OI.lt
            replace PX := PX.below hv3 PX.lt
            replace HB := hide (HB.out.trans ((hv3).mono HB.out.size))
            replace PA := PA.below hv3 PA.lt
            replace hLa := hide (hLa.out.later hv3)
            replace PB := PB.below hv3 PB.lt
            replace hLb := hide (hLb.out.later hv3)
            clear hv3
            obtain ⟨c1, hwc0, cb, hmc, c2, hwc, OZc, PC, hbc2, hsc2⟩ := laid_pp yc v3
            replace HT := hide (HT.out.below hbc2 HT.out.lt)
            replace OI := OI.below hbc2 OI.lt
            replace PX := PX.below hbc2 PX.lt
            replace HB := hide (HB.out.trans ((hbc2).mono HB.out.size))
            replace PA := PA.below hbc2 PA.lt
            replace hLa := hide (hLa.out.later hbc2)
            replace PB := PB.below hbc2 PB.lt
            replace hLb := hide (hLb.out.later hbc2)
            replace hLc := hide (hLc.out.later hbc2)
            clear hbc2
            go_wp2_with (first | (refine store_proc rfl _ _ rfl rfl (c := yc) rfl OZc rfl ?_; rw [hwc]) | (refine load_proc0 rfl _ rfl rfl PX ?_) | fail)
            clear OZc hwc hwc0 hmc hsc2
            refine (refAlTick_any x s X _ HH.out.2 ((HH.out.1.below HB.out).mono HB.out.size)).mono ?_
            rintro e v4 ⟨yd, rfl, LD, hv4⟩
            rw [HRE.out] at LD ⊢
            have hLd := hide LD
            clear LD
            replace HT := hide (HT.out.below hv4 HT.out.lt)
            replace OI := OI.below hv4 OI.lt
            replace PX := PX.below hv4 PX.lt
            replace HB := hide (HB.out.trans ((hv4).mono HB.out.size))
            replace PA := PA.below hv4 PA.lt
            replace hLa := hide (hLa.out.later hv4)
            replace PB := PB.below hv4 PB.lt
            replace hLb := hide (hLb.out.later hv4)
            replace PC := PC.below hv4 PC.lt
            replace hLc := hide (hLc.out.later hv4)
            clear hv4
            obtain ⟨d1, hwd0, db, hmd, d2, hwd, OZd, PD, hbd2, hsd2⟩ := laid_pp yd v4
            replace HT := hide (HT.out.below hbd2 HT.out.lt)
            replace OI := OI.below hbd2 OI.lt
            replace PX := PX.below hbd2 PX.lt
            replace HB := hide (HB.out.trans ((hbd2).mono HB.out.size))
            replace PA := PA.below hbd2 PA.lt
            replace hLa := hide (hLa.out.later hbd2)
            replace PB := PB.below hbd2 PB.lt
            replace hLb := hide (hLb.out.later hbd2)
            replace PC := PC.below hbd2 PC.lt
            replace hLc := hide (hLc.out.later hbd2)
            replace hLd := hide (hLd.out.later hbd2)
            clear hbd2
            go_upto_region 17 with (first | (refine store_proc rfl _ _ rfl rfl (c := yd) rfl OZd rfl ?_; rw [hwd]) | fail)
            clear OZd hwd hwd0 hmd hsd2
            refine wp_region_lit ?_
            refine wpList_val (by rfl) (by go_simp; try with_reducible rfl) ?_
            refine wpList_val (by rfl) (by go_simp; try with_reducible rfl) ?_
            refine wpList_val (by rfl) (by go_simp; try with_reducible rfl) ?_
            go_simp
            refine wpList_val (by rfl) (by go_simp; try with_reducible rfl) ?_
            refine wpList_val (by kernel_rfl) (by go_simp; try with_reducible rfl) ?_
            refine wpList_val (by kernel_rfl) (by go_simp; try with_reducible rfl) ?_
            refine wpList_val (by kernel_rfl) (by go_simp; try with_reducible rfl) ?_
            go_simp
            refine wpList_val (by rfl) (by go_simp; try with_reducible rfl) ?_
            go_simp
            refine wpList_val (by rfl) (by go_simp; try with_reducible rfl) ?_
            refine wpList_val (by kernel_rfl) (by exact exec_load_proc0 rfl rfl PA) ?_
            refine wpList_val (by kernel_rfl) (by exact exec_load_proc0 rfl rfl PB) ?_
            go_simp
            refine wpList_met (by kernel_rfl) fun K hK => ?_
            go_simp
            refine (same_pans hLa.out hLb.out HX.out).mono ?_
            rintro e z1 ⟨rfl, hz1⟩
            refine hK _ _ ?_
            clear hK K
            replace HT := hide (HT.out.below hz1 HT.out.lt)
            replace OI := OI.below hz1 OI.lt
            replace PX := PX.below hz1 PX.lt
            replace HB := hide (HB.out.trans ((hz1).mono HB.out.size))
            replace PC := PC.below hz1 PC.lt
            replace PD := PD.below hz1 PD.lt
            replace hLc := hide (hLc.out.later hz1)
            replace hLd := hide (hLd.out.later hz1)
            clear hz1
            go_simp
            refine wpList_val (by kernel_rfl) (by go_simp; try with_reducible rfl) ?_
            refine wpList_val (by rfl) (by go_simp; try with_reducible rfl) ?_
            go_simp
            refine wpList_val (by rfl) (by go_simp; try with_reducible rfl) ?_
            refine wpList_val (by kernel_rfl) (by go_simp; try with_reducible rfl) ?_
            refine wpList_val (by kernel_rfl) (by go_simp; try with_reducible rfl) ?_
            refine wpList_val (by kernel_rfl) (by go_simp; try with_reducible rfl) ?_
            go_simp
            refine wpList_val (by rfl) (by go_simp; try with_reducible rfl) ?_
            go_simp
            refine wpList_val (by rfl) (by go_simp; try with_reducible rfl) ?_
            refine wpList_val (by kernel_rfl) (by exact exec_load_proc0 rfl rfl PC) ?_
            refine wpList_val (by kernel_rfl) (by exact exec_load_proc0 rfl rfl PD) ?_
            go_simp
            refine wpList_met (by kernel_rfl) fun K hK => ?_
            go_simp
            refine (same_pans hLc.out hLd.out HX.out).mono ?_
            rintro e z2 ⟨rfl, hz2⟩
            refine hK _ _ ?_
            clear hK K
            replace HT := hide (HT.out.below hz2 HT.out.lt)
            replace OI := OI.below hz2 OI.lt
            replace PX := PX.below hz2 PX.lt
            replace HB := hide (HB.out.trans ((hz2).mono HB.out.size))
            clear hz2
            go_simp
            refine wpList_val (by kernel_rfl) (by go_simp; try with_reducible rfl) ?_
            refine wpList_val (by rfl) (by go_simp; try with_reducible rfl) ?_
            go_simp
            refine wpList_nil ?_
            go_simp
            clear PA PB PC PD hLa hLb hLc hLd
            go_wp2_with fail
            go_roundw
            case rel => exact ⟨j + 1, by go_num, by omega, HT, OI, PX, HB⟩
            case measure => simp [intOf]; omega
          · obtain rfl : j = 3 := by omega
            clear OI PX
            go_wp2_with fail
            go_roundw
            case rel => exact ⟨k + 1, by go_num, by omega, HT, HB⟩
            case measure => simp [intOf]; omega
      · obtain rfl : k = 2 := by omega
        clear HOT
        go_wp2_with fail
        go_ret
        exact ⟨by simp, HB.out⟩
end Go.Proofs.Ythaolmcppfjedaa
