/- Layer 14: raising, taking and validity as the reference has them (SignalMoves): the walk. (Written by tools/mksgmoves.py.) -/
import Derived.Test.YtjdbljbghpmacaaSgLaw
import Derived.Test.YtjdbljbghpmacaaSgRef
import Derived.Test.YtjdbljbghpmacaaPrTwo
namespace Go.Proofs.Ytjdbljbghpmacaa
open Go.RowKit

theorem bits_in64 (op : BinOp) (x y : Int) : -9223372036854775808 ≤ bits op .i64 x y ∧ bits op .i64 x y ≤ 9223372036854775807 := by
  unfold bits
  simp only
  rw [IntKind.wrap_i64]
  omega
set_option maxRecDepth 100000 in
set_option maxHeartbeats 16000000 in
theorem signalMoves_any (o : Ob) (X : Cont) (sg pd : Int) (t : Nat) (ht : t < 256) (hpd : -9223372036854775808 ≤ pd ∧ pd ≤ 9223372036854775807) (W : World) (h : HoldsP W W.heap.size o X) (hf : Fits o.only [] X.strs) :
    Calls Try.prog 3 #[.agg (pcell o), .int .i64 sg, .int .i64 pd, .int .u8 (t : Int)] W (BoolPost true W) := by
  obtain ⟨w0, hw, O, hb, hs⟩ : ∃ w0, W.alloc (.cells (pcell o) 34) = w0 ∧ Obl w0 W.heap.size 34 (pcell o) ∧ Below W.heap.size W w0 ∧ w0.heap.size = W.heap.size + 1 :=
    ⟨_, rfl, Obl.make W _ _, (Below.refl _ _).alloc (Nat.le_refl _) _, by simp⟩
  obtain ⟨st, hst⟩ : ∃ st, (1 : Int) + (t : Int) % 3 = st := ⟨_, rfl⟩
  have H0 := hide h
  have HF := hide hf
  have HPD := hide hpd
  have HB := hide hb
  clear h hf hb hs hpd
  go_enter Try.func3, Try.ntmps3
  try dsimp only [List.append]
  go_wp2_with fail
  refine (sgSane_any _).mono ?_
  rintro e w1 ⟨rfl, hb1⟩
  replace O := O.below hb1 O.lt
  replace HB := hide (HB.out.trans (hb1.mono HB.out.size))
  clear hb1 hw
  go_wp2_with (first | (refine load_proc0 rfl _ rfl rfl O ?_) | (refine wpList_val (by rfl) (exec_build (t := 43) (vs := [(3, .agg (pcell o))]) rfl (by go_simp) (built_obproc o)) ?_) | fail)
  refine (keepob_kept o.only [] X.strs _ Nms.nil ((H0.out.strs.below HB.out).mono HB.out.size) HF.out).mono ?_
  rintro e w2 ⟨bv, rfl, hkept, hb2⟩
  replace O := O.below hb2 O.lt
  replace HB := hide (HB.out.trans (hb2.mono HB.out.size))
  clear hb2 HF
  cases bv with
  | false =>
    go_wp2_with fail
    go_ret
    exact ⟨rfl, HB.out⟩
  | true =>
    have HX := hide (kept_shortP (hkept rfl) H0.out)
    clear hkept
    have hO2 := O.lt
    have Ow := O
    obtain ⟨m1, hwm0, mb, hmm, m2, hwm, OZm, PM, hbm2, hsm2⟩ := laid_pp o w2
    replace O := O.below hbm2 O.lt
    replace HB := hide (HB.out.trans (hbm2.mono HB.out.size))
    have hOM : W.heap.size ≠ mb := by omega
    have hMW : W.heap.size ≤ mb := by have := HB.out.size; omega
    obtain ⟨om, hom⟩ : ∃ om, ({ o with state := st } : Ob) = om := ⟨_, rfl⟩
    have cm0 : m2.cell? ⟨mb, 0, none⟩ = some (.int .i64 o.state) := PM.cell 0
    have zm0 := PM.free 0
    have PN : Obl (m2.setCell ⟨mb, 0, none⟩ (.int .i64 st)) mb 34 (pcell om) := by
      have h := PM.put 0 (.int .i64 st); rw [← hom]; simpa [pcell, pcs] using h
    have O3 := O.put_other (b' := mb) hOM 0 (.int .i64 st)
    have HB3 := hide (HB.out.setCell (p := ⟨mb, 0, none⟩) hMW (.int .i64 st))
    obtain ⟨m3, hm3⟩ : ∃ m3, m2.setCell ⟨mb, 0, none⟩ (.int .i64 st) = m3 := ⟨_, rfl⟩
    rw [hm3] at PN O3 HB3
    have HOM : Hid (HoldsP W W.heap.size om X) := hide (by rw [← hom]; exact ⟨H0.out.1, H0.out.2, H0.out.3, H0.out.4, H0.out.5⟩)
    clear hbm2 hO2 hom HB
    go_upto_region 7 with (first | (refine load_proc0 rfl _ rfl rfl Ow ?_) | (refine store_proc rfl _ _ rfl rfl (c := o) rfl OZm rfl ?_; rw [hwm]) | fail)
    clear OZm hwm hwm0 hmm hsm2 PM O Ow cm0 zm0 hOM hMW hst
    try rw [hm3]
    clear hm3
    have OT := Obl.make m3 34 (pcs o ++ pcs om).toArray
    have HB := hide (HB3.out.alloc HB3.out.size (.cells (pcs o ++ pcs om).toArray 34))
    obtain ⟨m4, hm4⟩ : ∃ m4, m3.alloc (.cells (pcs o ++ pcs om).toArray 34) = m4 := ⟨_, rfl⟩
    rw [hm4] at OT HB
    obtain ⟨gs, hgs⟩ : ∃ gs, m3.heap.size = gs := ⟨_, rfl⟩
    rw [hgs] at OT
    have HOT := hide OT
    clear OT
    go_wp2_with (first | (refine wpList_val (by rfl) (exec_load_proc0 rfl rfl O3) ?_) | (refine wpList_val (by rfl) (exec_load_proc0 rfl rfl PN) ?_) | (refine wpList_yield rfl (exec_slice2p rfl rfl rfl) ?_; rw [hgs, hm4]) | fail)
    clear O3 PN hm4 hgs HB3
    go_loopw [38] (fun s wr => ∃ k : Nat, s = .int .i64 (k : Int) ∧ k ≤ 2 ∧ Hid (Obl wr gs 34 (pcs o ++ pcs om).toArray) ∧ Hid (Below W.heap.size W wr)) (fun s _ => 2 - (intOf s).toNat)
    case atStart => exact ⟨0, rfl, by omega, HOT, HB⟩
    case round =>
      clear HOT HB
      obtain ⟨k, rfl, hk, HOT, HB⟩ := hrel
      by_cases hlt : k < 2
      · have hlt' : (k : Int) < 2 := by omega
        obtain ⟨x, hx⟩ : ∃ x, [o, om][k]? = some x := ⟨[o, om][k], List.getElem?_eq_getElem hlt⟩
        have HH : Hid (HoldsP W W.heap.size x X) := by
          rcases k with _ | _ | k
          · obtain rfl : o = x := by simpa using hx
            exact H0
          · obtain rfl : om = x := by simpa using hx
            exact HOM
          · omega
        obtain ⟨x1, hwx0, xb, hmx, x2, hwx, OZx, PX, hbx2, hsx2⟩ := laid_pp x wr
        have OT := HOT.out
        have HT2 := hide (OT.below hbx2 OT.lt)
        have HB2 := hide (HB.out.trans (hbx2.mono HB.out.size))
        clear hbx2 HOT HB hsx2
        obtain ⟨s2, hs2⟩ : ∃ s2, bits .and .i64 sg 31 = s2 := ⟨_, rfl⟩
        obtain ⟨y1, hwy, yb, hmy, OI, hby, hsy⟩ := start_ints2 x2 sg s2
        have PX3 := PX.below hby PX.lt
        have HT3 := hide (HT2.out.below hby HT2.out.lt)
        have HB3 := hide (HB2.out.trans (hby.mono HB2.out.size))
        clear hby HT2 HB2 hsy
        go_wp2_with (first | (refine wpList_val (by rfl) (exec_load_twop rfl rfl OT hx) ?_) | (refine store_proc rfl _ _ rfl rfl (c := x) rfl OZx rfl ?_; rw [hwx]) | fail)
        clear OT OZx hwx hwx0 hmx hx PX hwy hmy hs2
        go_loopw [47] (fun s wr => ∃ j : Nat, s = .int .i64 (j : Int) ∧ j ≤ 2 ∧ Hid (Obl wr gs 34 (pcs o ++ pcs om).toArray) ∧ Obl wr yb 2 #[.int .i64 sg, .int .i64 s2] ∧ Obl wr xb 34 (pcell x) ∧ Hid (Below W.heap.size W wr)) (fun s _ => 2 - (intOf s).toNat)
        case atStart => exact ⟨0, rfl, by omega, HT3, OI, PX3, HB3⟩
        case round =>
          clear HT3 OI PX3 HB3
          obtain ⟨j, rfl, hj, HT, OI, PX, HB⟩ := hrel
          by_cases hjl : j < 2
          · have hjl' : (j : Int) < 2 := by omega
            obtain ⟨s, _, cs⟩ := ints2_at OI hjl
            go_wp2_with (first | (refine load_proc0 rfl _ rfl rfl PX ?_) | fail)
            refine (sgRaise_any x s X _ ((HH.out.below HB.out).mono HB.out.size) HX.out).mono ?_
            rintro e v1 ⟨ya, rfl, LA, hv1⟩
            have hLa := hide LA
            clear LA
            replace HT := hide (HT.out.below hv1 HT.out.lt)
            replace OI := OI.below hv1 OI.lt
            replace PX := PX.below hv1 PX.lt
            replace HB := hide (HB.out.trans ((hv1).mono HB.out.size))
            clear hv1
            obtain ⟨a1, hwa0, ab, hma, a2, hwa, OZa, PA, hba2, hsa2⟩ := laid_pp ya v1
            replace HT := hide (HT.out.below hba2 HT.out.lt)
            replace OI := OI.below hba2 OI.lt
            replace PX := PX.below hba2 PX.lt
            replace HB := hide (HB.out.trans ((hba2).mono HB.out.size))
            replace hLa := hide (hLa.out.later hba2)
            clear hba2
            obtain ⟨re, hre⟩ : ∃ re, x.raiseErr s = re := ⟨_, rfl⟩
            rw [hre] at hLa ⊢
            go_wp2_with (first | (refine store_proc rfl _ _ rfl rfl (c := ya) rfl OZa rfl ?_; rw [hwa]) | (refine load_proc0 rfl _ rfl rfl PX ?_) | fail)
            clear OZa hwa hwa0 hma hsa2
            refine (refSgRaise_any x s X _ ((HH.out.below HB.out).mono HB.out.size)).mono ?_
            rintro e v2 ⟨yb0, rfl, LB, hv2⟩
            have hLb := hide LB
            clear LB
            replace HT := hide (HT.out.below hv2 HT.out.lt)
            replace OI := OI.below hv2 OI.lt
            replace PX := PX.below hv2 PX.lt
            replace HB := hide (HB.out.trans ((hv2).mono HB.out.size))
            replace PA := PA.below hv2 PA.lt
            replace hLa := hide (hLa.out.later hv2)
            clear hv2
            obtain ⟨b1, hwb0, bb, hmb, b2, hwb, OZb, PB, hbb2, hsb2⟩ := laid_pp yb0 v2
            replace HT := hide (HT.out.below hbb2 HT.out.lt)
            replace OI := OI.below hbb2 OI.lt
            replace PX := PX.below hbb2 PX.lt
            replace HB := hide (HB.out.trans ((hbb2).mono HB.out.size))
            replace PA := PA.below hbb2 PA.lt
            replace hLa := hide (hLa.out.later hbb2)
            replace hLb := hide (hLb.out.later hbb2)
            clear hbb2
            rw [hre] at hLb ⊢
            clear hre
            go_upto_region 15 with (first | (refine store_proc rfl _ _ rfl rfl (c := yb0) rfl OZb rfl ?_; rw [hwb]) | fail)
            clear OZb hwb hwb0 hmb hsb2
            refine wp_region_lit ?_
            refine wpList_val (by rfl) (by go_simp; try with_reducible rfl) ?_
            refine wpList_val (by rfl) (by go_simp; try with_reducible rfl) ?_
            refine wpList_val (by rfl) (by go_simp; try with_reducible rfl) ?_
            go_simp
            refine wpList_val (by rfl) (by go_simp; try with_reducible rfl) ?_
            refine wpList_val (by kernel_rfl) (by exact exec_load_proc0 rfl rfl PA) ?_
            refine wpList_val (by kernel_rfl) (by exact exec_load_proc0 rfl rfl PB) ?_
            go_simp
            refine wpList_met (by kernel_rfl) fun K hK => ?_
            go_simp
            refine (same_pans hLa.out hLb.out HX.out).mono ?_
            rintro e z1 ⟨rfl, hz1⟩
            refine hK _ _ ?_
            clear hK K
            replace HT := hide (HT.out.below hz1 HT.out.lt)
            replace OI := OI.below hz1 OI.lt
            replace PX := PX.below hz1 PX.lt
            replace HB := hide (HB.out.trans ((hz1).mono HB.out.size))
            clear hz1
            go_simp
            refine wpList_val (by kernel_rfl) (by go_simp; try with_reducible rfl) ?_
            refine wpList_val (by rfl) (by go_simp; try with_reducible rfl) ?_
            go_simp
            refine wpList_nil ?_
            go_simp
            clear PA PB hLa hLb
            go_wp2_with fail
            go_roundw
            case rel => exact ⟨j + 1, by go_num, by omega, HT, OI, PX, HB⟩
            case measure => simp [intOf]; omega
          · obtain rfl : j = 2 := by omega
            clear OI
            go_wp2_with (first | (refine load_proc0 rfl _ rfl rfl PX ?_) | fail)
            refine (sgTake_any x X _ ((HH.out.below HB.out).mono HB.out.size) HX.out).mono ?_
            rintro e v3 ⟨yc, rfl, EA, LA, hv3⟩
            have hEa := hide EA
            have hLa := hide LA
            clear LA EA
            replace HT := hide (HT.out.below hv3 HT.out.lt)
            replace PX := PX.below hv3 PX.lt
            replace HB := hide (HB.out.trans ((hv3).mono HB.out.size))
            clear hv3
            obtain ⟨a1, hwa0, ab, hma, a2, hwa, OZa, PA, hba2, hsa2⟩ := laid_pp yc v3
            replace HT := hide (HT.out.below hba2 HT.out.lt)
            replace PX := PX.below hba2 PX.lt
            replace HB := hide (HB.out.trans ((hba2).mono HB.out.size))
            replace hLa := hide (hLa.out.later hba2)
            clear hba2
            go_wp2_with (first | (refine store_proc rfl _ _ rfl rfl (c := yc) rfl OZa rfl ?_; rw [hwa]) | (refine load_proc0 rfl _ rfl rfl PX ?_) | fail)
            clear OZa hwa hwa0 hma hsa2
            refine (refSgTake_any x X _ ((HH.out.below HB.out).mono HB.out.size)).mono ?_
            rintro e v4 ⟨yd, rfl, EB, LB, hv4⟩
            have hEb := hide EB
            have hLb := hide LB
            clear LB EB
            replace HT := hide (HT.out.below hv4 HT.out.lt)
            replace PX := PX.below hv4 PX.lt
            replace HB := hide (HB.out.trans ((hv4).mono HB.out.size))
            replace PA := PA.below hv4 PA.lt
            replace hLa := hide (hLa.out.later hv4)
            clear hv4
            obtain ⟨b1, hwb0, bb, hmb, b2, hwb, OZb, PB, hbb2, hsb2⟩ := laid_pp yd v4
            replace HT := hide (HT.out.below hbb2 HT.out.lt)
            replace PX := PX.below hbb2 PX.lt
            replace HB := hide (HB.out.trans ((hbb2).mono HB.out.size))
            replace PA := PA.below hbb2 PA.lt
            replace hLa := hide (hLa.out.later hbb2)
            replace hLb := hide (hLb.out.later hbb2)
            clear hbb2
            obtain ⟨pe, hpe⟩ : ∃ pe, x.pending = pe := ⟨_, rfl⟩
            rw [hpe]
            clear hpe
            go_upto_region 20 with (first | (refine store_proc rfl _ _ rfl rfl (c := yd) rfl OZb rfl ?_; rw [hwb]) | fail)
            clear OZb hwb hwb0 hmb hsb2
            refine wp_region_lit ?_
            refine wpList_val (by rfl) (by go_simp; try with_reducible rfl) ?_
            refine wpList_val (by rfl) (by go_simp; try with_reducible rfl) ?_
            refine wpList_val (by rfl) (by go_simp; try with_reducible rfl) ?_
            go_simp
            refine wpList_val (by rfl) (by go_simp; try with_reducible rfl) ?_
            refine wpList_val (by kernel_rfl) (by exact exec_load_proc0 rfl rfl PA) ?_
            refine wpList_val (by kernel_rfl) (by exact exec_load_proc0 rfl rfl PB) ?_
            go_simp
            refine wpList_met (by kernel_rfl) fun K hK => ?_
            go_simp
            refine (sameProc_p _ _ X _ (hEa.out.trans hEb.out.symm) hLa.out hLb.out HX.out).mono ?_
            rintro e z1 ⟨rfl, hz1⟩
            refine hK _ _ ?_
            clear hK K
            replace HT := hide (HT.out.below hz1 HT.out.lt)
            replace HB := hide (HB.out.trans ((hz1).mono HB.out.size))
            clear hz1
            go_simp
            refine wpList_val (by kernel_rfl) (by go_simp; try with_reducible rfl) ?_
            refine wpList_val (by rfl) (by go_simp; try with_reducible rfl) ?_
            go_simp
            refine wpList_nil ?_
            go_simp
            clear PA PB hLa hLb PX
            go_wp2_with fail
            go_roundw
            case rel => exact ⟨k + 1, by go_num, by omega, HT, HB⟩
            case measure => simp [intOf]; omega
      · obtain rfl : k = 2 := by omega
        clear HOT
        obtain ⟨p2, hp2⟩ : ∃ p2, bits .and .i64 pd 8589934591 = p2 := ⟨_, rfl⟩
        have HP2 : Hid (-9223372036854775808 ≤ p2 ∧ p2 ≤ 9223372036854775807) := hide (by rw [← hp2]; exact bits_in64 _ _ _)
        obtain ⟨b1, hb1⟩ : ∃ b, decide (sgValid pd) = b := ⟨_, rfl⟩
        obtain ⟨b2, hb2⟩ : ∃ b, decide (sgValid p2) = b := ⟨_, rfl⟩
        have HB1 := hide hb1
        have HB2 := hide hb2
        clear hb1 hb2
        go_upto_region 23 with fail
        refine wp_region_lit ?_
        refine wpList_val (by rfl) (by go_simp; try with_reducible rfl) ?_
        go_simp
        refine wpList_met (by rfl) fun K hK => ?_
        go_simp
        refine (sgValid_any pd _).mono ?_
        rintro e z1 ⟨rfl, hz1⟩
        rw [HB1.out]
        refine hK _ _ ?_
        clear hK K
        replace HB := hide (HB.out.trans (hz1.mono HB.out.size))
        clear hz1
        go_simp
        refine wpList_val (by rfl) (by go_simp; try with_reducible rfl) ?_
        go_simp
        refine wpList_met (by rfl) fun K hK => ?_
        go_simp
        refine (refSgValid_any pd HPD.out _).mono ?_
        rintro e z2 ⟨rfl, hz2⟩
        rw [HB1.out]
        refine hK _ _ ?_
        clear hK K
        replace HB := hide (HB.out.trans (hz2.mono HB.out.size))
        clear hz2
        go_simp
        refine wpList_val (by rfl) (by go_simp; try with_reducible rfl) ?_
        go_simp
        refine wpList_val (by rfl) (by go_simp; try with_reducible rfl) ?_
        refine wpList_val (by kernel_rfl) (by go_simp; try with_reducible rfl) ?_
        refine wpList_val (by kernel_rfl) (by go_simp; try with_reducible rfl) ?_
        go_simp
        go_simp
        refine wpList_met (by kernel_rfl) fun K hK => ?_
        go_simp
        refine (sgValid_any p2 _).mono ?_
        rintro e z3 ⟨rfl, hz3⟩
        rw [HB2.out]
        refine hK _ _ ?_
        clear hK K
        replace HB := hide (HB.out.trans (hz3.mono HB.out.size))
        clear hz3
        go_simp
        refine wpList_val (by kernel_rfl) (by go_simp; try with_reducible rfl) ?_
        refine wpList_val (by kernel_rfl) (by go_simp; try with_reducible rfl) ?_
        go_simp
        go_simp
        refine wpList_met (by kernel_rfl) fun K hK => ?_
        go_simp
        refine (refSgValid_any p2 HP2.out _).mono ?_
        rintro e z4 ⟨rfl, hz4⟩
        rw [HB2.out]
        refine hK _ _ ?_
        clear hK K
        replace HB := hide (HB.out.trans (hz4.mono HB.out.size))
        clear hz4
        go_simp
        refine wpList_val (by kernel_rfl) (by go_simp; try with_reducible rfl) ?_
        go_simp
        refine wpList_val (by rfl) (by go_simp; try with_reducible rfl) ?_
        go_simp
        refine wpList_val (by rfl) (by go_simp; try with_reducible rfl) ?_
        go_simp
        refine wpList_nil ?_
        go_simp
        go_wp2_with fail
        go_ret
        exact ⟨by simp, HB.out⟩
end Go.Proofs.Ytjdbljbghpmacaa
