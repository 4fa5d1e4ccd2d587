/- Layer 13: semaphores as the reference has them (SemaphoreMoves): the walk. (Written by tools/mksmmoves.py.) -/
import Derived.Test.YtbjipppkkobgbaaSmLaw
import Derived.Test.YtbjipppkkobgbaaSmAny
import Derived.Test.YtbjipppkkobgbaaSmFour
import Derived.Test.YtbjipppkkobgbaaObObj
namespace Go.Proofs.Ytbjipppkkobgbaa
open Go.RowKit

set_option maxRecDepth 100000 in
set_option maxHeartbeats 16000000 in
theorem semaphoreMoves_any (o : Ob) (l : List Nm) (strs : List (List UInt8)) (S : Option Addr) (q r : Nat) (bs : List UInt8) (id n : Int) (W : World) (hl : Nms W W.heap.size o.names.A o.names.n l) (hS : Strs W W.heap.size o.strs.A o.strs.n strs) (hf : Fits o l strs)
    (h : Bytes W W.heap.size S q bs) (hq : q ≤ r ∧ r ≤ 9223372036854775807) :
    Calls Try.prog 3 #[.agg (oc o), .slice S q r, .int .u64 id, .int .i64 n] W (BoolPost true W) := by
  obtain ⟨w0, hw, O, hb, hs⟩ : ∃ w0, W.alloc (.cells (oc o) 41) = w0 ∧ Obl w0 W.heap.size 41 (oc o) ∧ Below W.heap.size W w0 ∧ w0.heap.size = W.heap.size + 1 :=
    ⟨_, rfl, Obl.make W _ _, (Below.refl _ _).alloc (Nat.le_refl _) _, by simp⟩
  have HN := hide hl
  have HST := hide hS
  have HF := hide hf
  have HBY := hide h
  have HQ := hide hq
  have HB := hide hb
  clear hl hS hf h hq hb hs
  go_enter Try.func3, Try.ntmps3
  try dsimp only [List.append]
  go_wp2_with fail
  refine (smSane_any _).mono ?_
  rintro e w1 ⟨rfl, hb1⟩
  replace O := O.below hb1 O.lt
  replace HB := hide (HB.out.trans (hb1.mono HB.out.size))
  clear hb1 hw
  go_wp2_with (first | (refine load_ob rfl _ rfl rfl O ?_) | fail)
  refine (keepob_any o l strs _ ((HN.out.below HB.out).mono HB.out.size) ((HST.out.below HB.out).mono HB.out.size) HF.out).mono ?_
  rintro e w2 ⟨bv, rfl, hb2⟩
  replace O := O.below hb2 O.lt
  replace HB := hide (HB.out.trans (hb2.mono HB.out.size))
  clear hb2 HN HST HF
  cases bv with
  | false =>
    go_wp2_with fail
    go_ret
    exact ⟨rfl, HB.out⟩
  | true =>
    obtain ⟨rn, hrn⟩ : ∃ rn, newErr id n = rn := ⟨_, rfl⟩
    go_wp2_with fail
    refine (smNew_ans id n _).mono ?_
    rintro e v1 ⟨ya, rfl, LA, hv1⟩
    have hLa := hide LA
    clear LA
    replace O := O.below hv1 O.lt
    replace HB := hide (HB.out.trans ((hv1).mono HB.out.size))
    clear hv1
    obtain ⟨a1, hwa0, ab, hma, a2, hwa, OZa, PA, hba2, hsa2⟩ := laid_ob ya v1
    replace O := O.below hba2 O.lt
    replace HB := hide (HB.out.trans ((hba2).mono HB.out.size))
    clear hba2
    rw [hrn]
    go_wp2_with (first | (refine store_ob rfl _ _ rfl rfl (c := ya) rfl OZa rfl ?_; rw [hwa]) | fail)
    clear OZa hwa hwa0 hma hsa2
    refine (refSmNew_ans id n _).mono ?_
    rintro e v2 ⟨yb, rfl, LB, hv2⟩
    have hLb := hide LB
    clear LB
    replace O := O.below hv2 O.lt
    replace HB := hide (HB.out.trans ((hv2).mono HB.out.size))
    replace PA := PA.below hv2 PA.lt
    clear hv2
    obtain ⟨b1, hwb0, bb, hmb, b2, hwb, OZb, PB, hbb2, hsb2⟩ := laid_ob yb v2
    replace O := O.below hbb2 O.lt
    replace HB := hide (HB.out.trans ((hbb2).mono HB.out.size))
    replace PA := PA.below hbb2 PA.lt
    clear hbb2
    rw [hrn]
    clear hrn
    go_upto_region 9 with (first | (refine store_ob rfl _ _ rfl rfl (c := yb) rfl OZb rfl ?_; rw [hwb]) | (refine wpList_val (by rfl) (exec_load_ob rfl rfl PA) ?_) | (refine wpList_val (by rfl) (exec_load_ob rfl rfl PB) ?_) | (go_at_call 10; refine (same_smlike hLa.out hLb.out _).mono ?_; rintro e z0 ⟨rfl, hz0⟩) | fail)
    clear OZb hwb hwb0 hmb hsb2
    replace O := O.below hz0 O.lt
    replace HB := hide (HB.out.trans ((hz0).mono HB.out.size))
    replace PB := PB.below hz0 PB.lt
    clear hz0
    clear PA hLa hLb
    refine region_B (by kernel_rfl) z0.drew.heap.size ?_
    replace O : Obl z0.drew W.heap.size 41 (oc o) := O
    replace PB : Obl z0.drew bb 41 (oc yb) := PB
    replace HB : Hid (Below W.heap.size W z0.drew) := hide ⟨HB.out.os, HB.out.tape, HB.out.output, HB.out.size, HB.out.block⟩
    generalize z0.drew = u0 at *
    have hOl := O.lt
    have hPl := PB.lt
    have hW0 := HB.out.size
    refine takeB 0 rfl (by kernel_rfl) (fun _ _ _ h => h) (by rfl) (by intro w' hg; exact exec_load_ob rfl rfl (O.below hg hOl)) ?_
    refine takeB 1 rfl (by kernel_rfl) (fun _ _ _ h => h) (by rfl) (by intro w' hg; exact exec_load_ob rfl rfl (PB.below hg hPl)) ?_
    refine takeB 2 rfl (by kernel_rfl) (fun _ _ _ h => h) (by rfl) (by intro w' hg; go_simp; try with_reducible rfl) ?_
    refine takeB 5 rfl (by kernel_rfl) (fun _ _ _ h => h) (by rfl) (by intro w' hg; go_simp; try with_reducible rfl) ?_
    refine takeB 11 rfl (by kernel_rfl) (fun _ _ _ h => h) (by rfl) (by intro w' hg; go_simp; try with_reducible rfl) ?_
    go_simp
    obtain ⟨n3, h3⟩ : ∃ n3, bits .and .i64 n 1 = n3 := ⟨_, rfl⟩
    obtain ⟨n4, h4⟩ : ∃ n4, IntKind.i64.wrap (1073741824 - n3) = n4 := ⟨_, rfl⟩
    refine takeB 6 (v := .int .i64 n3) rfl (by kernel_rfl) (fun _ _ _ h => h) (by rfl) (by intro w' hg; go_simp; try with_reducible rfl) ?_
    refine takeB 7 (v := .int .i64 n4) rfl (by kernel_rfl) (fun _ _ _ h => h) (by rfl) (by intro w' hg; go_simp; try with_reducible rfl) ?_
    go_simp
    refine takeB 8 (v := .agg (oc (Ob.sem 3 n4))) rfl (by kernel_rfl) (fun _ _ _ h => h) (by rfl) (by intro w' hg; exact exec_build rfl (vs := [(0, .int .u64 3), (1, .int .i64 8), (13, .int .i64 n4)]) (by go_simp) (built_sem _ _)) ?_
    go_simp
    refine onlyB 3 rfl (by kernel_rfl) (by rfl) ?_
    intro K hK
    go_simp
    refine (new_dice W.heap.size S q r bs _ (HBY.out.belowLe HB.out (Nat.le_refl _)) HB.out.size HQ.out).mono ?_
    rintro e u1 ⟨rfl, hD, hb1, hs1⟩
    have HD := hide hD
    have HB1 := hide (HB.out.trans (hb1.mono HB.out.size))
    refine hK _ _ hb1 ?_
    obtain ⟨d, hd⟩ : ∃ d, u0.heap.size = d := ⟨_, rfl⟩
    have hd0 : W.heap.size ≤ d := by omega
    rw [hd] at HD ⊢
    clear hK K hb1 hD HB O PB hOl hPl HBY hs1
    go_simp
    refine onlyB 4 rfl (by kernel_rfl) (by rfl) ?_
    intro K hK
    go_simp
    refine (object_dice d d _ HD.out).mono ?_
    rintro e u2 ⟨o3, rfl, hO3, hD3, hB3⟩
    have HB2 := hide (HB1.out.trans (hB3.below HB1.out.size (by omega)))
    have hb2 := hB3.below (C := d) (by have := HD.out.lt; omega) (Nat.le_refl _)
    refine hK _ _ hb2 ?_
    have hs12 := hB3.size
    clear hK K hB3 HB1 hO3 hD3
    go_simp
    refine onlyB 9 rfl (by kernel_rfl) (by rfl) ?_
    intro K hK
    refine wp_yield (exec_slice4 rfl rfl rfl rfl rfl) ?_
    have hdl := HD.out.lt
    have hu2 := hb2.size
    have hu1 := hs12
    refine hK _ _ ((Below.refl _ _).alloc (by omega) _) ?_
    clear hK K
    have OT := Obl.make u2 41 (four o yb o3 (Ob.sem 3 n4)).toArray
    have HB3 := hide (HB2.out.alloc HB2.out.size (.cells (four o yb o3 (Ob.sem 3 n4)).toArray 41))
    obtain ⟨u3, hu3⟩ : ∃ u3, u2.alloc (.cells (four o yb o3 (Ob.sem 3 n4)).toArray 41) = u3 := ⟨_, rfl⟩
    rw [hu3] at OT HB3 ⊢
    generalize u2.heap.size = gs at *
    clear hu3 HD hdl hu2 hu1 hs12 HB2 hb2 h3 h4 hW0 hd0 hd
    go_simp
    refine takeB 10 rfl (by kernel_rfl) (fun _ _ _ h => h) (by rfl) (by intro w' hg; go_simp; try with_reducible rfl) ?_
    refine doneB (by kernel_rfl) ?_
    go_simp
    go_wp2_with fail
    go_loopw [60] (fun s wr => ∃ k : Nat, s = .int .i64 (k : Int) ∧ k ≤ 4 ∧ Obl wr gs 41 (four o yb o3 (Ob.sem 3 n4)).toArray ∧ Hid (Below W.heap.size W wr)) (fun s _ => 4 - (intOf s).toNat)
    case atStart => exact ⟨0, rfl, by omega, OT, HB3⟩
    case round =>
      clear OT HB3
      obtain ⟨k, rfl, hk, OT, HB⟩ := hrel
      by_cases hlt : k < 4
      · have hlt' : (k : Int) < 4 := by omega
        obtain ⟨x, hx⟩ : ∃ x, [o, yb, o3, Ob.sem 3 n4][k]? = some x := ⟨[o, yb, o3, Ob.sem 3 n4][k], List.getElem?_eq_getElem hlt⟩
        obtain ⟨w5, hw5, m, hm, w6, hw6, OZ, O, hb6, hs6⟩ := laid_ob x wr
        go_wp2_with (first | (refine wpList_val (by rfl) (exec_load_four rfl rfl OT hx) ?_) | (refine store_ob rfl _ _ rfl rfl (c := x) rfl OZ rfl ?_; rw [hw6]) | (refine load_ob rfl _ rfl rfl O ?_) | fail)
        replace OT := OT.below hb6 OT.lt
        replace HB := hide (HB.out.trans (hb6.mono HB.out.size))
        clear hb6 hs6 OZ hw6 hw5 hm hx
        refine (smDown_ans x _).mono ?_
        rintro e v1 ⟨xa, rfl, LA, hv1⟩
        have hLa := hide LA
        clear LA
        replace OT := OT.below hv1 OT.lt
        replace O := O.below hv1 O.lt
        replace HB := hide (HB.out.trans ((hv1).mono HB.out.size))
        clear hv1
        obtain ⟨a1, hwa0, ab, hma, a2, hwa, OZa, PA, hba2, hsa2⟩ := laid_ob xa v1
        replace OT := OT.below hba2 OT.lt
        replace O := O.below hba2 O.lt
        replace HB := hide (HB.out.trans ((hba2).mono HB.out.size))
        clear hba2
        obtain ⟨re, hre⟩ : ∃ re, x.downErr = re := ⟨_, rfl⟩
        rw [hre]
        go_wp2_with (first | (refine store_ob rfl _ _ rfl rfl (c := xa) rfl OZa rfl ?_; rw [hwa]) | (refine load_ob rfl _ rfl rfl O ?_) | fail)
        clear OZa hwa hwa0 hma hsa2
        refine (refSmDown_ans x _).mono ?_
        rintro e v2 ⟨xb, rfl, LB, hv2⟩
        have hLb := hide LB
        clear LB
        replace OT := OT.below hv2 OT.lt
        replace O := O.below hv2 O.lt
        replace HB := hide (HB.out.trans ((hv2).mono HB.out.size))
        replace PA := PA.below hv2 PA.lt
        clear hv2
        obtain ⟨b1, hwb0, bb, hmb, b2, hwb, OZb, PB, hbb2, hsb2⟩ := laid_ob xb v2
        replace OT := OT.below hbb2 OT.lt
        replace O := O.below hbb2 O.lt
        replace HB := hide (HB.out.trans ((hbb2).mono HB.out.size))
        replace PA := PA.below hbb2 PA.lt
        clear hbb2
        rw [hre]
        clear hre
        go_wp2_with (first | (refine store_ob rfl _ _ rfl rfl (c := xb) rfl OZb rfl ?_; rw [hwb]) | (refine load_ob rfl _ rfl rfl O ?_) | fail)
        clear OZb hwb hwb0 hmb hsb2
        refine (smUp_ans x _).mono ?_
        rintro e v3 ⟨xc, rfl, LC, hv3⟩
        have hLc := hide LC
        clear LC
        replace OT := OT.below hv3 OT.lt
        replace O := O.below hv3 O.lt
        replace HB := hide (HB.out.trans ((hv3).mono HB.out.size))
        replace PA := PA.below hv3 PA.lt
        replace PB := PB.below hv3 PB.lt
        clear hv3
        obtain ⟨c1, hwc0, cb, hmc, c2, hwc, OZc, PC, hbc2, hsc2⟩ := laid_ob xc v3
        replace OT := OT.below hbc2 OT.lt
        replace O := O.below hbc2 O.lt
        replace HB := hide (HB.out.trans ((hbc2).mono HB.out.size))
        replace PA := PA.below hbc2 PA.lt
        replace PB := PB.below hbc2 PB.lt
        clear hbc2
        obtain ⟨ue, hue⟩ : ∃ ue, x.upErr = ue := ⟨_, rfl⟩
        rw [hue]
        go_wp2_with (first | (refine store_ob rfl _ _ rfl rfl (c := xc) rfl OZc rfl ?_; rw [hwc]) | (refine load_ob rfl _ rfl rfl O ?_) | fail)
        clear OZc hwc hwc0 hmc hsc2
        refine (refSmUp_ans x _).mono ?_
        rintro e v4 ⟨xd, rfl, LD, hv4⟩
        have hLd := hide LD
        clear LD
        replace OT := OT.below hv4 OT.lt
        replace O := O.below hv4 O.lt
        replace HB := hide (HB.out.trans ((hv4).mono HB.out.size))
        replace PA := PA.below hv4 PA.lt
        replace PB := PB.below hv4 PB.lt
        replace PC := PC.below hv4 PC.lt
        clear hv4
        obtain ⟨d1, hwd0, db, hmd, d2, hwd, OZd, PD, hbd2, hsd2⟩ := laid_ob xd v4
        replace OT := OT.below hbd2 OT.lt
        replace O := O.below hbd2 O.lt
        replace HB := hide (HB.out.trans ((hbd2).mono HB.out.size))
        replace PA := PA.below hbd2 PA.lt
        replace PB := PB.below hbd2 PB.lt
        replace PC := PC.below hbd2 PC.lt
        clear hbd2
        rw [hue]
        clear hue
        go_upto_region 16 with (first | (refine store_ob rfl _ _ rfl rfl (c := xd) rfl OZd rfl ?_; rw [hwd]) | fail)
        clear OZd hwd hwd0 hmd hsd2
        obtain ⟨bv, hbv⟩ : ∃ bv, decide x.Sem = bv := ⟨_, rfl⟩
        refine region_B (by kernel_rfl) d2.drew.heap.size ?_
        replace O : Obl d2.drew m 41 (oc x) := O
        have lO := O.lt
        replace PA : Obl d2.drew ab 41 (oc xa) := PA
        have lPA := PA.lt
        replace PB : Obl d2.drew bb 41 (oc xb) := PB
        have lPB := PB.lt
        replace PC : Obl d2.drew cb 41 (oc xc) := PC
        have lPC := PC.lt
        replace PD : Obl d2.drew db 41 (oc xd) := PD
        have lPD := PD.lt
        replace OT : Obl d2.drew gs 41 (four o yb o3 (Ob.sem 3 n4)).toArray := OT
        replace HB : Hid (Below W.heap.size W d2.drew) := hide ⟨HB.out.os, HB.out.tape, HB.out.output, HB.out.size, HB.out.block⟩
        generalize d2.drew = z0 at *
        refine takeB 0 rfl (by kernel_rfl) (fun _ _ _ h => h) (by rfl) (by intro w' hg; go_simp; try with_reducible rfl) ?_
        refine takeB 1 rfl (by kernel_rfl) (fun _ _ _ h => h) (by rfl) (by intro w' hg; go_simp; try with_reducible rfl) ?_
        go_simp
        refine takeB 2 rfl (by kernel_rfl) (fun _ _ _ h => h) (by rfl) (by intro w' hg; go_simp; try with_reducible rfl) ?_
        go_simp
        refine takeB 3 rfl (by kernel_rfl) (fun _ _ _ h => h) (by rfl) (by intro w' hg; go_simp; try with_reducible rfl) ?_
        go_simp
        refine takeB 4 rfl (by kernel_rfl) (fun _ _ _ h => h) (by kernel_rfl) (by intro w' hg; exact exec_load_ob rfl rfl (PA.below hg lPA)) ?_
        refine takeB 5 rfl (by kernel_rfl) (fun _ _ _ h => h) (by kernel_rfl) (by intro w' hg; exact exec_load_ob rfl rfl (PB.below hg lPB)) ?_
        go_simp
        refine onlyB 6 rfl (by kernel_rfl) (by kernel_rfl) ?_
        intro K hK
        go_simp
        refine (same_smlike hLa.out hLb.out _).mono ?_
        rintro e z1 ⟨rfl, hz1⟩
        refine hK _ _ (hz1.mono (by omega)) ?_
        clear hK K
        have hs_z1 := hz1.size
        replace OT := OT.below hz1 OT.lt
        replace HB := hide (HB.out.trans (hz1.mono HB.out.size))
        replace PC := PC.below hz1 PC.lt
        replace PD := PD.below hz1 PD.lt
        replace O := O.below hz1 O.lt
        clear hz1
        go_simp
        refine takeB 7 rfl (by kernel_rfl) (fun _ _ _ h => h) (by kernel_rfl) (by intro w' hg; go_simp; try with_reducible rfl) ?_
        go_simp
        refine takeB 8 rfl (by kernel_rfl) (fun _ _ _ h => h) (by rfl) (by intro w' hg; go_simp; try with_reducible rfl) ?_
        go_simp
        refine takeB 9 rfl (by kernel_rfl) (fun _ _ _ h => h) (by rfl) (by intro w' hg; go_simp; try with_reducible rfl) ?_
        go_simp
        refine takeB 10 rfl (by kernel_rfl) (fun _ _ _ h => h) (by kernel_rfl) (by intro w' hg; go_simp; try with_reducible rfl) ?_
        refine takeB 11 rfl (by kernel_rfl) (fun _ _ _ h => h) (by kernel_rfl) (by intro w' hg; go_simp; try with_reducible rfl) ?_
        go_simp
        refine takeB 12 rfl (by kernel_rfl) (fun _ _ _ h => h) (by kernel_rfl) (by intro w' hg; go_simp; try with_reducible rfl) ?_
        go_simp
        refine takeB 13 rfl (by kernel_rfl) (fun _ _ _ h => h) (by rfl) (by intro w' hg; go_simp; try with_reducible rfl) ?_
        go_simp
        refine takeB 14 rfl (by kernel_rfl) (fun _ _ _ h => h) (by rfl) (by intro w' hg; go_simp; try with_reducible rfl) ?_
        go_simp
        refine takeB 15 rfl (by kernel_rfl) (fun _ _ _ h => h) (by kernel_rfl) (by intro w' hg; exact exec_load_ob rfl rfl (PC.below hg lPC)) ?_
        refine takeB 16 rfl (by kernel_rfl) (fun _ _ _ h => h) (by kernel_rfl) (by intro w' hg; exact exec_load_ob rfl rfl (PD.below hg lPD)) ?_
        go_simp
        refine onlyB 17 rfl (by kernel_rfl) (by kernel_rfl) ?_
        intro K hK
        go_simp
        refine (same_smlike hLc.out hLd.out _).mono ?_
        rintro e z2 ⟨rfl, hz2⟩
        refine hK _ _ (hz2.mono (by omega)) ?_
        clear hK K
        have hs_z2 := hz2.size
        replace OT := OT.below hz2 OT.lt
        replace HB := hide (HB.out.trans (hz2.mono HB.out.size))
        replace PC := PC.below hz2 PC.lt
        replace PD := PD.below hz2 PD.lt
        replace O := O.below hz2 O.lt
        clear hz2
        go_simp
        refine takeB 18 rfl (by kernel_rfl) (fun _ _ _ h => h) (by kernel_rfl) (by intro w' hg; go_simp; try with_reducible rfl) ?_
        go_simp
        refine takeB 19 rfl (by kernel_rfl) (fun _ _ _ h => h) (by rfl) (by intro w' hg; go_simp; try with_reducible rfl) ?_
        go_simp
        refine takeB 20 rfl (by kernel_rfl) (fun _ _ _ h => h) (by rfl) (by intro w' hg; go_simp; try with_reducible rfl) ?_
        go_simp
        refine takeB 21 rfl (by kernel_rfl) (fun _ _ _ h => h) (by kernel_rfl) (by intro w' hg; exact exec_load_ob rfl rfl (O.below hg lO)) ?_
        refine takeB 23 rfl (by kernel_rfl) (fun _ _ _ h => h) (by kernel_rfl) (by intro w' hg; exact exec_load_ob rfl rfl (O.below hg lO)) ?_
        go_simp
        refine onlyB 22 rfl (by kernel_rfl) (by kernel_rfl) ?_
        intro K hK
        go_simp
        refine (smValid_any x _).mono ?_
        rintro e z3 ⟨rfl, hz3⟩
        refine hK _ _ (hz3.mono (by omega)) ?_
        clear hK K
        have hs_z3 := hz3.size
        replace OT := OT.below hz3 OT.lt
        replace HB := hide (HB.out.trans (hz3.mono HB.out.size))
        replace PC := PC.below hz3 PC.lt
        replace PD := PD.below hz3 PD.lt
        replace O := O.below hz3 O.lt
        clear hz3
        rw [hbv]
        go_simp
        refine onlyB 24 rfl (by kernel_rfl) (by kernel_rfl) ?_
        intro K hK
        go_simp
        refine (refSmValid_any x _).mono ?_
        rintro e z4 ⟨rfl, hz4⟩
        refine hK _ _ (hz4.mono (by omega)) ?_
        clear hK K
        have hs_z4 := hz4.size
        replace OT := OT.below hz4 OT.lt
        replace HB := hide (HB.out.trans (hz4.mono HB.out.size))
        replace PC := PC.below hz4 PC.lt
        replace PD := PD.below hz4 PD.lt
        replace O := O.below hz4 O.lt
        clear hz4
        rw [hbv]
        go_simp
        refine takeB 25 rfl (by kernel_rfl) (fun _ _ _ h => h) (by kernel_rfl) (by intro w' hg; go_simp; try with_reducible rfl) ?_
        go_simp
        refine takeB 26 rfl (by kernel_rfl) (fun _ _ _ h => h) (by rfl) (by intro w' hg; go_simp; try with_reducible rfl) ?_
        go_simp
        refine doneB (by kernel_rfl) ?_
        go_simp
        clear hbv
        go_wp2_with fail
        go_roundw
        case rel => exact ⟨k + 1, by go_num, by omega, OT, HB⟩
        case measure => simp [intOf]; omega
      · obtain rfl : k = 4 := by omega
        go_wp2_with fail
        go_ret
        exact ⟨rfl, HB.out⟩
end Go.Proofs.Ytbjipppkkobgbaa
