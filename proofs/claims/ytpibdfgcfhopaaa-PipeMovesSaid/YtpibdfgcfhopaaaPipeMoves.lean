/- Layer 11: pipes as the reference has them (PipeMoves): the walk. (Written by tools/mkpipemoves.py.) -/
import Derived.Test.YtpibdfgcfhopaaaPpLaw
import Derived.Test.YtpibdfgcfhopaaaPpAny
import Derived.Test.YtpibdfgcfhopaaaObObj
import Derived.Test.YtpibdfgcfhopaaaObCame
namespace Go.Proofs.Ytpibdfgcfhopaaa
open Go.RowKit

/-- Three objects, in a block of their own, whose data is to be read. -/
structure Three11 (w : World) (g : Nat) (a b c : Ob) : Prop where
  ob : Obl w g 41 (ocl a ++ (ocl b ++ ocl c)).toArray
  able : ∀ x ∈ [a, b, c], x.data.n ≤ x.data.c ∧ ∃ D, Bytes w w.heap.size x.data.A x.data.n D
theorem Three11.below {w w' : World} {g : Nat} {a b c : Ob} (h : Three11 w g a b c) (hb : Below w.heap.size w w') : Three11 w' g a b c := ⟨h.ob.below hb h.ob.lt, fun x hx => ⟨(h.able x hx).1, (h.able x hx).2.imp fun _ h => (h.below hb).mono hb.size⟩⟩

set_option maxRecDepth 100000 in
set_option maxHeartbeats 16000000 in
theorem pipeMoves_any (o : Ob) (l : List Nm) (strs : List (List UInt8)) (D0 : List UInt8) (S : Option Addr) (q r : Nat) (bs : List UInt8) (ch : UInt8) (id : Int) (W : World) (hl : Nms W W.heap.size o.names.A o.names.n l) (hS : Strs W W.heap.size o.strs.A o.strs.n strs) (hf : Fits o l strs)
    (hD0 : Bytes W W.heap.size o.data.A o.data.n D0) (hc0 : o.data.n ≤ o.data.c) (h : Bytes W W.heap.size S q bs) (hq : q ≤ r ∧ r ≤ 9223372036854775807) :
    Calls Try.prog 3 #[.agg (oc o), .slice S q r, .int .u8 (ch.toNat : Int), .int .u64 id] W (BoolPost true W) := by
  obtain ⟨w0, hw, O, hb, hs⟩ : ∃ w0, W.alloc (.cells (oc o) 41) = w0 ∧ Obl w0 W.heap.size 41 (oc o) ∧ Below W.heap.size W w0 ∧ w0.heap.size = W.heap.size + 1 :=
    ⟨_, rfl, Obl.make W _ _, (Below.refl _ _).alloc (Nat.le_refl _) _, by simp⟩
  have HN := hide hl
  have HST := hide hS
  have HF := hide hf
  have HLW := hide hD0
  have HC0 := hide hc0
  have HBY := hide h
  have HQ := hide hq
  have HB := hide hb
  clear hl hS hf hD0 hc0 h hq hb hs
  go_enter Try.func3, Try.ntmps3
  try dsimp only [List.append]
  go_wp2_with fail
  refine (ppSane_any _).mono ?_
  rintro e w1 ⟨rfl, hb1⟩
  replace O := O.below hb1 O.lt
  replace HB := hide (HB.out.trans (hb1.mono HB.out.size))
  clear hb1 hw
  go_wp2_with (first | (refine load_ob rfl _ rfl rfl O ?_) | fail)
  refine (keepob_any o l strs _ ((HN.out.below HB.out).mono HB.out.size) ((HST.out.below HB.out).mono HB.out.size) HF.out).mono ?_
  rintro e w2 ⟨bv, rfl, hb2⟩
  replace O := O.below hb2 O.lt
  replace HB := hide (HB.out.trans (hb2.mono HB.out.size))
  clear hb2 HN HST HF
  cases bv with
  | false =>
    go_wp2_with fail
    go_ret
    exact ⟨rfl, HB.out⟩
  | true =>
    have hW2 := O.lt
    go_wp2_with fail
    refine (new_dice W.heap.size S q r bs _ (HBY.out.belowLe HB.out (Nat.le_refl _)) HB.out.size HQ.out).mono ?_
    rintro e w3 ⟨rfl, hD, hb3, hs3⟩
    replace O := O.below hb3 O.lt
    replace HB := hide (HB.out.trans (hb3.mono HB.out.size))
    have HD := hide hD
    obtain ⟨d, hd⟩ : ∃ d, w2.heap.size = d := ⟨_, rfl⟩
    have hdW : W.heap.size < d := by omega
    rw [hd] at HD ⊢
    clear hb3 hD HBY hW2 hd hs3
    go_wp2_with fail
    refine region_D (by kernel_rfl) w3.drew.heap.size d [] ?_
    replace O : Obl w3.drew W.heap.size 41 (oc o) := O
    replace HD : Hid (Dice w3.drew d d) := HD
    replace HB : Hid (Below W.heap.size W w3.drew) := hide ⟨HB.out.os, HB.out.tape, HB.out.output, HB.out.size, HB.out.block⟩
    generalize w3.drew = u0 at *
    have hd0 := HD.out.lt
    have hOW := O.lt
    refine takeDX 1 rfl (by kernel_rfl) (fun _ _ _ h => h) (by rfl) (by intro w'; go_simp; try with_reducible rfl) ?_
    refine takeDX 2 rfl (by kernel_rfl) (fun _ _ _ h => h) (by rfl) (by intro w'; go_simp; try with_reducible rfl) ?_
    refine takeDX 5 rfl (by kernel_rfl) (fun _ _ _ h => h) (by rfl) (by intro w'; go_simp; try with_reducible rfl) ?_
    refine takeDX 9 rfl (by kernel_rfl) (fun _ _ _ h => h) (by rfl) (by intro w'; go_simp; try with_reducible rfl) ?_
    refine takeD 0 [0] rfl (by kernel_rfl) (fun _ _ _ h => h) (by rfl) (by intro w' hq; exact exec_load_ob rfl rfl (hq.obl' O (by omega))) ?_
    go_simp
    refine onlyD 3 rfl (by kernel_rfl) (by rfl) ?_
    intro K hK
    go_simp
    refine (id_dice d d _ HD.out).mono ?_
    rintro e u1 ⟨v1, rfl, hD1, hB1⟩
    have hs1 : u0.heap.size ≤ u1.heap.size := hB1.size
    have HB1 := hide (HB.out.trans (hB1.below HB.out.size (by omega)))
    refine hK _ _ (fun _ => hB1) ?_
    clear hK K hB1 HB HD O
    go_simp
    refine onlyD 4 rfl (by kernel_rfl) (by rfl) ?_
    intro K hK
    go_simp
    refine (pipe_dice d d v1 _ hD1).mono ?_
    rintro e u2 ⟨o2, rfl, hO2, hD2, hB2⟩
    have hs2 : u1.heap.size ≤ u2.heap.size := hB2.size
    have HB2 := hide (HB1.out.trans (hB2.below HB1.out.size (by omega)))
    refine hK _ _ (fun _ => hB2.mono hs1) ?_
    clear hK K hB2 HB1 hD1
    go_simp
    refine onlyD 6 rfl (by kernel_rfl) (by rfl) ?_
    intro K hK
    go_simp
    refine (object_dice d d _ hD2).mono ?_
    rintro e u3 ⟨o3, rfl, hO3, hD3, hB3⟩
    have hs3 : u2.heap.size ≤ u3.heap.size := hB3.size
    have HB3 := hide (HB2.out.trans (hB3.below HB2.out.size (by omega)))
    obtain ⟨D2, hown2⟩ := (hO2.bel hB3 (by omega)).data
    obtain ⟨D3, hown3⟩ := hO3.data
    refine hK _ _ (fun _ => hB3.mono (by omega)) ?_
    clear hK K hB3 HB2 hD2 hO2 hO3 hD3
    go_simp
    refine onlyD 7 rfl (by kernel_rfl) (by rfl) ?_
    intro K hK
    refine wp_yield (exec_slice3 rfl rfl rfl rfl) ?_
    refine hK _ _ (fun _ => Bel.of ((Below.refl _ _).alloc (by omega) _)) ?_
    clear hK K
    have HT : Hid (Three11 (u3.alloc (.cells (ocl o ++ (ocl o2 ++ ocl o3)).toArray 41)) u3.heap.size o o2 o3) := by
      have hbA := (Below.refl u3.heap.size u3).alloc (Nat.le_refl _) (.cells (ocl o ++ (ocl o2 ++ ocl o3)).toArray 41)
      refine hide ⟨Obl.make u3 _ _, fun x hx => ?_⟩
      simp only [List.mem_cons, List.not_mem_nil, or_false] at hx
      rcases hx with rfl | rfl | rfl
      · exact ⟨HC0.out, D0, (((HLW.out.below HB3.out).mono HB3.out.size).below hbA).mono hbA.size⟩
      · exact ⟨own_cap hown2, D2, ((Bytes.of_own hown2).below hbA).mono hbA.size⟩
      · exact ⟨own_cap hown3, D3, ((Bytes.of_own hown3).below hbA).mono hbA.size⟩
    have HB4 := hide (HB3.out.alloc HB3.out.size (.cells (ocl o ++ (ocl o2 ++ ocl o3)).toArray 41))
    generalize u3.alloc (.cells (ocl o ++ (ocl o2 ++ ocl o3)).toArray 41) = u4 at *
    generalize u3.heap.size = gs at *
    clear HLW HC0 HB3 hown2 hown3 hs1 hs2 hs3 hd0 hOW
    refine takeDX 8 rfl (by kernel_rfl) (fun _ _ _ h => h) (by rfl) (by intro w'; go_simp; try with_reducible rfl) ?_
    refine doneD (by kernel_rfl) ?_
    go_simp
    go_wp2_with fail
    go_loopw [38] (fun s wr => ∃ k : Nat, s = .int .i64 (k : Int) ∧ k ≤ 3 ∧ Hid (Three11 wr gs o o2 o3) ∧ Hid (Below W.heap.size W wr)) (fun s _ => 3 - (intOf s).toNat)
    case atStart => exact ⟨0, rfl, by omega, HT, HB4⟩
    case round =>
      clear HT HB4
      obtain ⟨k, rfl, hk, T, HB⟩ := hrel
      by_cases hlt : k < 3
      · have hlt' : (k : Int) < 3 := by omega
        obtain ⟨x, hx⟩ : ∃ x, [o, o2, o3][k]? = some x := ⟨[o, o2, o3][k], List.getElem?_eq_getElem hlt⟩
        obtain ⟨hcx, Dx, hDx⟩ := T.out.able x (List.mem_of_getElem? hx)
        have HCX := hide hcx
        have HDX := hide hDx
        have OT := T.out.ob
        obtain ⟨w5, hw5, m, hm, w6, hw6, OZ, O, hb6, hs6⟩ := laid_ob x wr
        have hgm := OT.lt
        clear hcx hDx
        go_wp2_with (first | (refine wpList_val (by rfl) (exec_load_three rfl rfl OT hx) ?_) | (refine store_ob rfl _ _ rfl rfl (c := x) rfl OZ rfl ?_; rw [hw6]) | (refine load_ob rfl _ rfl rfl O ?_) | fail)
        replace T := hide (T.out.below hb6)
        replace HDX := hide ((HDX.out.below hb6).mono hb6.size)
        replace HB := hide (HB.out.trans (hb6.mono HB.out.size))
        clear hb6 hs6 OZ hw6 hw5 hm OT hgm hx
        refine (ppRead_any x Dx _ HDX.out HCX.out).mono ?_
        rintro e v1 ⟨ya, rfl, LA, hN, hv1⟩
        have NA := hide hN
        clear hN
        have hLa := hide LA
        clear LA
        replace T := hide (T.out.below hv1)
        replace O := O.below hv1 O.lt
        replace HDX := hide ((HDX.out.below hv1).mono (hv1).size)
        replace HB := hide (HB.out.trans ((hv1).mono HB.out.size))
        clear hv1
        obtain ⟨a1, hwa0, ab, hma, a2, hwa, OZa, PA, hba2, hsa2⟩ := laid_ob ya v1
        replace T := hide (T.out.below hba2)
        replace O := O.below hba2 O.lt
        replace HDX := hide ((HDX.out.below hba2).mono (hba2).size)
        replace HB := hide (HB.out.trans ((hba2).mono HB.out.size))
        replace NA := hide ((NA.out.below hba2).mono (hba2).size)
        clear hba2
        obtain ⟨rv, hrv⟩ : ∃ rv, x.rdVal Dx = rv := ⟨_, rfl⟩
        obtain ⟨re, hre⟩ : ∃ re, x.rdErr = re := ⟨_, rfl⟩
        rw [hrv, hre]
        go_wp2_with (first | (refine store_ob rfl _ _ rfl rfl (c := ya) rfl OZa rfl ?_; rw [hwa]) | (refine load_ob rfl _ rfl rfl O ?_) | fail)
        clear OZa hwa hwa0 hma hsa2
        refine (refPpRead_any x Dx _ HDX.out HCX.out).mono ?_
        rintro e v2 ⟨yb, rfl, LB, hN, hv2⟩
        have NB := hide hN
        clear hN
        have hLb := hide LB
        clear LB
        replace T := hide (T.out.below hv2)
        replace O := O.below hv2 O.lt
        replace HDX := hide ((HDX.out.below hv2).mono (hv2).size)
        replace HB := hide (HB.out.trans ((hv2).mono HB.out.size))
        replace PA := PA.below hv2 PA.lt
        replace NA := hide ((NA.out.below hv2).mono (hv2).size)
        clear hv2
        obtain ⟨b1, hwb0, bb, hmb, b2, hwb, OZb, PB, hbb2, hsb2⟩ := laid_ob yb v2
        replace T := hide (T.out.below hbb2)
        replace O := O.below hbb2 O.lt
        replace HDX := hide ((HDX.out.below hbb2).mono (hbb2).size)
        replace HB := hide (HB.out.trans ((hbb2).mono HB.out.size))
        replace PA := PA.below hbb2 PA.lt
        replace NA := hide ((NA.out.below hbb2).mono (hbb2).size)
        replace NB := hide ((NB.out.below hbb2).mono (hbb2).size)
        clear hbb2
        rw [hrv, hre]
        clear hrv hre
        go_wp2_with (first | (refine store_ob rfl _ _ rfl rfl (c := yb) rfl OZb rfl ?_; rw [hwb]) | (refine load_ob rfl _ rfl rfl O ?_) | fail)
        clear OZb hwb hwb0 hmb hsb2
        refine (ppWrite_any x ch Dx _ HDX.out HCX.out).mono ?_
        rintro e v3 ⟨yc, rfl, LC, hN, hv3⟩
        have NC := hide hN
        clear hN
        have hLc := hide LC
        clear LC
        replace T := hide (T.out.below hv3)
        replace O := O.below hv3 O.lt
        replace HDX := hide ((HDX.out.below hv3).mono (hv3).size)
        replace HB := hide (HB.out.trans ((hv3).mono HB.out.size))
        replace PA := PA.below hv3 PA.lt
        replace NA := hide ((NA.out.below hv3).mono (hv3).size)
        replace PB := PB.below hv3 PB.lt
        replace NB := hide ((NB.out.below hv3).mono (hv3).size)
        clear hv3
        obtain ⟨c1, hwc0, cb, hmc, c2, hwc, OZc, PC, hbc2, hsc2⟩ := laid_ob yc v3
        replace T := hide (T.out.below hbc2)
        replace O := O.below hbc2 O.lt
        replace HDX := hide ((HDX.out.below hbc2).mono (hbc2).size)
        replace HB := hide (HB.out.trans ((hbc2).mono HB.out.size))
        replace PA := PA.below hbc2 PA.lt
        replace NA := hide ((NA.out.below hbc2).mono (hbc2).size)
        replace PB := PB.below hbc2 PB.lt
        replace NB := hide ((NB.out.below hbc2).mono (hbc2).size)
        replace NC := hide ((NC.out.below hbc2).mono (hbc2).size)
        clear hbc2
        obtain ⟨we, hwe⟩ : ∃ we, x.wrErr = we := ⟨_, rfl⟩
        rw [hwe]
        go_wp2_with (first | (refine store_ob rfl _ _ rfl rfl (c := yc) rfl OZc rfl ?_; rw [hwc]) | (refine load_ob rfl _ rfl rfl O ?_) | fail)
        clear OZc hwc hwc0 hmc hsc2
        refine (refPpWrite_any x ch Dx _ HDX.out).mono ?_
        rintro e v4 ⟨yd, rfl, LD, hN, hv4⟩
        have ND := hide hN
        clear hN
        have hLd := hide LD
        clear LD
        replace T := hide (T.out.below hv4)
        replace O := O.below hv4 O.lt
        replace HDX := hide ((HDX.out.below hv4).mono (hv4).size)
        replace HB := hide (HB.out.trans ((hv4).mono HB.out.size))
        replace PA := PA.below hv4 PA.lt
        replace NA := hide ((NA.out.below hv4).mono (hv4).size)
        replace PB := PB.below hv4 PB.lt
        replace NB := hide ((NB.out.below hv4).mono (hv4).size)
        replace PC := PC.below hv4 PC.lt
        replace NC := hide ((NC.out.below hv4).mono (hv4).size)
        clear hv4
        obtain ⟨d1, hwd0, db, hmd, d2, hwd, OZd, PD, hbd2, hsd2⟩ := laid_ob yd v4
        replace T := hide (T.out.below hbd2)
        replace O := O.below hbd2 O.lt
        replace HDX := hide ((HDX.out.below hbd2).mono (hbd2).size)
        replace HB := hide (HB.out.trans ((hbd2).mono HB.out.size))
        replace PA := PA.below hbd2 PA.lt
        replace NA := hide ((NA.out.below hbd2).mono (hbd2).size)
        replace PB := PB.below hbd2 PB.lt
        replace NB := hide ((NB.out.below hbd2).mono (hbd2).size)
        replace PC := PC.below hbd2 PC.lt
        replace NC := hide ((NC.out.below hbd2).mono (hbd2).size)
        replace ND := hide ((ND.out.below hbd2).mono (hbd2).size)
        clear hbd2
        rw [hwe]
        clear hwe
        go_wp2_with (first | (refine store_ob rfl _ _ rfl rfl (c := yd) rfl OZd rfl ?_; rw [hwd]) | fail)
        clear OZd hwd hwd0 hmd hsd2
        obtain ⟨bv, hbv⟩ : ∃ bv, decide x.Pipe = bv := ⟨_, rfl⟩
        refine region_B (by kernel_rfl) d2.drew.heap.size ?_
        replace O : Obl d2.drew m 41 (oc x) := O
        replace PA : Obl d2.drew ab 41 (oc ya) := PA
        replace PB : Obl d2.drew bb 41 (oc yb) := PB
        replace PC : Obl d2.drew cb 41 (oc yc) := PC
        replace PD : Obl d2.drew db 41 (oc yd) := PD
        replace T : Hid (Three11 d2.drew gs o o2 o3) := hide ⟨T.out.ob, T.out.able⟩
        replace HB : Hid (Below W.heap.size W d2.drew) := hide ⟨HB.out.os, HB.out.tape, HB.out.output, HB.out.size, HB.out.block⟩
        replace NA : Hid (Bytes d2.drew d2.drew.heap.size ya.data.A ya.data.n (x.rdBytes Dx)) := NA
        replace NB : Hid (Bytes d2.drew d2.drew.heap.size yb.data.A yb.data.n (x.rdBytes Dx)) := NB
        replace NC : Hid (Bytes d2.drew d2.drew.heap.size yc.data.A yc.data.n (x.wrBytes Dx ch)) := NC
        replace ND : Hid (Bytes d2.drew d2.drew.heap.size yd.data.A yd.data.n (x.wrBytes Dx ch)) := ND
        clear HDX HCX
        generalize d2.drew = z0 at *
        have lO := O.lt
        have lA := PA.lt
        have lB := PB.lt
        have lC := PC.lt
        have lD := PD.lt
        refine takeB 0 rfl (by kernel_rfl) (fun _ _ _ h => h) (by rfl) (by intro w' hg; go_simp; try with_reducible rfl) ?_
        refine takeB 1 rfl (by kernel_rfl) (fun _ _ _ h => h) (by rfl) (by intro w' hg; go_simp; try with_reducible rfl) ?_
        refine takeB 2 rfl (by kernel_rfl) (fun _ _ _ h => h) (by rfl) (by intro w' hg; go_simp; try with_reducible rfl) ?_
        refine takeB 3 rfl (by kernel_rfl) (fun _ _ _ h => h) (by rfl) (by intro w' hg; go_simp; try with_reducible rfl) ?_
        refine takeB 4 rfl (by kernel_rfl) (fun _ _ _ h => h) (by kernel_rfl) (by intro w' hg; go_simp; try with_reducible rfl) ?_
        refine takeB 5 rfl (by kernel_rfl) (fun _ _ _ h => h) (by kernel_rfl) (by intro w' hg; go_simp; try with_reducible rfl) ?_
        refine takeB 6 rfl (by kernel_rfl) (fun _ _ _ h => h) (by kernel_rfl) (by intro w' hg; go_simp; try with_reducible rfl) ?_
        refine takeB 7 rfl (by kernel_rfl) (fun _ _ _ h => h) (by rfl) (by intro w' hg; go_simp; try with_reducible rfl) ?_
        refine takeB 8 rfl (by kernel_rfl) (fun _ _ _ h => h) (by rfl) (by intro w' hg; go_simp; try with_reducible rfl) ?_
        go_simp
        refine takeB 9 rfl (by kernel_rfl) (fun _ _ _ h => h) (by kernel_rfl) (by intro w' hg; exact exec_load_ob rfl rfl (PA.below hg (by omega))) ?_
        refine takeB 10 rfl (by kernel_rfl) (fun _ _ _ h => h) (by kernel_rfl) (by intro w' hg; exact exec_load_ob rfl rfl (PB.below hg (by omega))) ?_
        go_simp
        refine onlyB 11 rfl (by kernel_rfl) (by kernel_rfl) ?_
        intro K hK
        go_simp
        refine (same_like hLa.out hLb.out NA.out NB.out).mono ?_
        rintro e z1 ⟨rfl, hz1⟩
        refine hK _ _ (hz1.mono (by omega)) ?_
        clear hK K
        have hs_z1 := hz1.size
        replace T := hide (T.out.below hz1)
        replace O := O.below hz1 O.lt
        replace HB := hide (HB.out.trans ((hz1).mono HB.out.size))
        replace PA := PA.below hz1 PA.lt
        replace PB := PB.below hz1 PB.lt
        replace PC := PC.below hz1 PC.lt
        replace PD := PD.below hz1 PD.lt
        replace NA := hide ((NA.out.below hz1).mono (hz1).size)
        replace NB := hide ((NB.out.below hz1).mono (hz1).size)
        replace NC := hide ((NC.out.below hz1).mono (hz1).size)
        replace ND := hide ((ND.out.below hz1).mono (hz1).size)
        clear hz1
        refine takeB 12 rfl (by kernel_rfl) (fun _ _ _ h => h) (by kernel_rfl) (by intro w' hg; go_simp; try with_reducible rfl) ?_
        refine takeB 13 rfl (by kernel_rfl) (fun _ _ _ h => h) (by rfl) (by intro w' hg; go_simp; try with_reducible rfl) ?_
        refine takeB 14 rfl (by kernel_rfl) (fun _ _ _ h => h) (by rfl) (by intro w' hg; go_simp; try with_reducible rfl) ?_
        refine takeB 15 rfl (by kernel_rfl) (fun _ _ _ h => h) (by kernel_rfl) (by intro w' hg; go_simp; try with_reducible rfl) ?_
        refine takeB 16 rfl (by kernel_rfl) (fun _ _ _ h => h) (by kernel_rfl) (by intro w' hg; go_simp; try with_reducible rfl) ?_
        refine takeB 17 rfl (by kernel_rfl) (fun _ _ _ h => h) (by kernel_rfl) (by intro w' hg; go_simp; try with_reducible rfl) ?_
        refine takeB 18 rfl (by kernel_rfl) (fun _ _ _ h => h) (by rfl) (by intro w' hg; go_simp; try with_reducible rfl) ?_
        refine takeB 19 rfl (by kernel_rfl) (fun _ _ _ h => h) (by rfl) (by intro w' hg; go_simp; try with_reducible rfl) ?_
        go_simp
        refine takeB 20 rfl (by kernel_rfl) (fun _ _ _ h => h) (by kernel_rfl) (by intro w' hg; exact exec_load_ob rfl rfl (PC.below hg (by omega))) ?_
        refine takeB 21 rfl (by kernel_rfl) (fun _ _ _ h => h) (by kernel_rfl) (by intro w' hg; exact exec_load_ob rfl rfl (PD.below hg (by omega))) ?_
        go_simp
        refine onlyB 22 rfl (by kernel_rfl) (by kernel_rfl) ?_
        intro K hK
        go_simp
        refine (same_like hLc.out hLd.out NC.out ND.out).mono ?_
        rintro e z2 ⟨rfl, hz2⟩
        refine hK _ _ (hz2.mono (by omega)) ?_
        clear hK K
        have hs_z2 := hz2.size
        replace T := hide (T.out.below hz2)
        replace O := O.below hz2 O.lt
        replace HB := hide (HB.out.trans ((hz2).mono HB.out.size))
        replace PA := PA.below hz2 PA.lt
        replace PB := PB.below hz2 PB.lt
        replace PC := PC.below hz2 PC.lt
        replace PD := PD.below hz2 PD.lt
        replace NA := hide ((NA.out.below hz2).mono (hz2).size)
        replace NB := hide ((NB.out.below hz2).mono (hz2).size)
        replace NC := hide ((NC.out.below hz2).mono (hz2).size)
        replace ND := hide ((ND.out.below hz2).mono (hz2).size)
        clear hz2
        refine takeB 23 rfl (by kernel_rfl) (fun _ _ _ h => h) (by kernel_rfl) (by intro w' hg; go_simp; try with_reducible rfl) ?_
        refine takeB 24 rfl (by kernel_rfl) (fun _ _ _ h => h) (by rfl) (by intro w' hg; go_simp; try with_reducible rfl) ?_
        refine takeB 25 rfl (by kernel_rfl) (fun _ _ _ h => h) (by rfl) (by intro w' hg; go_simp; try with_reducible rfl) ?_
        go_simp
        refine takeB 26 rfl (by kernel_rfl) (fun _ _ _ h => h) (by kernel_rfl) (by intro w' hg; exact exec_load_ob rfl rfl (O.below hg (by omega))) ?_
        refine takeB 28 rfl (by kernel_rfl) (fun _ _ _ h => h) (by kernel_rfl) (by intro w' hg; exact exec_load_ob rfl rfl (O.below hg (by omega))) ?_
        go_simp
        refine onlyB 27 rfl (by kernel_rfl) (by kernel_rfl) ?_
        intro K hK
        go_simp
        refine (ppValid_any x _).mono ?_
        rintro e z3 ⟨rfl, hz3⟩
        refine hK _ _ (hz3.mono (by omega)) ?_
        clear hK K
        have hs_z3 := hz3.size
        replace T := hide (T.out.below hz3)
        replace O := O.below hz3 O.lt
        replace HB := hide (HB.out.trans ((hz3).mono HB.out.size))
        replace PA := PA.below hz3 PA.lt
        replace PB := PB.below hz3 PB.lt
        replace PC := PC.below hz3 PC.lt
        replace PD := PD.below hz3 PD.lt
        replace NA := hide ((NA.out.below hz3).mono (hz3).size)
        replace NB := hide ((NB.out.below hz3).mono (hz3).size)
        replace NC := hide ((NC.out.below hz3).mono (hz3).size)
        replace ND := hide ((ND.out.below hz3).mono (hz3).size)
        clear hz3
        rw [hbv]
        go_simp
        refine onlyB 29 rfl (by kernel_rfl) (by kernel_rfl) ?_
        intro K hK
        go_simp
        refine (refPpValid_any x _).mono ?_
        rintro e z4 ⟨rfl, hz4⟩
        refine hK _ _ (hz4.mono (by omega)) ?_
        clear hK K
        have hs_z4 := hz4.size
        replace T := hide (T.out.below hz4)
        replace O := O.below hz4 O.lt
        replace HB := hide (HB.out.trans ((hz4).mono HB.out.size))
        replace PA := PA.below hz4 PA.lt
        replace PB := PB.below hz4 PB.lt
        replace PC := PC.below hz4 PC.lt
        replace PD := PD.below hz4 PD.lt
        replace NA := hide ((NA.out.below hz4).mono (hz4).size)
        replace NB := hide ((NB.out.below hz4).mono (hz4).size)
        replace NC := hide ((NC.out.below hz4).mono (hz4).size)
        replace ND := hide ((ND.out.below hz4).mono (hz4).size)
        clear hz4
        rw [hbv]
        refine takeB 30 rfl (by kernel_rfl) (fun _ _ _ h => h) (by kernel_rfl) (by intro w' hg; go_simp; try with_reducible rfl) ?_
        refine takeB 31 rfl (by kernel_rfl) (fun _ _ _ h => h) (by rfl) (by intro w' hg; go_simp; try with_reducible rfl) ?_
        refine doneB (by kernel_rfl) ?_
        go_simp
        go_wp2_with fail
        go_roundw
        case rel => exact ⟨k + 1, by go_num, by omega, T, HB⟩
        case measure => simp [intOf]; omega
      · obtain rfl : k = 3 := by omega
        go_wp2_with fail
        refine (ppNew_any id _).mono ?_
        rintro e w5 ⟨rfl, hb5⟩
        replace HB := hide (HB.out.trans (hb5.mono HB.out.size))
        clear hb5 T
        go_wp2_with fail
        refine (refPpNew_any id _).mono ?_
        rintro e w6 ⟨rfl, hb6⟩
        replace HB := hide (HB.out.trans (hb6.mono HB.out.size))
        clear hb6
        go_wp2_with fail
        refine (same_like (like_pipe id 1 1 ⟨none, 0, 0⟩) (like_pipe id 1 1 ⟨none, 0, 0⟩) Bytes.nil Bytes.nil).mono ?_
        rintro e w7 ⟨rfl, hb7⟩
        go_wp2_with fail
        go_ret
        exact ⟨rfl, HB.out.trans (hb7.mono HB.out.size)⟩
end Go.Proofs.Ytpibdfgcfhopaaa
