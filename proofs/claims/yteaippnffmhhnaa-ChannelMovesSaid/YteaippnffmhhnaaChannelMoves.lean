/- Layer 12: channels as the reference has them (ChannelMoves): the walk. (Written by tools/mkchmoves.py.) -/
import Derived.Test.YteaippnffmhhnaaChLaw
import Derived.Test.YteaippnffmhhnaaChAny
import Derived.Test.YteaippnffmhhnaaObObj
import Derived.Test.YteaippnffmhhnaaObCame
namespace Go.Proofs.Yteaippnffmhhnaa
open Go.RowKit

/-- Three objects, in a block of their own, whose queues are to be read. -/
structure Three12 (w : World) (g : Nat) (a b c : Ob) : Prop where
  ob : Obl w g 41 (ocl a ++ (ocl b ++ ocl c)).toArray
  able : ∀ x ∈ [a, b, c], (x.q0.n ≤ x.q0.c ∧ x.q1.n ≤ x.q1.c) ∧ (∃ D, Bytes w w.heap.size x.q0.A x.q0.n D) ∧ ∃ D, Bytes w w.heap.size x.q1.A x.q1.n D
theorem Three12.below {w w' : World} {g : Nat} {a b c : Ob} (h : Three12 w g a b c) (hb : Below w.heap.size w w') : Three12 w' g a b c := ⟨h.ob.below hb h.ob.lt, fun x hx => ⟨(h.able x hx).1, (h.able x hx).2.1.imp fun _ h => (h.below hb).mono hb.size, (h.able x hx).2.2.imp fun _ h => (h.below hb).mono hb.size⟩⟩

set_option maxRecDepth 100000 in
set_option maxHeartbeats 16000000 in
theorem channelMoves_any (o : Ob) (l : List Nm) (strs : List (List UInt8)) (P0 Q0 : List UInt8) (S : Option Addr) (q r : Nat) (bs : List UInt8) (fin : Int) (ch : UInt8) (id : Int) (W : World) (hl : Nms W W.heap.size o.names.A o.names.n l) (hS : Strs W W.heap.size o.strs.A o.strs.n strs) (hf : Fits o l strs)
    (hP0 : Bytes W W.heap.size o.q0.A o.q0.n P0) (hQ0 : Bytes W W.heap.size o.q1.A o.q1.n Q0) (hc0 : o.q0.n ≤ o.q0.c ∧ o.q1.n ≤ o.q1.c) (h : Bytes W W.heap.size S q bs) (hq : q ≤ r ∧ r ≤ 9223372036854775807) :
    Calls Try.prog 4 #[.agg (oc o), .slice S q r, .int .i64 fin, .int .u8 (ch.toNat : Int), .int .u64 id] W (BoolPost true W) := by
  obtain ⟨w0, hw, O, hb, hs⟩ : ∃ w0, W.alloc (.cells (oc o) 41) = w0 ∧ Obl w0 W.heap.size 41 (oc o) ∧ Below W.heap.size W w0 ∧ w0.heap.size = W.heap.size + 1 :=
    ⟨_, rfl, Obl.make W _ _, (Below.refl _ _).alloc (Nat.le_refl _) _, by simp⟩
  have HN := hide hl
  have HST := hide hS
  have HF := hide hf
  have HLP := hide hP0
  have HLQ := hide hQ0
  have HC0 := hide hc0
  have HBY := hide h
  have HQ := hide hq
  have HB := hide hb
  clear hl hS hf hP0 hQ0 hc0 h hq hb hs
  go_enter Try.func4, Try.ntmps4
  try dsimp only [List.append]
  go_wp2_with fail
  refine (chSane_any _).mono ?_
  rintro e w1 ⟨rfl, hb1⟩
  replace O := O.below hb1 O.lt
  replace HB := hide (HB.out.trans (hb1.mono HB.out.size))
  clear hb1 hw
  go_wp2_with (first | (refine load_ob rfl _ rfl rfl O ?_) | fail)
  refine (keepob_any o l strs _ ((HN.out.below HB.out).mono HB.out.size) ((HST.out.below HB.out).mono HB.out.size) HF.out).mono ?_
  rintro e w2 ⟨bv, rfl, hb2⟩
  replace O := O.below hb2 O.lt
  replace HB := hide (HB.out.trans (hb2.mono HB.out.size))
  clear hb2 HN HST HF
  cases bv with
  | false =>
    go_wp2_with fail
    go_ret
    exact ⟨rfl, HB.out⟩
  | true =>
    have hW2 := O.lt
    go_wp2_with fail
    refine (new_dice W.heap.size S q r bs _ (HBY.out.belowLe HB.out (Nat.le_refl _)) HB.out.size HQ.out).mono ?_
    rintro e w3 ⟨rfl, hD, hb3, hs3⟩
    replace O := O.below hb3 O.lt
    replace HB := hide (HB.out.trans (hb3.mono HB.out.size))
    have HD := hide hD
    obtain ⟨d, hd⟩ : ∃ d, w2.heap.size = d := ⟨_, rfl⟩
    have hdW : W.heap.size < d := by omega
    rw [hd] at HD ⊢
    clear hb3 hD HBY hW2 hd hs3
    go_wp2_with fail
    refine region_D (by kernel_rfl) w3.drew.heap.size d [] ?_
    replace O : Obl w3.drew W.heap.size 41 (oc o) := O
    replace HD : Hid (Dice w3.drew d d) := HD
    replace HB : Hid (Below W.heap.size W w3.drew) := hide ⟨HB.out.os, HB.out.tape, HB.out.output, HB.out.size, HB.out.block⟩
    generalize w3.drew = u0 at *
    have hd0 := HD.out.lt
    have hOW := O.lt
    refine takeDX 1 rfl (by kernel_rfl) (fun _ _ _ h => h) (by rfl) (by intro w'; go_simp; try with_reducible rfl) ?_
    refine takeDX 2 rfl (by kernel_rfl) (fun _ _ _ h => h) (by rfl) (by intro w'; go_simp; try with_reducible rfl) ?_
    refine takeDX 5 rfl (by kernel_rfl) (fun _ _ _ h => h) (by rfl) (by intro w'; go_simp; try with_reducible rfl) ?_
    refine takeDX 9 rfl (by kernel_rfl) (fun _ _ _ h => h) (by rfl) (by intro w'; go_simp; try with_reducible rfl) ?_
    refine takeD 0 [0] rfl (by kernel_rfl) (fun _ _ _ h => h) (by rfl) (by intro w' hq; exact exec_load_ob rfl rfl (hq.obl' O (by omega))) ?_
    go_simp
    refine onlyD 3 rfl (by kernel_rfl) (by rfl) ?_
    intro K hK
    go_simp
    refine (id_dice d d _ HD.out).mono ?_
    rintro e u1 ⟨v1, rfl, hD1, hB1⟩
    have hs1 : u0.heap.size ≤ u1.heap.size := hB1.size
    have HB1 := hide (HB.out.trans (hB1.below HB.out.size (by omega)))
    refine hK _ _ (fun _ => hB1) ?_
    clear hK K hB1 HB HD O
    go_simp
    refine onlyD 4 rfl (by kernel_rfl) (by rfl) ?_
    intro K hK
    go_simp
    refine (channel_dice d d v1 _ hD1).mono ?_
    rintro e u2 ⟨o2, rfl, hO2, hD2, hB2⟩
    have hs2 : u1.heap.size ≤ u2.heap.size := hB2.size
    have HB2 := hide (HB1.out.trans (hB2.below HB1.out.size (by omega)))
    refine hK _ _ (fun _ => hB2.mono hs1) ?_
    clear hK K hB2 HB1 hD1
    go_simp
    refine onlyD 6 rfl (by kernel_rfl) (by rfl) ?_
    intro K hK
    go_simp
    refine (object_dice d d _ hD2).mono ?_
    rintro e u3 ⟨o3, rfl, hO3, hD3, hB3⟩
    have hs3 : u2.heap.size ≤ u3.heap.size := hB3.size
    have HB3 := hide (HB2.out.trans (hB3.below HB2.out.size (by omega)))
    obtain ⟨P2, hp2⟩ := (hO2.bel hB3 (by omega)).q0
    obtain ⟨Q2, hq2⟩ := (hO2.bel hB3 (by omega)).q1
    obtain ⟨P3, hp3⟩ := hO3.q0
    obtain ⟨Q3, hq3⟩ := hO3.q1
    refine hK _ _ (fun _ => hB3.mono (by omega)) ?_
    clear hK K hB3 HB2 hD2 hO2 hO3 hD3
    go_simp
    refine onlyD 7 rfl (by kernel_rfl) (by rfl) ?_
    intro K hK
    refine wp_yield (exec_slice3 rfl rfl rfl rfl) ?_
    refine hK _ _ (fun _ => Bel.of ((Below.refl _ _).alloc (by omega) _)) ?_
    clear hK K
    have HT : Hid (Three12 (u3.alloc (.cells (ocl o ++ (ocl o2 ++ ocl o3)).toArray 41)) u3.heap.size o o2 o3) := by
      have hbA := (Below.refl u3.heap.size u3).alloc (Nat.le_refl _) (.cells (ocl o ++ (ocl o2 ++ ocl o3)).toArray 41)
      refine hide ⟨Obl.make u3 _ _, fun x hx => ?_⟩
      simp only [List.mem_cons, List.not_mem_nil, or_false] at hx
      rcases hx with rfl | rfl | rfl
      · exact ⟨HC0.out, ⟨P0, ((HLP.out.below HB3.out).mono HB3.out.size).below hbA |>.mono hbA.size⟩, Q0, ((HLQ.out.below HB3.out).mono HB3.out.size).below hbA |>.mono hbA.size⟩
      · exact ⟨⟨own_cap hp2, own_cap hq2⟩, ⟨P2, ((Bytes.of_own hp2).below hbA).mono hbA.size⟩, Q2, ((Bytes.of_own hq2).below hbA).mono hbA.size⟩
      · exact ⟨⟨own_cap hp3, own_cap hq3⟩, ⟨P3, ((Bytes.of_own hp3).below hbA).mono hbA.size⟩, Q3, ((Bytes.of_own hq3).below hbA).mono hbA.size⟩
    have HB4 := hide (HB3.out.alloc HB3.out.size (.cells (ocl o ++ (ocl o2 ++ ocl o3)).toArray 41))
    generalize u3.alloc (.cells (ocl o ++ (ocl o2 ++ ocl o3)).toArray 41) = u4 at *
    generalize u3.heap.size = gs at *
    clear HLP HLQ HC0 HB3 hp2 hq2 hp3 hq3 hs1 hs2 hs3 hd0 hOW
    refine takeDX 8 rfl (by kernel_rfl) (fun _ _ _ h => h) (by rfl) (by intro w'; go_simp; try with_reducible rfl) ?_
    refine doneD (by kernel_rfl) ?_
    go_simp
    go_wp2_with fail
    go_loopw [42] (fun s wr => ∃ k : Nat, s = .int .i64 (k : Int) ∧ k ≤ 3 ∧ Hid (Three12 wr gs o o2 o3) ∧ Hid (Below W.heap.size W wr)) (fun s _ => 3 - (intOf s).toNat)
    case atStart => exact ⟨0, rfl, by omega, HT, HB4⟩
    case round =>
      clear HT HB4
      obtain ⟨k, rfl, hk, T, HB⟩ := hrel
      by_cases hlt : k < 3
      · have hlt' : (k : Int) < 3 := by omega
        obtain ⟨x, hx⟩ : ∃ x, [o, o2, o3][k]? = some x := ⟨[o, o2, o3][k], List.getElem?_eq_getElem hlt⟩
        obtain ⟨hcx, ⟨Px, hPx⟩, Qx, hQx⟩ := T.out.able x (List.mem_of_getElem? hx)
        have HCX := hide hcx
        have HPX := hide hPx
        have HQX := hide hQx
        have OT := T.out.ob
        obtain ⟨w5, hw5, m, hm, w6, hw6, OZ, O, hb6, hs6⟩ := laid_ob x wr
        have hgm := OT.lt
        obtain ⟨w7, hw7⟩ : ∃ w7, w6.alloc (.cells #[.int .i64 fin, .int .i64 0, .int .i64 1] 3) = w7 := ⟨_, rfl⟩
        have hb7 : Below w6.heap.size w6 w7 := hw7 ▸ (Below.refl _ _).alloc (Nat.le_refl _) _
        have OK3 : Obl w7 (m + 1) 3 #[.int .i64 fin, .int .i64 0, .int .i64 1] := by
          rw [← hs6, ← hw7]
          exact Obl.make w6 _ _
        have hb67 := hb6.trans (hb7.mono hb6.size)
        clear hcx hPx hQx
        go_wp2_with (first | (refine wpList_val (by rfl) (exec_load_three rfl rfl OT hx) ?_) | (refine store_ob rfl _ _ rfl rfl (c := x) rfl OZ rfl ?_; rw [hw6]) | fail)
        replace T := hide (T.out.below hb67)
        replace HPX := hide ((HPX.out.below hb67).mono hb67.size)
        replace HQX := hide ((HQX.out.below hb67).mono hb67.size)
        replace HB := hide (HB.out.trans (hb67.mono HB.out.size))
        replace O := O.below hb7 O.lt
        clear hb6 hb7 hb67 hs6 OZ hw7 hw6 hw5 hm OT hgm hx
        go_loopw [49] (fun s wq => ∃ k2 : Nat, s = .int .i64 (k2 : Int) ∧ k2 ≤ 3 ∧ Hid (Three12 wq gs o o2 o3) ∧ Obl wq m 41 (oc x) ∧ Obl wq (m + 1) 3 #[.int .i64 fin, .int .i64 0, .int .i64 1] ∧ Hid (Bytes wq wq.heap.size x.q0.A x.q0.n Px) ∧ Hid (Bytes wq wq.heap.size x.q1.A x.q1.n Qx) ∧ Hid (Below W.heap.size W wq)) (fun s _ => 3 - (intOf s).toNat)
        case atStart => exact ⟨0, rfl, by omega, T, O, OK3, HPX, HQX, HB⟩
        case round =>
          clear T HB O OK3 HPX HQX
          obtain ⟨k2, rfl, hk2, T, O, OK3, HPX, HQX, HB⟩ := hrel
          by_cases hlt2 : k2 < 3
          · have hlt2' : (k2 : Int) < 3 := by omega
            obtain ⟨kk, hkk⟩ : ∃ kk : Int, (#[.int .i64 fin, .int .i64 0, .int .i64 1] : Array Value)[k2]? = some (.int .i64 kk) := by
              rcases (by omega : k2 = 0 ∨ k2 = 1 ∨ k2 = 2) with rfl | rfl | rfl
              · exact ⟨fin, rfl⟩
              · exact ⟨0, rfl⟩
              · exact ⟨1, rfl⟩
            have kc := (OK3.cell k2).trans hkk
            clear hkk
            go_wp2_with (first | (refine load_ob rfl _ rfl rfl O ?_) | fail)
            clear kc
            refine (chRead_any x kk Px Qx _ HPX.out HQX.out).mono ?_
            rintro e v1 ⟨ya, rfl, LA, hN, hM, hv1⟩
            have NA := hide hN
            have MA := hide hM
            have hLa := hide LA
            clear hN hM LA
            replace T := hide (T.out.below hv1)
            replace OK3 := OK3.below hv1 OK3.lt
            replace O := O.below hv1 O.lt
            replace HPX := hide ((HPX.out.below hv1).mono (hv1).size)
            replace HQX := hide ((HQX.out.below hv1).mono (hv1).size)
            replace HB := hide (HB.out.trans ((hv1).mono HB.out.size))
            clear hv1
            obtain ⟨a1, hwa0, ab, hma, a2, hwa, OZa, PA, hba2, hsa2⟩ := laid_ob ya v1
            replace T := hide (T.out.below hba2)
            replace OK3 := OK3.below hba2 OK3.lt
            replace O := O.below hba2 O.lt
            replace HPX := hide ((HPX.out.below hba2).mono (hba2).size)
            replace HQX := hide ((HQX.out.below hba2).mono (hba2).size)
            replace HB := hide (HB.out.trans ((hba2).mono HB.out.size))
            replace NA := hide ((NA.out.below hba2).mono (hba2).size)
            replace MA := hide ((MA.out.below hba2).mono (hba2).size)
            clear hba2
            obtain ⟨rv, hrv⟩ : ∃ rv, x.rVal kk Px Qx = rv := ⟨_, rfl⟩
            obtain ⟨re, hre⟩ : ∃ re, x.chRd kk = re := ⟨_, rfl⟩
            rw [hrv, hre]
            go_wp2_with (first | (refine store_ob rfl _ _ rfl rfl (c := ya) rfl OZa rfl ?_; rw [hwa]) | (refine load_ob rfl _ rfl rfl O ?_) | fail)
            clear OZa hwa hwa0 hma hsa2
            refine (refChRead_any x kk Px Qx _ HPX.out HQX.out HCX.out.1 HCX.out.2).mono ?_
            rintro e v2 ⟨yb, rfl, LB, hN, hM, hv2⟩
            have NB := hide hN
            have MB := hide hM
            have hLb := hide LB
            clear hN hM LB
            replace T := hide (T.out.below hv2)
            replace OK3 := OK3.below hv2 OK3.lt
            replace O := O.below hv2 O.lt
            replace HPX := hide ((HPX.out.below hv2).mono (hv2).size)
            replace HQX := hide ((HQX.out.below hv2).mono (hv2).size)
            replace HB := hide (HB.out.trans ((hv2).mono HB.out.size))
            replace PA := PA.below hv2 PA.lt
            replace NA := hide ((NA.out.below hv2).mono (hv2).size)
            replace MA := hide ((MA.out.below hv2).mono (hv2).size)
            clear hv2
            obtain ⟨b1, hwb0, bb, hmb, b2, hwb, OZb, PB, hbb2, hsb2⟩ := laid_ob yb v2
            replace T := hide (T.out.below hbb2)
            replace OK3 := OK3.below hbb2 OK3.lt
            replace O := O.below hbb2 O.lt
            replace HPX := hide ((HPX.out.below hbb2).mono (hbb2).size)
            replace HQX := hide ((HQX.out.below hbb2).mono (hbb2).size)
            replace HB := hide (HB.out.trans ((hbb2).mono HB.out.size))
            replace PA := PA.below hbb2 PA.lt
            replace NA := hide ((NA.out.below hbb2).mono (hbb2).size)
            replace MA := hide ((MA.out.below hbb2).mono (hbb2).size)
            replace NB := hide ((NB.out.below hbb2).mono (hbb2).size)
            replace MB := hide ((MB.out.below hbb2).mono (hbb2).size)
            clear hbb2
            rw [hrv, hre]
            clear hrv hre
            go_wp2_with (first | (refine store_ob rfl _ _ rfl rfl (c := yb) rfl OZb rfl ?_; rw [hwb]) | (refine load_ob rfl _ rfl rfl O ?_) | fail)
            clear OZb hwb hwb0 hmb hsb2
            refine (chWrite_any x kk Px Qx _ HPX.out HQX.out ch).mono ?_
            rintro e v3 ⟨yc, rfl, LC, hN, hM, hv3⟩
            have NC := hide hN
            have MC := hide hM
            have hLc := hide LC
            clear hN hM LC
            replace T := hide (T.out.below hv3)
            replace OK3 := OK3.below hv3 OK3.lt
            replace O := O.below hv3 O.lt
            replace HPX := hide ((HPX.out.below hv3).mono (hv3).size)
            replace HQX := hide ((HQX.out.below hv3).mono (hv3).size)
            replace HB := hide (HB.out.trans ((hv3).mono HB.out.size))
            replace PA := PA.below hv3 PA.lt
            replace NA := hide ((NA.out.below hv3).mono (hv3).size)
            replace MA := hide ((MA.out.below hv3).mono (hv3).size)
            replace PB := PB.below hv3 PB.lt
            replace NB := hide ((NB.out.below hv3).mono (hv3).size)
            replace MB := hide ((MB.out.below hv3).mono (hv3).size)
            clear hv3
            obtain ⟨c1, hwc0, cb, hmc, c2, hwc, OZc, PC, hbc2, hsc2⟩ := laid_ob yc v3
            replace T := hide (T.out.below hbc2)
            replace OK3 := OK3.below hbc2 OK3.lt
            replace O := O.below hbc2 O.lt
            replace HPX := hide ((HPX.out.below hbc2).mono (hbc2).size)
            replace HQX := hide ((HQX.out.below hbc2).mono (hbc2).size)
            replace HB := hide (HB.out.trans ((hbc2).mono HB.out.size))
            replace PA := PA.below hbc2 PA.lt
            replace NA := hide ((NA.out.below hbc2).mono (hbc2).size)
            replace MA := hide ((MA.out.below hbc2).mono (hbc2).size)
            replace PB := PB.below hbc2 PB.lt
            replace NB := hide ((NB.out.below hbc2).mono (hbc2).size)
            replace MB := hide ((MB.out.below hbc2).mono (hbc2).size)
            replace NC := hide ((NC.out.below hbc2).mono (hbc2).size)
            replace MC := hide ((MC.out.below hbc2).mono (hbc2).size)
            clear hbc2
            obtain ⟨we, hwe⟩ : ∃ we, x.chWr kk = we := ⟨_, rfl⟩
            rw [hwe]
            go_wp2_with (first | (refine store_ob rfl _ _ rfl rfl (c := yc) rfl OZc rfl ?_; rw [hwc]) | (refine load_ob rfl _ rfl rfl O ?_) | fail)
            clear OZc hwc hwc0 hmc hsc2
            refine (refChWrite_any x kk Px Qx _ HPX.out HQX.out ch).mono ?_
            rintro e v4 ⟨yd, rfl, LD, hN, hM, hv4⟩
            have ND := hide hN
            have MD := hide hM
            have hLd := hide LD
            clear hN hM LD
            replace T := hide (T.out.below hv4)
            replace OK3 := OK3.below hv4 OK3.lt
            replace O := O.below hv4 O.lt
            replace HPX := hide ((HPX.out.below hv4).mono (hv4).size)
            replace HQX := hide ((HQX.out.below hv4).mono (hv4).size)
            replace HB := hide (HB.out.trans ((hv4).mono HB.out.size))
            replace PA := PA.below hv4 PA.lt
            replace NA := hide ((NA.out.below hv4).mono (hv4).size)
            replace MA := hide ((MA.out.below hv4).mono (hv4).size)
            replace PB := PB.below hv4 PB.lt
            replace NB := hide ((NB.out.below hv4).mono (hv4).size)
            replace MB := hide ((MB.out.below hv4).mono (hv4).size)
            replace PC := PC.below hv4 PC.lt
            replace NC := hide ((NC.out.below hv4).mono (hv4).size)
            replace MC := hide ((MC.out.below hv4).mono (hv4).size)
            clear hv4
            obtain ⟨d1, hwd0, db, hmd, d2, hwd, OZd, PD, hbd2, hsd2⟩ := laid_ob yd v4
            replace T := hide (T.out.below hbd2)
            replace OK3 := OK3.below hbd2 OK3.lt
            replace O := O.below hbd2 O.lt
            replace HPX := hide ((HPX.out.below hbd2).mono (hbd2).size)
            replace HQX := hide ((HQX.out.below hbd2).mono (hbd2).size)
            replace HB := hide (HB.out.trans ((hbd2).mono HB.out.size))
            replace PA := PA.below hbd2 PA.lt
            replace NA := hide ((NA.out.below hbd2).mono (hbd2).size)
            replace MA := hide ((MA.out.below hbd2).mono (hbd2).size)
            replace PB := PB.below hbd2 PB.lt
            replace NB := hide ((NB.out.below hbd2).mono (hbd2).size)
            replace MB := hide ((MB.out.below hbd2).mono (hbd2).size)
            replace PC := PC.below hbd2 PC.lt
            replace NC := hide ((NC.out.below hbd2).mono (hbd2).size)
            replace MC := hide ((MC.out.below hbd2).mono (hbd2).size)
            replace ND := hide ((ND.out.below hbd2).mono (hbd2).size)
            replace MD := hide ((MD.out.below hbd2).mono (hbd2).size)
            clear hbd2
            rw [hwe]
            clear hwe
            go_upto_region 16 with (first | (refine store_ob rfl _ _ rfl rfl (c := yd) rfl OZd rfl ?_; rw [hwd]) | fail)
            clear OZd hwd hwd0 hmd hsd2
            refine wp_region_lit ?_
            refine wpList_val (by rfl) (by go_simp; try with_reducible rfl) ?_
            refine wpList_val (by rfl) (by go_simp; try with_reducible rfl) ?_
            refine wpList_val (by rfl) (by go_simp; try with_reducible rfl) ?_
            refine wpList_val (by rfl) (by go_simp; try with_reducible rfl) ?_
            go_simp
            refine wpList_val (by kernel_rfl) (by go_simp; try with_reducible rfl) ?_
            refine wpList_val (by kernel_rfl) (by go_simp; try with_reducible rfl) ?_
            refine wpList_val (by kernel_rfl) (by go_simp; try with_reducible rfl) ?_
            go_simp
            refine wpList_val (by rfl) (by go_simp; try with_reducible rfl) ?_
            refine wpList_val (by rfl) (by go_simp; try with_reducible rfl) ?_
            go_simp
            refine wpList_val (by kernel_rfl) (by exact exec_load_ob rfl rfl PA) ?_
            refine wpList_val (by kernel_rfl) (by exact exec_load_ob rfl rfl PB) ?_
            go_simp
            refine wpList_met (by kernel_rfl) fun K hK => ?_
            go_simp
            refine (same_chan hLa.out hLb.out NA.out NB.out MA.out MB.out).mono ?_
            rintro e z1 ⟨rfl, hz1⟩
            refine hK _ _ ?_
            clear hK K
            replace T := hide (T.out.below hz1)
            replace OK3 := OK3.below hz1 OK3.lt
            replace O := O.below hz1 O.lt
            replace HPX := hide ((HPX.out.below hz1).mono (hz1).size)
            replace HQX := hide ((HQX.out.below hz1).mono (hz1).size)
            replace HB := hide (HB.out.trans ((hz1).mono HB.out.size))
            replace PC := PC.below hz1 PC.lt
            replace PD := PD.below hz1 PD.lt
            replace NC := hide ((NC.out.below hz1).mono (hz1).size)
            replace ND := hide ((ND.out.below hz1).mono (hz1).size)
            replace MC := hide ((MC.out.below hz1).mono (hz1).size)
            replace MD := hide ((MD.out.below hz1).mono (hz1).size)
            clear hz1
            clear PA PB NA NB MA MB
            go_simp
            refine wpList_val (by kernel_rfl) (by go_simp; try with_reducible rfl) ?_
            go_simp
            refine wpList_val (by rfl) (by go_simp; try with_reducible rfl) ?_
            refine wpList_val (by rfl) (by go_simp; try with_reducible rfl) ?_
            go_simp
            refine wpList_val (by kernel_rfl) (by go_simp; try with_reducible rfl) ?_
            refine wpList_val (by kernel_rfl) (by go_simp; try with_reducible rfl) ?_
            refine wpList_val (by kernel_rfl) (by go_simp; try with_reducible rfl) ?_
            go_simp
            refine wpList_val (by rfl) (by go_simp; try with_reducible rfl) ?_
            refine wpList_val (by rfl) (by go_simp; try with_reducible rfl) ?_
            go_simp
            refine wpList_val (by kernel_rfl) (by exact exec_load_ob rfl rfl PC) ?_
            refine wpList_val (by kernel_rfl) (by exact exec_load_ob rfl rfl PD) ?_
            go_simp
            refine wpList_met (by kernel_rfl) fun K hK => ?_
            go_simp
            refine (same_chan hLc.out hLd.out NC.out ND.out MC.out MD.out).mono ?_
            rintro e z2 ⟨rfl, hz2⟩
            refine hK _ _ ?_
            clear hK K
            replace T := hide (T.out.below hz2)
            replace OK3 := OK3.below hz2 OK3.lt
            replace O := O.below hz2 O.lt
            replace HPX := hide ((HPX.out.below hz2).mono (hz2).size)
            replace HQX := hide ((HQX.out.below hz2).mono (hz2).size)
            replace HB := hide (HB.out.trans ((hz2).mono HB.out.size))
            clear hz2
            clear PC PD NC ND MC MD
            go_simp
            refine wpList_val (by kernel_rfl) (by go_simp; try with_reducible rfl) ?_
            go_simp
            refine wpList_val (by rfl) (by go_simp; try with_reducible rfl) ?_
            refine wpList_nil ?_
            go_simp
            go_wp2_with fail
            go_roundw
            case rel => exact ⟨k2 + 1, by go_num, by omega, T, O, OK3, HPX, HQX, HB⟩
            case measure => simp [intOf]; omega
          · obtain rfl : k2 = 3 := by omega
            obtain ⟨bv, hbv⟩ : ∃ bv, decide x.Chan = bv := ⟨_, rfl⟩
            go_upto_region 19 with (fail)
            refine region_B (by kernel_rfl) wr.drew.heap.size ?_
            replace O : Obl wr.drew m 41 (oc x) := O
            replace T : Hid (Three12 wr.drew gs o o2 o3) := hide ⟨T.out.ob, T.out.able⟩
            replace HB : Hid (Below W.heap.size W wr.drew) := hide ⟨HB.out.os, HB.out.tape, HB.out.output, HB.out.size, HB.out.block⟩
            clear HPX HQX OK3
            generalize wr.drew = z0 at *
            have lO := O.lt
            refine takeB 0 rfl (by kernel_rfl) (fun _ _ _ h => h) (by rfl) (by intro w' hg; exact exec_load_ob rfl rfl (O.below hg lO)) ?_
            refine takeB 2 rfl (by kernel_rfl) (fun _ _ _ h => h) (by rfl) (by intro w' hg; exact exec_load_ob rfl rfl (O.below hg lO)) ?_
            go_simp
            refine onlyB 1 rfl (by kernel_rfl) (by rfl) ?_
            intro K hK
            go_simp
            refine (chValid_any x _).mono ?_
            rintro e z1 ⟨rfl, hz1⟩
            refine hK _ _ (hz1.mono (by omega)) ?_
            clear hK K
            replace T := hide (T.out.below hz1)
            replace HB := hide (HB.out.trans (hz1.mono HB.out.size))
            have hz1s := hz1.size
            clear hz1 O
            rw [hbv]
            go_simp
            refine onlyB 3 rfl (by kernel_rfl) (by rfl) ?_
            intro K hK
            go_simp
            refine (refChValid_any x _).mono ?_
            rintro e z2 ⟨rfl, hz2⟩
            refine hK _ _ (hz2.mono (by omega)) ?_
            clear hK K
            replace T := hide (T.out.below hz2)
            replace HB := hide (HB.out.trans (hz2.mono HB.out.size))
            clear hz2
            rw [hbv]
            clear hbv
            refine takeB 4 rfl (by kernel_rfl) (fun _ _ _ h => h) (by rfl) (by intro w' hg; go_simp; try with_reducible rfl) ?_
            refine doneB (by kernel_rfl) ?_
            go_simp
            go_wp2_with fail
            go_roundw
            case rel => exact ⟨k + 1, by go_num, by omega, T, HB⟩
            case measure => simp [intOf]; omega
      · obtain rfl : k = 3 := by omega
        go_wp2_with fail
        refine (chNew_any id _).mono ?_
        rintro e w5 ⟨rfl, hb5⟩
        replace HB := hide (HB.out.trans (hb5.mono HB.out.size))
        clear hb5 T
        go_wp2_with fail
        refine (refChNew_any id _).mono ?_
        rintro e w6 ⟨rfl, hb6⟩
        replace HB := hide (HB.out.trans (hb6.mono HB.out.size))
        clear hb6
        go_wp2_with fail
        refine (same_chan (like_chan id 1 1 noSl noSl) (like_chan id 1 1 noSl noSl) Bytes.nil Bytes.nil Bytes.nil Bytes.nil).mono ?_
        rintro e w7 ⟨rfl, hb7⟩
        go_wp2_with fail
        go_ret
        exact ⟨rfl, HB.out.trans (hb7.mono HB.out.size)⟩
end Go.Proofs.Yteaippnffmhhnaa
