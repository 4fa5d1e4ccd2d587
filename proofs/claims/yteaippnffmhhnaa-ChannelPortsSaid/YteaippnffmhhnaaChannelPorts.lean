/- Layer 12: ports as the reference has them (ChannelPorts): the walk. (Written by tools/mkchports.py.) -/
import Derived.Test.YteaippnffmhhnaaChLaw
import Derived.Test.YteaippnffmhhnaaChAny
import Derived.Test.YteaippnffmhhnaaObObj
import Derived.Test.YteaippnffmhhnaaObCame
namespace Go.Proofs.Yteaippnffmhhnaa
open Go.RowKit

/-- Identifiers that do not lie in block d. -/
def Off (w : World) (d : Nat) (s : Sl) (I : List Int) : Prop := Nums .u64 w w.heap.size s.A s.n I ∧ (I = [] ∨ ∀ p, s.A = some p → p.block ≠ d)
theorem Off.below {w w' : World} {d : Nat} {s : Sl} {I : List Int} (h : Off w d s I) (hb : Below w.heap.size w w') : Off w' d s I := ⟨(h.1.below hb).mono hb.size, h.2⟩
theorem Off.bel {w w' : World} {d : Nat} {s : Sl} {I : List Int} (h : Off w d s I) (hb : Bel w.heap.size d w w') : Off w' d s I := by
  refine ⟨⟨h.1.1, h.1.2.1, h.1.2.2.1, fun hx => ?_⟩, h.2⟩
  obtain ⟨b, o, e, hl, hc⟩ := h.1.2.2.2 hx
  rcases h.2 with h0 | h0
  · exact absurd (by rw [h0]; rfl) hx
  · exact ⟨b, o, e, Nat.lt_of_lt_of_le hl hb.size, fun j u hu => (hb.cell (p := ⟨b, o + j, none⟩) hl (show b ≠ d from h0 ⟨b, o, none⟩ e)).trans (hc j u hu)⟩
theorem off_own {w : World} {d base n c : Nat} {A : Option Addr} {e : TypeId} {I : List Int} (h : w.ownsRow base e 1 (.slice A n c) n (nv .u64 I)) (hd : d < base) : Off w d ⟨A, n, c⟩ I := ⟨Nums.of_own h, .inr fun p hp => by have := above_own h p hp; omega⟩
theorem off_low {w : World} {d B : Nat} {s : Sl} {I : List Int} (h : Nums .u64 w B s.A s.n I) (hB : B ≤ w.heap.size) (hd : B ≤ d) : Off w d s I := by
  refine ⟨h.mono hB, ?_⟩
  by_cases h0 : I = []
  · exact .inl h0
  · refine .inr fun p hp => ?_
    obtain ⟨b, o, e, hl, _⟩ := h.2.2.2 (by intro hx; exact h0 (List.eq_nil_of_length_eq_zero (by have := congrArg List.length hx; rw [nv_length] at this; exact this)))
    rw [e] at hp
    cases hp
    show b ≠ d
    omega
/-- Three objects, in a block of their own, whose backlogs are to be read, and do not lie where the dice are. -/
structure Three14 (w : World) (g d : Nat) (a b c : Ob) : Prop where
  ob : Obl w g 41 (ocl a ++ (ocl b ++ ocl c)).toArray
  ne : g ≠ d
  able : ∀ x ∈ [a, b, c], (x.backlog.n ≤ x.backlog.c ∧ x.backlog.n ≤ 9223372036854775807) ∧ ∃ I, Off w d x.backlog I
theorem Three14.below {w w' : World} {g d : Nat} {a b c : Ob} (h : Three14 w g d a b c) (hb : Below w.heap.size w w') : Three14 w' g d a b c := ⟨h.ob.below hb h.ob.lt, h.ne, fun x hx => ⟨(h.able x hx).1, (h.able x hx).2.imp fun _ h => h.below hb⟩⟩
theorem Three14.bel {w w' : World} {g d : Nat} {a b c : Ob} (h : Three14 w g d a b c) (hb : Bel w.heap.size d w w') : Three14 w' g d a b c := ⟨hb.obl' h.ob h.ne, h.ne, fun x hx => ⟨(h.able x hx).1, (h.able x hx).2.imp fun _ h => h.bel hb⟩⟩

set_option maxRecDepth 100000 in
set_option maxHeartbeats 16000000 in
theorem channelPorts_any (o : Ob) (l : List Nm) (strs : List (List UInt8)) (I0 : List Int) (S : Option Addr) (q r : Nat) (bs : List UInt8) (id : Int) (W : World) (hl : Nms W W.heap.size o.names.A o.names.n l) (hS : Strs W W.heap.size o.strs.A o.strs.n strs) (hf : Fits o l strs)
    (hI0 : Nums .u64 W W.heap.size o.backlog.A o.backlog.n I0) (hc0 : o.backlog.n ≤ o.backlog.c ∧ o.backlog.n ≤ 9223372036854775807) (h : Bytes W W.heap.size S q bs) (hq : q ≤ r ∧ r ≤ 9223372036854775807) :
    Calls Try.prog 3 #[.agg (oc o), .slice S q r, .int .u64 id] W (BoolPost true W) := by
  obtain ⟨w0, hw, O, hb, hs⟩ : ∃ w0, W.alloc (.cells (oc o) 41) = w0 ∧ Obl w0 W.heap.size 41 (oc o) ∧ Below W.heap.size W w0 ∧ w0.heap.size = W.heap.size + 1 :=
    ⟨_, rfl, Obl.make W _ _, (Below.refl _ _).alloc (Nat.le_refl _) _, by simp⟩
  have HN := hide hl
  have HST := hide hS
  have HF := hide hf
  have HLI := hide hI0
  have HC0 := hide hc0
  have HBY := hide h
  have HQ := hide hq
  have HB := hide hb
  clear hl hS hf hI0 hc0 h hq hb hs
  go_enter Try.func3, Try.ntmps3
  try dsimp only [List.append]
  go_wp2_with fail
  refine (chSane_any _).mono ?_
  rintro e w1 ⟨rfl, hb1⟩
  replace O := O.below hb1 O.lt
  replace HB := hide (HB.out.trans (hb1.mono HB.out.size))
  clear hb1 hw
  go_wp2_with (first | (refine load_ob rfl _ rfl rfl O ?_) | fail)
  refine (keepob_any o l strs _ ((HN.out.below HB.out).mono HB.out.size) ((HST.out.below HB.out).mono HB.out.size) HF.out).mono ?_
  rintro e w2 ⟨bv, rfl, hb2⟩
  replace O := O.below hb2 O.lt
  replace HB := hide (HB.out.trans (hb2.mono HB.out.size))
  clear hb2 HN HST HF
  cases bv with
  | false =>
    go_wp2_with fail
    go_ret
    exact ⟨rfl, HB.out⟩
  | true =>
    have hW2 := O.lt
    go_wp2_with fail
    refine (new_dice W.heap.size S q r bs _ (HBY.out.belowLe HB.out (Nat.le_refl _)) HB.out.size HQ.out).mono ?_
    rintro e w3 ⟨rfl, hD, hb3, hs3⟩
    replace O := O.below hb3 O.lt
    replace HB := hide (HB.out.trans (hb3.mono HB.out.size))
    have HD := hide hD
    obtain ⟨d, hd⟩ : ∃ d, w2.heap.size = d := ⟨_, rfl⟩
    have hdW : W.heap.size < d := by omega
    rw [hd] at HD ⊢
    clear hb3 hD HBY hW2 hd hs3
    go_wp2_with fail
    refine region_D (by kernel_rfl) w3.drew.heap.size d [] ?_
    replace O : Obl w3.drew W.heap.size 41 (oc o) := O
    replace HD : Hid (Dice w3.drew d d) := HD
    replace HB : Hid (Below W.heap.size W w3.drew) := hide ⟨HB.out.os, HB.out.tape, HB.out.output, HB.out.size, HB.out.block⟩
    generalize w3.drew = u0 at *
    have hd0 := HD.out.lt
    have hOW := O.lt
    refine takeDX 1 rfl (by kernel_rfl) (fun _ _ _ h => h) (by rfl) (by intro w'; go_simp; try with_reducible rfl) ?_
    refine takeDX 2 rfl (by kernel_rfl) (fun _ _ _ h => h) (by rfl) (by intro w'; go_simp; try with_reducible rfl) ?_
    refine takeDX 5 rfl (by kernel_rfl) (fun _ _ _ h => h) (by rfl) (by intro w'; go_simp; try with_reducible rfl) ?_
    refine takeDX 9 rfl (by kernel_rfl) (fun _ _ _ h => h) (by rfl) (by intro w'; go_simp; try with_reducible rfl) ?_
    refine takeD 0 [0] rfl (by kernel_rfl) (fun _ _ _ h => h) (by rfl) (by intro w' hq; exact exec_load_ob rfl rfl (hq.obl' O (by omega))) ?_
    go_simp
    refine onlyD 3 rfl (by kernel_rfl) (by rfl) ?_
    intro K hK
    go_simp
    refine (id_dice d d _ HD.out).mono ?_
    rintro e u1 ⟨v1, rfl, hD1, hB1⟩
    have hs1 : u0.heap.size ≤ u1.heap.size := hB1.size
    have HB1 := hide (HB.out.trans (hB1.below HB.out.size (by omega)))
    refine hK _ _ (fun _ => hB1) ?_
    clear hK K hB1 HB HD O
    go_simp
    refine onlyD 4 rfl (by kernel_rfl) (by rfl) ?_
    intro K hK
    go_simp
    refine (port_dice d d v1 _ hD1).mono ?_
    rintro e u2 ⟨o2, rfl, hO2, hD2, hB2⟩
    have hs2 : u1.heap.size ≤ u2.heap.size := hB2.size
    have HB2 := hide (HB1.out.trans (hB2.below HB1.out.size (by omega)))
    refine hK _ _ (fun _ => hB2.mono hs1) ?_
    clear hK K hB2 HB1 hD1
    go_simp
    refine onlyD 6 rfl (by kernel_rfl) (by rfl) ?_
    intro K hK
    go_simp
    refine (object_dice d d _ hD2).mono ?_
    rintro e u3 ⟨o3, rfl, hO3, hD3, hB3⟩
    have hs3 : u2.heap.size ≤ u3.heap.size := hB3.size
    have HB3 := hide (HB2.out.trans (hB3.below HB2.out.size (by omega)))
    obtain ⟨I2, hi2⟩ := (hO2.bel hB3 (by omega)).backlog
    obtain ⟨I3, hi3⟩ := hO3.backlog
    have hn2 := hO2.fit.2.2.2.1
    have hn3 := hO3.fit.2.2.2.1
    refine hK _ _ (fun _ => hB3.mono (by omega)) ?_
    clear hK K hB3 HB2 hD2 hO2 hO3
    go_simp
    refine onlyD 7 rfl (by kernel_rfl) (by rfl) ?_
    intro K hK
    refine wp_yield (exec_slice3 rfl rfl rfl rfl) ?_
    refine hK _ _ (fun _ => Bel.of ((Below.refl _ _).alloc (by omega) _)) ?_
    clear hK K
    have hbA := (Below.refl u3.heap.size u3).alloc (Nat.le_refl _) (.cells (ocl o ++ (ocl o2 ++ ocl o3)).toArray 41)
    have HD4 := hide (hD3.below hbA)
    have HT : Hid (Three14 (u3.alloc (.cells (ocl o ++ (ocl o2 ++ ocl o3)).toArray 41)) u3.heap.size d o o2 o3) := by
      refine hide ⟨Obl.make u3 _ _, by omega, fun x hx => ?_⟩
      simp only [List.mem_cons, List.not_mem_nil, or_false] at hx
      rcases hx with rfl | rfl | rfl
      · exact ⟨HC0.out, I0, (off_low (HLI.out.below HB3.out) HB3.out.size (by omega)).below hbA⟩
      · exact ⟨⟨own_cap hi2, by omega⟩, I2, (off_own hi2 (by omega)).below hbA⟩
      · exact ⟨⟨own_cap hi3, by omega⟩, I3, (off_own hi3 (by omega)).below hbA⟩
    have HB4 := hide (HB3.out.alloc HB3.out.size (.cells (ocl o ++ (ocl o2 ++ ocl o3)).toArray 41))
    clear hbA hD3
    generalize u3.alloc (.cells (ocl o ++ (ocl o2 ++ ocl o3)).toArray 41) = u4 at *
    generalize u3.heap.size = gs at *
    clear HLI HC0 HB3 hi2 hi3 hs1 hs2 hs3 hd0 hOW hn2 hn3
    refine takeDX 8 rfl (by kernel_rfl) (fun _ _ _ h => h) (by rfl) (by intro w'; go_simp; try with_reducible rfl) ?_
    refine doneD (by kernel_rfl) ?_
    go_simp
    go_wp2_with fail
    go_loopw [38] (fun s wr => ∃ k : Nat, s = .int .i64 (k : Int) ∧ k ≤ 3 ∧ Hid (Three14 wr gs d o o2 o3) ∧ Hid (Dice wr d d) ∧ Hid (Below W.heap.size W wr)) (fun s _ => 3 - (intOf s).toNat)
    case atStart => exact ⟨0, rfl, by omega, HT, HD4, HB4⟩
    case round =>
      clear HT HB4 HD4
      obtain ⟨k, rfl, hk, T, HD, HB⟩ := hrel
      by_cases hlt : k < 3
      · have hlt' : (k : Int) < 3 := by omega
        obtain ⟨x, hx⟩ : ∃ x, [o, o2, o3][k]? = some x := ⟨[o, o2, o3][k], List.getElem?_eq_getElem hlt⟩
        obtain ⟨hcx, Ix, hIx⟩ := T.out.able x (List.mem_of_getElem? hx)
        have HCX := hide hcx
        have HIX := hide hIx
        have OT := T.out.ob
        obtain ⟨w5, hw5, m, hm, w6, hw6, OZ, O, hb6, hs6⟩ := laid_ob x wr
        have hgm := OT.lt
        have hdm := HD.out.lt
        have hmd : m ≠ d := by omega
        clear hcx hIx
        go_wp2_with (first | (refine wpList_val (by rfl) (exec_load_three rfl rfl OT hx) ?_) | (refine store_ob rfl _ _ rfl rfl (c := x) rfl OZ rfl ?_; rw [hw6]) | fail)
        replace T := hide (T.out.below hb6)
        replace HD := hide (HD.out.below hb6)
        replace HIX := hide (HIX.out.below hb6)
        replace HB := hide (HB.out.trans (hb6.mono HB.out.size))
        clear hb6 hs6 OZ hw6 hw5 hm OT hgm hx hdm
        refine (id_dice d d _ HD.out).mono ?_
        rintro e w7 ⟨v, rfl, hD7, hB7⟩
        replace T := hide (T.out.bel hB7)
        replace HIX := hide (HIX.out.bel hB7)
        replace O := hB7.obl' O hmd
        replace HB := hide (HB.out.trans (hB7.below HB.out.size (by omega)))
        obtain ⟨w8, hw8⟩ : ∃ w8, w7.alloc (.cells #[.int .u64 id, .int .u64 v] 22) = w8 := ⟨_, rfl⟩
        have hb8 : Below w7.heap.size w7 w8 := hw8 ▸ (Below.refl _ _).alloc (Nat.le_refl _) _
        obtain ⟨g2, hg2⟩ : ∃ g2, w7.heap.size = g2 := ⟨_, rfl⟩
        have OK2 : Obl w8 g2 22 #[.int .u64 id, .int .u64 v] := by
          rw [← hg2, ← hw8]
          exact Obl.make w7 _ _
        replace T := hide (T.out.below hb8)
        replace HIX := hide (HIX.out.below hb8)
        replace O := O.below hb8 O.lt
        replace HB := hide (HB.out.trans (hb8.mono HB.out.size))
        replace HD := hide (hD7.below hb8)
        clear hB7 hD7 hb8
        go_wp2_with fail
        clear hw8 hg2
        go_loopw [47] (fun s wq => ∃ k2 : Nat, s = .int .i64 (k2 : Int) ∧ k2 ≤ 2 ∧ Hid (Three14 wq gs d o o2 o3) ∧ Hid (Dice wq d d) ∧ Obl wq m 41 (oc x) ∧ Obl wq g2 22 #[.int .u64 id, .int .u64 v] ∧ Hid (Off wq d x.backlog Ix) ∧ Hid (Below W.heap.size W wq)) (fun s _ => 2 - (intOf s).toNat)
        case atStart => exact ⟨0, rfl, by omega, T, HD, O, OK2, HIX, HB⟩
        case round =>
          clear T HB O OK2 HIX HD
          obtain ⟨k2, rfl, hk2, T, HD, O, OK2, HIX, HB⟩ := hrel
          by_cases hlt2 : k2 < 2
          · have hlt2' : (k2 : Int) < 2 := by omega
            obtain ⟨kk, hkk⟩ : ∃ kk : Int, (#[.int .u64 id, .int .u64 v] : Array Value)[k2]? = some (.int .u64 kk) := by
              rcases (by omega : k2 = 0 ∨ k2 = 1) with rfl | rfl
              · exact ⟨id, rfl⟩
              · exact ⟨v, rfl⟩
            have kc := (OK2.cell k2).trans hkk
            clear hkk
            go_wp2_with (first | (refine load_ob rfl _ rfl rfl O ?_) | fail)
            clear kc
            refine (chCall_any x Ix _ HIX.out.1 HCX.out.1 HCX.out.2 kk).mono ?_
            rintro e v1 ⟨ya, rfl, LA, hN, hv1⟩
            have NA := hide hN
            have hLa := hide LA
            clear hN LA
            replace T := hide (T.out.below hv1)
            replace HD := hide (HD.out.below hv1)
            replace OK2 := OK2.below hv1 OK2.lt
            replace O := O.below hv1 O.lt
            replace HIX := hide (HIX.out.below hv1)
            replace HB := hide (HB.out.trans ((hv1).mono HB.out.size))
            clear hv1
            obtain ⟨a1, hwa0, ab, hma, a2, hwa, OZa, PA, hba2, hsa2⟩ := laid_ob ya v1
            replace T := hide (T.out.below hba2)
            replace HD := hide (HD.out.below hba2)
            replace OK2 := OK2.below hba2 OK2.lt
            replace O := O.below hba2 O.lt
            replace HIX := hide (HIX.out.below hba2)
            replace HB := hide (HB.out.trans ((hba2).mono HB.out.size))
            replace NA := hide ((NA.out.below hba2).mono (hba2).size)
            clear hba2
            obtain ⟨re, hre⟩ : ∃ re, x.callErr Ix kk = re := ⟨_, rfl⟩
            rw [hre]
            go_wp2_with (first | (refine store_ob rfl _ _ rfl rfl (c := ya) rfl OZa rfl ?_; rw [hwa]) | (refine load_ob rfl _ rfl rfl O ?_) | fail)
            clear OZa hwa hwa0 hma hsa2
            refine (refCall_any x Ix _ HIX.out.1 HCX.out.1 HCX.out.2 kk).mono ?_
            rintro e v2 ⟨yb, rfl, LB, hN, hv2⟩
            have NB := hide hN
            have hLb := hide LB
            clear hN LB
            replace T := hide (T.out.below hv2)
            replace HD := hide (HD.out.below hv2)
            replace OK2 := OK2.below hv2 OK2.lt
            replace O := O.below hv2 O.lt
            replace HIX := hide (HIX.out.below hv2)
            replace HB := hide (HB.out.trans ((hv2).mono HB.out.size))
            replace PA := PA.below hv2 PA.lt
            replace NA := hide ((NA.out.below hv2).mono (hv2).size)
            clear hv2
            obtain ⟨b1, hwb0, bb, hmb, b2, hwb, OZb, PB, hbb2, hsb2⟩ := laid_ob yb v2
            replace T := hide (T.out.below hbb2)
            replace HD := hide (HD.out.below hbb2)
            replace OK2 := OK2.below hbb2 OK2.lt
            replace O := O.below hbb2 O.lt
            replace HIX := hide (HIX.out.below hbb2)
            replace HB := hide (HB.out.trans ((hbb2).mono HB.out.size))
            replace PA := PA.below hbb2 PA.lt
            replace NA := hide ((NA.out.below hbb2).mono (hbb2).size)
            replace NB := hide ((NB.out.below hbb2).mono (hbb2).size)
            clear hbb2
            rw [hre]
            clear hre
            go_upto_region 14 with (first | (refine store_ob rfl _ _ rfl rfl (c := yb) rfl OZb rfl ?_; rw [hwb]) | fail)
            clear OZb hwb hwb0 hmb hsb2
            refine wp_region_lit ?_
            refine wpList_val (by rfl) (by go_simp; try with_reducible rfl) ?_
            refine wpList_val (by rfl) (by go_simp; try with_reducible rfl) ?_
            refine wpList_val (by rfl) (by go_simp; try with_reducible rfl) ?_
            refine wpList_val (by rfl) (by go_simp; try with_reducible rfl) ?_
            go_simp
            refine wpList_val (by kernel_rfl) (by exact exec_load_ob rfl rfl PA) ?_
            refine wpList_val (by kernel_rfl) (by exact exec_load_ob rfl rfl PB) ?_
            go_simp
            refine wpList_met (by kernel_rfl) fun K hK => ?_
            go_simp
            refine (same_port hLa.out hLb.out NA.out NB.out (Ob.cI_short HIX.out.1.len.symm)).mono ?_
            rintro e z1 ⟨rfl, hz1⟩
            refine hK _ _ ?_
            clear hK K
            replace T := hide (T.out.below hz1)
            replace HD := hide (HD.out.below hz1)
            replace OK2 := OK2.below hz1 OK2.lt
            replace O := O.below hz1 O.lt
            replace HIX := hide (HIX.out.below hz1)
            replace HB := hide (HB.out.trans ((hz1).mono HB.out.size))
            clear hz1
            clear PA PB NA NB
            go_simp
            refine wpList_val (by kernel_rfl) (by go_simp; try with_reducible rfl) ?_
            go_simp
            refine wpList_val (by rfl) (by go_simp; try with_reducible rfl) ?_
            refine wpList_nil ?_
            go_simp
            go_wp2_with fail
            go_roundw
            case rel => exact ⟨k2 + 1, by go_num, by omega, T, HD, O, OK2, HIX, HB⟩
            case measure => simp [intOf]; omega
          · obtain rfl : k2 = 2 := by omega
            have hlt2' : ¬ ((2 : Nat) : Int) < 2 := by omega
            go_wp2_with (first | (refine load_ob rfl _ rfl rfl O ?_) | fail)
            clear OK2
            refine (chAccept_any x Ix _ HIX.out.1 HCX.out.1).mono ?_
            rintro e v1 ⟨ya, rfl, LA, hN, hv1⟩
            have NA := hide hN
            have hLa := hide LA
            clear hN LA
            replace T := hide (T.out.below hv1)
            replace HD := hide (HD.out.below hv1)
            replace O := O.below hv1 O.lt
            replace HIX := hide (HIX.out.below hv1)
            replace HB := hide (HB.out.trans ((hv1).mono HB.out.size))
            clear hv1
            obtain ⟨a1, hwa0, ab, hma, a2, hwa, OZa, PA, hba2, hsa2⟩ := laid_ob ya v1
            replace T := hide (T.out.below hba2)
            replace HD := hide (HD.out.below hba2)
            replace O := O.below hba2 O.lt
            replace HIX := hide (HIX.out.below hba2)
            replace HB := hide (HB.out.trans ((hba2).mono HB.out.size))
            replace NA := hide ((NA.out.below hba2).mono (hba2).size)
            clear hba2
            obtain ⟨rv, hrv⟩ : ∃ rv, x.aV Ix = rv := ⟨_, rfl⟩
            obtain ⟨re, hre⟩ : ∃ re, x.accErr Ix = re := ⟨_, rfl⟩
            rw [hrv, hre]
            go_wp2_with (first | (refine store_ob rfl _ _ rfl rfl (c := ya) rfl OZa rfl ?_; rw [hwa]) | (refine load_ob rfl _ rfl rfl O ?_) | fail)
            clear OZa hwa hwa0 hma hsa2
            refine (refAccept_any x Ix _ HIX.out.1 HCX.out.1 HCX.out.2).mono ?_
            rintro e v2 ⟨yb, rfl, LB, hN, hv2⟩
            have NB := hide hN
            have hLb := hide LB
            clear hN LB
            replace T := hide (T.out.below hv2)
            replace HD := hide (HD.out.below hv2)
            replace O := O.below hv2 O.lt
            replace HIX := hide (HIX.out.below hv2)
            replace HB := hide (HB.out.trans ((hv2).mono HB.out.size))
            replace PA := PA.below hv2 PA.lt
            replace NA := hide ((NA.out.below hv2).mono (hv2).size)
            clear hv2
            obtain ⟨b1, hwb0, bb, hmb, b2, hwb, OZb, PB, hbb2, hsb2⟩ := laid_ob yb v2
            replace T := hide (T.out.below hbb2)
            replace HD := hide (HD.out.below hbb2)
            replace O := O.below hbb2 O.lt
            replace HIX := hide (HIX.out.below hbb2)
            replace HB := hide (HB.out.trans ((hbb2).mono HB.out.size))
            replace PA := PA.below hbb2 PA.lt
            replace NA := hide ((NA.out.below hbb2).mono (hbb2).size)
            replace NB := hide ((NB.out.below hbb2).mono (hbb2).size)
            clear hbb2
            rw [hrv, hre]
            clear hrv hre
            obtain ⟨bv, hbv⟩ : ∃ bv, decide (x.Port Ix) = bv := ⟨_, rfl⟩
            go_upto_region 19 with (first | (refine store_ob rfl _ _ rfl rfl (c := yb) rfl OZb rfl ?_; rw [hwb]) | fail)
            clear OZb hwb hwb0 hmb hsb2
            refine region_B (by kernel_rfl) b2.drew.heap.size ?_
            replace O : Obl b2.drew m 41 (oc x) := O
            replace PA : Obl b2.drew ab 41 (oc ya) := PA
            replace PB : Obl b2.drew bb 41 (oc yb) := PB
            replace T : Hid (Three14 b2.drew gs d o o2 o3) := hide ⟨T.out.ob, T.out.ne, T.out.able⟩
            replace HD : Hid (Dice b2.drew d d) := HD
            replace HIX : Hid (Off b2.drew d x.backlog Ix) := HIX
            replace HB : Hid (Below W.heap.size W b2.drew) := hide ⟨HB.out.os, HB.out.tape, HB.out.output, HB.out.size, HB.out.block⟩
            replace NA : Hid (Nums .u64 b2.drew b2.drew.heap.size ya.backlog.A ya.backlog.n (x.aI Ix)) := NA
            replace NB : Hid (Nums .u64 b2.drew b2.drew.heap.size yb.backlog.A yb.backlog.n (x.aI Ix)) := NB
            generalize b2.drew = z0 at *
            have lO := O.lt
            have lA := PA.lt
            have lB := PB.lt
            refine takeB 0 rfl (by kernel_rfl) (fun _ _ _ h => h) (by rfl) (by intro w' hg; go_simp; try with_reducible rfl) ?_
            refine takeB 1 rfl (by kernel_rfl) (fun _ _ _ h => h) (by rfl) (by intro w' hg; go_simp; try with_reducible rfl) ?_
            refine takeB 2 rfl (by kernel_rfl) (fun _ _ _ h => h) (by rfl) (by intro w' hg; go_simp; try with_reducible rfl) ?_
            refine takeB 3 rfl (by kernel_rfl) (fun _ _ _ h => h) (by rfl) (by intro w' hg; go_simp; try with_reducible rfl) ?_
            go_simp
            refine takeB 4 rfl (by kernel_rfl) (fun _ _ _ h => h) (by kernel_rfl) (by intro w' hg; go_simp; try with_reducible rfl) ?_
            refine takeB 5 rfl (by kernel_rfl) (fun _ _ _ h => h) (by kernel_rfl) (by intro w' hg; go_simp; try with_reducible rfl) ?_
            refine takeB 6 rfl (by kernel_rfl) (fun _ _ _ h => h) (by kernel_rfl) (by intro w' hg; go_simp; try with_reducible rfl) ?_
            refine takeB 7 rfl (by kernel_rfl) (fun _ _ _ h => h) (by rfl) (by intro w' hg; go_simp; try with_reducible rfl) ?_
            refine takeB 8 rfl (by kernel_rfl) (fun _ _ _ h => h) (by rfl) (by intro w' hg; go_simp; try with_reducible rfl) ?_
            go_simp
            refine takeB 9 rfl (by kernel_rfl) (fun _ _ _ h => h) (by kernel_rfl) (by intro w' hg; exact exec_load_ob rfl rfl (PA.below hg (by omega))) ?_
            refine takeB 10 rfl (by kernel_rfl) (fun _ _ _ h => h) (by kernel_rfl) (by intro w' hg; exact exec_load_ob rfl rfl (PB.below hg (by omega))) ?_
            go_simp
            refine onlyB 11 rfl (by kernel_rfl) (by kernel_rfl) ?_
            intro K hK
            go_simp
            refine (same_port hLa.out hLb.out NA.out NB.out (Ob.aI_short HIX.out.1.len.symm)).mono ?_
            rintro e z1 ⟨rfl, hz1⟩
            refine hK _ _ (hz1.mono (by omega)) ?_
            clear hK K
            have hs_z1 := hz1.size
            replace T := hide (T.out.below hz1)
            replace HD := hide (HD.out.below hz1)
            replace O := O.below hz1 O.lt
            replace HIX := hide (HIX.out.below hz1)
            replace HB := hide (HB.out.trans ((hz1).mono HB.out.size))
            clear hz1
            clear PA PB NA NB lA lB
            refine takeB 12 rfl (by kernel_rfl) (fun _ _ _ h => h) (by kernel_rfl) (by intro w' hg; go_simp; try with_reducible rfl) ?_
            refine takeB 13 rfl (by kernel_rfl) (fun _ _ _ h => h) (by rfl) (by intro w' hg; go_simp; try with_reducible rfl) ?_
            refine takeB 14 rfl (by kernel_rfl) (fun _ _ _ h => h) (by rfl) (by intro w' hg; go_simp; try with_reducible rfl) ?_
            go_simp
            have lO1 := O.lt
            refine takeB 15 rfl (by kernel_rfl) (fun _ _ _ h => h) (by kernel_rfl) (by intro w' hg; exact exec_load_ob rfl rfl (O.below (hg) (by omega))) ?_
            refine takeB 17 rfl (by kernel_rfl) (fun _ _ _ h => h) (by kernel_rfl) (by intro w' hg; exact exec_load_ob rfl rfl (O.below hg (by omega))) ?_
            go_simp
            refine onlyB 16 rfl (by kernel_rfl) (by kernel_rfl) ?_
            intro K hK
            go_simp
            refine (chValidPort_any x _ Ix HIX.out.1 HCX.out.1).mono ?_
            rintro e z2 ⟨rfl, hz2⟩
            refine hK _ _ (hz2.mono (by omega)) ?_
            clear hK K
            have hs_z2 := hz2.size
            replace T := hide (T.out.below hz2)
            replace HD := hide (HD.out.below hz2)
            replace O := O.below hz2 O.lt
            replace HIX := hide (HIX.out.below hz2)
            replace HB := hide (HB.out.trans ((hz2).mono HB.out.size))
            clear hz2
            rw [hbv]
            go_simp
            refine onlyB 18 rfl (by kernel_rfl) (by kernel_rfl) ?_
            intro K hK
            go_simp
            refine (refValidPort_any x _ Ix HIX.out.1 HCX.out.1 HCX.out.2).mono ?_
            rintro e z3 ⟨rfl, hz3⟩
            refine hK _ _ (hz3.mono (by omega)) ?_
            clear hK K
            have hs_z3 := hz3.size
            replace T := hide (T.out.below hz3)
            replace HD := hide (HD.out.below hz3)
            replace O := O.below hz3 O.lt
            replace HIX := hide (HIX.out.below hz3)
            replace HB := hide (HB.out.trans ((hz3).mono HB.out.size))
            clear hz3
            rw [hbv]
            go_simp
            refine takeB 19 rfl (by kernel_rfl) (fun _ _ _ h => h) (by kernel_rfl) (by intro w' hg; go_simp; try with_reducible rfl) ?_
            refine takeB 20 rfl (by kernel_rfl) (fun _ _ _ h => h) (by rfl) (by intro w' hg; go_simp; try with_reducible rfl) ?_
            refine doneB (by kernel_rfl) ?_
            go_simp
            go_wp2_with fail
            go_roundw
            case rel => exact ⟨k + 1, by go_num, by omega, T, HD, HB⟩
            case measure => simp [intOf]; omega
      · obtain rfl : k = 3 := by omega
        go_wp2_with fail
        refine (chNewPort_any id _).mono ?_
        rintro e w5 ⟨rfl, hb5⟩
        replace HB := hide (HB.out.trans (hb5.mono HB.out.size))
        clear hb5 T HD
        go_wp2_with fail
        refine (refChNewPort_any id _).mono ?_
        rintro e w6 ⟨rfl, hb6⟩
        replace HB := hide (HB.out.trans (hb6.mono HB.out.size))
        clear hb6
        go_wp2_with fail
        refine (same_port (like_port id 1 noSl) (like_port id 1 noSl) Nums.nil Nums.nil (by simp)).mono ?_
        rintro e w7 ⟨rfl, hb7⟩
        go_wp2_with fail
        go_ret
        exact ⟨rfl, HB.out.trans (hb7.mono HB.out.size)⟩
end Go.Proofs.Yteaippnffmhhnaa
