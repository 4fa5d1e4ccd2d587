/- Layer 6: a page's words as the reference has them (PageWords): the walk. -/
import Derived.Test.YtohdoleeefoiaaaPgLaw
import Derived.Test.YtohdoleeefoiaaaPgRef
import Derived.Test.YtohdoleeefoiaaaSame
import Derived.Test.YtohdoleeefoiaaaObObj
import Derived.Test.YtohdoleeefoiaaaKeepOb
import Derived.Test.YtohdoleeefoiaaaPgThree
namespace Go.Proofs.Ytohdoleeefoiaaa
open Go.RowKit

/-- An object whose words are to be read. -/
def Able (w : World) (o : Ob) : Prop := ∃ L, Words w o L
/-- Three objects, in a block of their own. -/
structure Three (w : World) (g : Nat) (a b c : Ob) : Prop where
  ob : Obl w g 41 (ocl a ++ (ocl b ++ ocl c)).toArray
  able : ∀ x ∈ [a, b, c], Able w x
theorem Three.below {w w' : World} {g : Nat} {a b c : Ob} (h : Three w g a b c) (hb : Below w.heap.size w w') : Three w' g a b c := ⟨h.ob.below hb h.ob.lt, fun x hx => (h.able x hx).imp fun _ h => h.below hb⟩
set_option maxRecDepth 100000 in
set_option maxHeartbeats 16000000 in
theorem pageWords_any (o : Ob) (l : List Nm) (strs : List (List UInt8)) (L : List Int) (S : Option Addr) (q r : Nat) (bs : List UInt8) (i v id : Int) (W : World) (hl : Nms W W.heap.size o.names.A o.names.n l) (hS : Strs W W.heap.size o.strs.A o.strs.n strs) (hf : Fits o l strs)
    (hL : Nums .i64 W W.heap.size o.words.A o.words.n L) (h : Bytes W W.heap.size S q bs) (hq : q ≤ r ∧ r ≤ 9223372036854775807) :
    Calls Try.prog 3 #[.agg (oc o), .slice S q r, .int .i64 i, .int .i64 v, .int .u64 id] W (BoolPost true W) := by
  obtain ⟨w0, hw, O, hb, hs⟩ : ∃ w0, W.alloc (.cells (oc o) 41) = w0 ∧ Obl w0 W.heap.size 41 (oc o) ∧ Below W.heap.size W w0 ∧ w0.heap.size = W.heap.size + 1 :=
    ⟨_, rfl, Obl.make W _ _, (Below.refl _ _).alloc (Nat.le_refl _) _, by simp⟩
  have HN := hide hl
  have HST := hide hS
  have HF := hide hf
  have HLW := hide hL
  have HBY := hide h
  have HQ := hide hq
  have HB := hide hb
  clear hl hS hf hL h hq hb hs
  go_enter Try.func3, Try.ntmps3
  go_wp2_with fail
  refine (sane_any _).mono ?_
  rintro e w1 ⟨rfl, hb1⟩
  replace O := O.below hb1 O.lt
  replace HB := hide (HB.out.trans (hb1.mono HB.out.size))
  clear hb1 hw
  go_wp2_with (first | (refine load_ob rfl _ rfl rfl O ?_) | fail)
  refine (keepob_any o l strs _ ((HN.out.below HB.out).mono HB.out.size) ((HST.out.below HB.out).mono HB.out.size) HF.out).mono ?_
  rintro e w2 ⟨bv, rfl, hb2⟩
  replace O := O.below hb2 O.lt
  replace HB := hide (HB.out.trans (hb2.mono HB.out.size))
  clear hb2 HN HST HF
  cases bv with
  | false =>
    go_wp2_with fail
    go_ret
    exact ⟨rfl, HB.out⟩
  | true =>
    have hW2 := O.lt
    go_wp2_with fail
    refine (new_dice W.heap.size S q r bs _ (HBY.out.belowLe HB.out (Nat.le_refl _)) HB.out.size HQ.out).mono ?_
    rintro e w3 ⟨rfl, hD, hb3, hs3⟩
    replace O := O.below hb3 O.lt
    replace HB := hide (HB.out.trans (hb3.mono HB.out.size))
    have HD := hide hD
    obtain ⟨d, hd⟩ : ∃ d, w2.heap.size = d := ⟨_, rfl⟩
    have hdW : W.heap.size < d := by omega
    rw [hd] at HD ⊢
    clear hb3 hD HBY hW2 hd hs3
    go_wp2_with fail
    refine region_D (by kernel_rfl) w3.drew.heap.size d [] ?_
    replace O : Obl w3.drew W.heap.size 41 (oc o) := O
    replace HD : Hid (Dice w3.drew d d) := HD
    replace HB : Hid (Below W.heap.size W w3.drew) := hide ⟨HB.out.os, HB.out.tape, HB.out.output, HB.out.size, HB.out.block⟩
    generalize w3.drew = u0 at *
    have hd0 := HD.out.lt
    have hOW := O.lt
    refine takeDX 1 rfl (by kernel_rfl) (fun _ _ _ h => h) (by rfl) (by intro w'; go_simp; try with_reducible rfl) ?_
    refine takeDX 2 rfl (by kernel_rfl) (fun _ _ _ h => h) (by rfl) (by intro w'; go_simp; try with_reducible rfl) ?_
    refine takeDX 5 rfl (by kernel_rfl) (fun _ _ _ h => h) (by rfl) (by intro w'; go_simp; try with_reducible rfl) ?_
    refine takeDX 9 rfl (by kernel_rfl) (fun _ _ _ h => h) (by rfl) (by intro w'; go_simp; try with_reducible rfl) ?_
    refine takeD 0 [0] rfl (by kernel_rfl) (fun _ _ _ h => h) (by rfl) (by intro w' hq; exact exec_load_ob rfl rfl (hq.obl' O (by omega))) ?_
    refine onlyD 3 rfl (by kernel_rfl) (by rfl) ?_
    intro K hK
    go_simp
    refine (id_dice d d _ HD.out).mono ?_
    rintro e u1 ⟨v1, rfl, hD1, hB1⟩
    have hs1 : u0.heap.size ≤ u1.heap.size := hB1.size
    have HB1 := hide (HB.out.trans (hB1.below HB.out.size (by omega)))
    refine hK _ _ (fun _ => hB1) ?_
    clear hK K hB1 HB HD O
    refine onlyD 4 rfl (by kernel_rfl) (by rfl) ?_
    intro K hK
    go_simp
    refine (page_dice d d v1 _ hD1).mono ?_
    rintro e u2 ⟨g, Lp, rfl, OG, hlen, hg, hD2, hB2⟩
    have hs2 : u1.heap.size ≤ u2.heap.size := hB2.size
    have HB2 := hide (HB1.out.trans (hB2.below HB1.out.size (by omega)))
    refine hK _ _ (fun _ => hB2.mono hs1) ?_
    clear hK K hB2 HB1 hD1
    refine onlyD 6 rfl (by kernel_rfl) (by rfl) ?_
    intro K hK
    go_simp
    refine (object_dice d d _ hD2).mono ?_
    rintro e u3 ⟨o3, rfl, hO3, hD3, hB3⟩
    have hs3 : u2.heap.size ≤ u3.heap.size := hB3.size
    have HB3 := hide (HB2.out.trans (hB3.below HB2.out.size (by omega)))
    have OG3 := hB3.obl' OG (by omega)
    refine hK _ _ (fun _ => hB3.mono (by omega)) ?_
    clear hK K hB3 HB2 hD2 OG hD3
    refine onlyD 7 rfl (by kernel_rfl) (by rfl) ?_
    intro K hK
    refine wp_yield (exec_slice3 rfl rfl rfl rfl) ?_
    refine hK _ _ (fun _ => Bel.of ((Below.refl _ _).alloc (by omega) _)) ?_
    clear hK K
    have HT : Hid (Three (u3.alloc (.cells (ocl o ++ (ocl (Ob.page v1 ⟨some ⟨g, 0, none⟩, 16, 16⟩) ++ ocl o3)).toArray 41)) u3.heap.size o (Ob.page v1 ⟨some ⟨g, 0, none⟩, 16, 16⟩) o3) := by
      have hbA := (Below.refl u3.heap.size u3).alloc (Nat.le_refl _) (.cells (ocl o ++ (ocl (Ob.page v1 ⟨some ⟨g, 0, none⟩, 16, 16⟩) ++ ocl o3)).toArray 41)
      refine hide ⟨Obl.make u3 _ _, fun x hx => ?_⟩
      simp only [List.mem_cons, List.not_mem_nil, or_false] at hx
      rcases hx with rfl | rfl | rfl
      · refine ⟨L, Words.below (w := u3) (fun hn => ?_) hbA⟩
        have := (HLW.out.below HB3.out).mono HB3.out.size
        rwa [hn] at this
      · exact ⟨Lp, Words.below (words_page OG3 hlen) hbA⟩
      · obtain ⟨L3, h3⟩ := hO3.words
        refine ⟨L3, Words.below (w := u3) (fun hn => ?_) hbA⟩
        have := Nums.of_own h3
        rwa [hn] at this
    have HB4 := hide (HB3.out.alloc HB3.out.size (.cells (ocl o ++ (ocl (Ob.page v1 ⟨some ⟨g, 0, none⟩, 16, 16⟩) ++ ocl o3)).toArray 41))
    generalize Ob.page v1 ⟨some ⟨g, 0, none⟩, 16, 16⟩ = o2 at *
    generalize u3.alloc (.cells (ocl o ++ (ocl o2 ++ ocl o3)).toArray 41) = u4 at *
    generalize u3.heap.size = gs at *
    clear HLW HB3 OG3 hO3 hlen hg hs1 hs2 hs3 hd0 hOW
    refine takeDX 8 rfl (by kernel_rfl) (fun _ _ _ h => h) (by rfl) (by intro w'; go_simp; try with_reducible rfl) ?_
    refine doneD (by kernel_rfl) ?_
    go_simp
    go_wp2_with fail
    go_loopw [44] (fun s wr => ∃ k : Nat, s = .int .i64 (k : Int) ∧ k ≤ 3 ∧ Hid (Three wr gs o o2 o3) ∧ Hid (Below W.heap.size W wr)) (fun s _ => 3 - (intOf s).toNat)
    case atStart => exact ⟨0, rfl, by omega, HT, HB4⟩
    case round =>
      clear HT HB4
      obtain ⟨k, rfl, hk, T, HB⟩ := hrel
      by_cases hlt : k < 3
      · have hlt' : (k : Int) < 3 := by omega
        obtain ⟨x, hx⟩ : ∃ x, [o, o2, o3][k]? = some x := ⟨[o, o2, o3][k], List.getElem?_eq_getElem hlt⟩
        obtain ⟨Lx, hLx⟩ := T.out.able x (List.mem_of_getElem? hx)
        have OT := T.out.ob
        obtain ⟨w5, hw5, m, hm, w6, hw6, OZ, O, hb6, hs6⟩ := laid_ob x wr
        have hgm := OT.lt
        go_wp2_with (first | (refine wpList_val (by rfl) (exec_load_three rfl rfl OT hx) ?_) | (refine store_ob rfl _ _ rfl rfl (c := x) rfl OZ rfl ?_; rw [hw6]) | fail)
        obtain ⟨z, hz⟩ : ∃ z, bits BinOp.and IntKind.i64 i 15 = z := ⟨_, rfl⟩
        rw [hz]
        have OI : Obl (w6.alloc (.cells #[.int .i64 i, .int .i64 z] 3)) (m + 1) 3 (nv .i64 [i, z]).toArray := by
          have := Obl.make w6 3 (nv .i64 [i, z]).toArray
          rw [hs6] at this
          exact this
        have hbI := (Below.refl w6.heap.size w6).alloc (Nat.le_refl _) (.cells #[.int .i64 i, .int .i64 z] 3)
        replace T := hide ((T.out.below hb6).below hbI)
        replace O := O.below hbI O.lt
        replace hLx := Words.below (Words.below hLx hb6) hbI
        replace HB := hide (HB.out.trans ((hb6.trans (hbI.mono hb6.size)).mono HB.out.size))
        clear hbI hb6 hs6 OZ hw6 hw5 hm OT hgm hz hx
        generalize w6.alloc (.cells #[.int .i64 i, .int .i64 z] 3) = w7 at *
        have HLX := hide hLx
        have HOX := hide O
        have HOI := hide OI
        clear hLx O OI
        go_loopw [53] (fun s wt => ∃ t : Nat, s = .int .i64 (t : Int) ∧ t ≤ 2 ∧ Hid (Three wt gs o o2 o3) ∧ Obl wt m 41 (oc x) ∧ Words wt x Lx ∧ Obl wt (m + 1) 3 (nv .i64 [i, z]).toArray ∧ Hid (Below W.heap.size W wt)) (fun s _ => 2 - (intOf s).toNat)
        case atStart => exact ⟨0, rfl, by omega, T, HOX.out, HLX.out, HOI.out, HB⟩
        case round =>
          clear T HB HLX HOX HOI
          obtain ⟨t, rfl, ht, T, O, hLx, OI, HB⟩ := hrel
          by_cases htl : t < 2
          · have htl' : (t : Int) < 2 := by omega
            have htn : t < [i, z].length := htl
            have hcw := OI.num htn
            generalize [i, z][t] = word at hcw
            go_wp2_with (first | (refine load_ob rfl _ rfl rfl O ?_) | fail)
            refine (get_any x Lx word _ hLx).mono ?_
            rintro e w8 ⟨rfl, hb8⟩
            clear hcw
            replace T := hide (T.out.below hb8)
            replace O := O.below hb8 O.lt
            replace hLx := Words.below hLx hb8
            replace HB := hide (HB.out.trans (hb8.mono HB.out.size))
            replace OI := OI.below hb8 OI.lt
            clear hb8
            go_wp2_with (first | (refine load_ob rfl _ rfl rfl O ?_) | fail)
            refine (refGet_any x Lx word _ hLx).mono ?_
            rintro e w9 ⟨rfl, hb9⟩
            replace T := hide (T.out.below hb9)
            replace O := O.below hb9 O.lt
            replace hLx := Words.below hLx hb9
            replace HB := hide (HB.out.trans (hb9.mono HB.out.size))
            replace OI := OI.below hb9 OI.lt
            clear hb9
            generalize x.get Lx word = gv
            by_cases hc : x.check word = 0
            · obtain ⟨hp, _, _⟩ := Ob.check_0 hc
              have hn := hp.2.2.1
              have h16 : (Lx.set word.toNat v).length = 16 := by rw [List.length_set]; exact (hLx hn).1
              rw [hc]
              go_wp2_with (first | (refine load_ob rfl _ rfl rfl O ?_) | fail)
              refine (set_ok x Lx word v _ hc hLx).mono ?_
              rintro e w10 ⟨g1, rfl, OG, hg1, hb10⟩
              replace T := hide (T.out.below hb10)
              replace O := O.below hb10 O.lt
              replace hLx := Words.below hLx hb10
              replace HB := hide (HB.out.trans (hb10.mono HB.out.size))
              replace OI := OI.below hb10 OI.lt
              clear hb10
              obtain ⟨a1, hwa0, ab, hma, a2, hwa, OZa, PA, hba2, hsa2⟩ := laid_ob (Ob.page x.id ⟨some ⟨g1, 0, none⟩, 16, 16⟩) w10
              replace T := hide (T.out.below hba2)
              replace O := O.below hba2 O.lt
              replace hLx := Words.below hLx hba2
              replace HB := hide (HB.out.trans (hba2.mono HB.out.size))
              replace OI := OI.below hba2 OI.lt
              replace OG := OG.below hba2 OG.lt
              clear hba2
              go_wp2_with (first | (refine store_ob rfl _ _ rfl rfl (c := Ob.page x.id ⟨some ⟨g1, 0, none⟩, 16, 16⟩) rfl OZa rfl ?_; rw [hwa]) | (refine load_ob rfl _ rfl rfl O ?_) | fail)
              refine (refSet_ok x Lx word v _ hc hLx).mono ?_
              rintro e w11 ⟨A2, c2, rfl, NB, hb11⟩
              replace T := hide (T.out.below hb11)
              replace O := O.below hb11 O.lt
              replace hLx := Words.below hLx hb11
              replace HB := hide (HB.out.trans (hb11.mono HB.out.size))
              replace OI := OI.below hb11 OI.lt
              replace OG := OG.below hb11 OG.lt
              replace PA := PA.below hb11 PA.lt
              clear hb11
              obtain ⟨b1, hwb0, bb, hmb, b2, hwb, OZb, PB, hbb2, hsb2⟩ := laid_ob { x with words := ⟨A2, 16, c2⟩ } w11
              replace T := hide (T.out.below hbb2)
              replace O := O.below hbb2 O.lt
              replace hLx := Words.below hLx hbb2
              replace HB := hide (HB.out.trans (hbb2.mono HB.out.size))
              replace OI := OI.below hbb2 OI.lt
              replace OG := OG.below hbb2 OG.lt
              replace PA := PA.below hbb2 PA.lt
              replace NB := (NB.below hbb2).mono (hbb2).size
              clear hbb2
              clear hwa hwa0 hma OZa
              go_wp2_with (first | (refine store_ob rfl _ _ rfl rfl (c := { x with words := ⟨A2, 16, c2⟩ }) rfl OZb rfl ?_; rw [hwb]) | (refine wpList_val (by rfl) (exec_load_ob rfl rfl PA) ?_) | (refine wpList_val (by rfl) (exec_load_ob rfl rfl PB) ?_) | fail)
              refine (same_bare (Ob.page x.id ⟨some ⟨g1, 0, none⟩, 16, 16⟩) { x with words := ⟨A2, 16, c2⟩ } x.id 2 (Lx.set word.toNat v) (Ob.page_bare _ _) hp.2.2.2 rfl rfl rfl hp.1 _ (words_page (id := x.id) OG h16 rfl) NB (by omega)).mono ?_
              rintro e w12 ⟨rfl, hb12⟩
              replace T := hide (T.out.below hb12)
              replace O := O.below hb12 O.lt
              replace hLx := Words.below hLx hb12
              replace HB := hide (HB.out.trans (hb12.mono HB.out.size))
              replace OI := OI.below hb12 OI.lt
              clear hb12
              clear OZb hwb hwb0 hmb PA PB NB OG
              go_wp2_with fail
              go_roundw
              case rel => exact ⟨t + 1, by go_num, by omega, T, O, hLx, OI, HB⟩
              case measure => simp [intOf]; omega
            · go_wp2_with (first | (refine load_ob rfl _ rfl rfl O ?_) | fail)
              refine (set_no x word v _ hc).mono ?_
              rintro e w10 ⟨rfl, hb10⟩
              replace T := hide (T.out.below hb10)
              replace O := O.below hb10 O.lt
              replace hLx := Words.below hLx hb10
              replace HB := hide (HB.out.trans (hb10.mono HB.out.size))
              replace OI := OI.below hb10 OI.lt
              clear hb10
              obtain ⟨a1, hwa0, ab, hma, a2, hwa, OZa, PA, hba2, hsa2⟩ := laid_ob Ob.zero w10
              replace T := hide (T.out.below hba2)
              replace O := O.below hba2 O.lt
              replace hLx := Words.below hLx hba2
              replace HB := hide (HB.out.trans (hba2.mono HB.out.size))
              replace OI := OI.below hba2 OI.lt
              clear hba2
              go_wp2_with (first | (refine store_ob rfl _ _ rfl rfl (c := Ob.zero) rfl OZa rfl ?_; rw [hwa]) | (refine load_ob rfl _ rfl rfl O ?_) | fail)
              refine (refSet_no x Lx word v _ hLx hc).mono ?_
              rintro e w11 ⟨rfl, hb11⟩
              replace T := hide (T.out.below hb11)
              replace O := O.below hb11 O.lt
              replace hLx := Words.below hLx hb11
              replace HB := hide (HB.out.trans (hb11.mono HB.out.size))
              replace OI := OI.below hb11 OI.lt
              replace PA := PA.below hb11 PA.lt
              clear hb11
              obtain ⟨b1, hwb0, bb, hmb, b2, hwb, OZb, PB, hbb2, hsb2⟩ := laid_ob Ob.zero w11
              replace T := hide (T.out.below hbb2)
              replace O := O.below hbb2 O.lt
              replace hLx := Words.below hLx hbb2
              replace HB := hide (HB.out.trans (hbb2.mono HB.out.size))
              replace OI := OI.below hbb2 OI.lt
              replace PA := PA.below hbb2 PA.lt
              clear hbb2
              clear hwa hwa0 hma OZa
              generalize x.check word = rc at *
              go_wp2_with (first | (refine store_ob rfl _ _ rfl rfl (c := Ob.zero) rfl OZb rfl ?_; rw [hwb]) | (refine wpList_val (by rfl) (exec_load_ob rfl rfl PA) ?_) | (refine wpList_val (by rfl) (exec_load_ob rfl rfl PB) ?_) | fail)
              refine (same_bare Ob.zero Ob.zero 0 0 [] Ob.zero_bare Ob.zero_bare rfl rfl rfl rfl _ Nums.nil Nums.nil (by simp)).mono ?_
              rintro e w12 ⟨rfl, hb12⟩
              replace T := hide (T.out.below hb12)
              replace O := O.below hb12 O.lt
              replace hLx := Words.below hLx hb12
              replace HB := hide (HB.out.trans (hb12.mono HB.out.size))
              replace OI := OI.below hb12 OI.lt
              clear hb12
              clear OZb hwb hwb0 hmb PA PB
              go_wp2_with fail
              go_roundw
              case rel => exact ⟨t + 1, by go_num, by omega, T, O, hLx, OI, HB⟩
              case measure => simp [intOf]; omega
          · obtain rfl : t = 2 := by omega
            by_cases hpi : x.Page ∧ id ≠ 0
            · obtain ⟨hp, hi⟩ := hpi
              have hn := hp.2.2.1
              have h16 : Lx.length = 16 := (hLx hn).1
              go_wp2_with (first | (refine load_ob rfl _ rfl rfl O ?_) | fail)
              refine (copy_ok x Lx id _ hp hi hLx).mono ?_
              rintro e w10 ⟨g1, rfl, OG, hg1, hb10⟩
              replace T := hide (T.out.below hb10)
              replace O := O.below hb10 O.lt
              replace hLx := Words.below hLx hb10
              replace HB := hide (HB.out.trans (hb10.mono HB.out.size))
              clear hb10
              obtain ⟨a1, hwa0, ab, hma, a2, hwa, OZa, PA, hba2, hsa2⟩ := laid_ob (Ob.page id ⟨some ⟨g1, 0, none⟩, 16, 16⟩) w10
              replace T := hide (T.out.below hba2)
              replace O := O.below hba2 O.lt
              replace hLx := Words.below hLx hba2
              replace HB := hide (HB.out.trans (hba2.mono HB.out.size))
              replace OG := OG.below hba2 OG.lt
              clear hba2
              go_wp2_with (first | (refine store_ob rfl _ _ rfl rfl (c := Ob.page id ⟨some ⟨g1, 0, none⟩, 16, 16⟩) rfl OZa rfl ?_; rw [hwa]) | (refine load_ob rfl _ rfl rfl O ?_) | fail)
              refine (refCopy_ok x Lx id _ hp hi hLx).mono ?_
              rintro e w11 ⟨A2, c2, rfl, NB, hb11⟩
              replace T := hide (T.out.below hb11)
              replace O := O.below hb11 O.lt
              replace hLx := Words.below hLx hb11
              replace HB := hide (HB.out.trans (hb11.mono HB.out.size))
              replace OG := OG.below hb11 OG.lt
              replace PA := PA.below hb11 PA.lt
              clear hb11
              obtain ⟨b1, hwb0, bb, hmb, b2, hwb, OZb, PB, hbb2, hsb2⟩ := laid_ob { x with id := id, words := ⟨A2, 16, c2⟩ } w11
              replace T := hide (T.out.below hbb2)
              replace O := O.below hbb2 O.lt
              replace hLx := Words.below hLx hbb2
              replace HB := hide (HB.out.trans (hbb2.mono HB.out.size))
              replace OG := OG.below hbb2 OG.lt
              replace PA := PA.below hbb2 PA.lt
              replace NB := (NB.below hbb2).mono (hbb2).size
              clear hbb2
              clear hwa hwa0 hma OZa
              go_wp2_with (first | (refine store_ob rfl _ _ rfl rfl (c := { x with id := id, words := ⟨A2, 16, c2⟩ }) rfl OZb rfl ?_; rw [hwb]) | fail)
              obtain ⟨bv, hbv⟩ : ∃ bv, decide x.Page = bv := ⟨_, rfl⟩
              refine region_B (by kernel_rfl) b2.drew.heap.size ?_
              replace O : Obl b2.drew m 41 (oc x) := O
              replace T : Hid (Three b2.drew gs o o2 o3) := hide ⟨T.out.ob, T.out.able⟩
              replace HB : Hid (Below W.heap.size W b2.drew) := hide ⟨HB.out.os, HB.out.tape, HB.out.output, HB.out.size, HB.out.block⟩
              replace PA : Obl b2.drew ab 41 (oc (Ob.page id ⟨some ⟨g1, 0, none⟩, 16, 16⟩)) := PA
              replace PB : Obl b2.drew bb 41 (oc { x with id := id, words := ⟨A2, 16, c2⟩ }) := PB
              replace NB : Nums .i64 b2.drew b2.drew.heap.size A2 16 Lx := NB
              replace OG : Obl b2.drew g1 2 (nv .i64 Lx).toArray := OG
              clear hLx hwb0 hwb OZb
              generalize b2.drew = u0 at *
              have hOl := O.lt
              have hAl := PA.lt
              have hBl := PB.lt
              refine takeB 0 rfl (by kernel_rfl) (fun _ _ _ h => h) (by rfl) (by intro w' hg; go_simp; try with_reducible rfl) ?_
              refine takeB 1 rfl (by kernel_rfl) (fun _ _ _ h => h) (by rfl) (by intro w' hg; go_simp; try with_reducible rfl) ?_
              refine takeB 2 rfl (by kernel_rfl) (fun _ _ _ h => h) (by rfl) (by intro w' hg; go_simp; try with_reducible rfl) ?_
              refine takeB 3 rfl (by kernel_rfl) (fun _ _ _ h => h) (by rfl) (by intro w' hg; go_simp; try with_reducible rfl) ?_
              refine takeB 4 rfl (by kernel_rfl) (fun _ _ _ h => h) (by rfl) (by intro w' hg; exact exec_load_ob rfl rfl (PA.below hg hAl)) ?_
              refine takeB 5 rfl (by kernel_rfl) (fun _ _ _ h => h) (by rfl) (by intro w' hg; exact exec_load_ob rfl rfl (PB.below hg hBl)) ?_
              refine onlyB 6 rfl (by kernel_rfl) (by rfl) ?_
              intro K hK
              go_simp
              refine (same_bare (Ob.page id ⟨some ⟨g1, 0, none⟩, 16, 16⟩) { x with id := id, words := ⟨A2, 16, c2⟩ } id 2 Lx (Ob.page_bare _ _) hp.2.2.2 rfl rfl rfl hp.1 _ (words_page (id := id) OG h16 rfl) NB (by omega)).mono ?_
              rintro e u1 ⟨rfl, hv1⟩
              refine hK _ _ (hv1.mono (by omega)) ?_
              clear hK K
              replace T := hide (T.out.below hv1)
              replace O := O.below hv1 O.lt
              replace HB := hide (HB.out.trans (hv1.mono HB.out.size))
              have hs1 := hv1.size
              clear hv1
              clear PA PB NB OG
              refine takeB 7 rfl (by kernel_rfl) (fun _ _ _ h => h) (by rfl) (by intro w' hg; go_simp; try with_reducible rfl) ?_
              refine takeB 8 rfl (by kernel_rfl) (fun _ _ _ h => h) (by rfl) (by intro w' hg; go_simp; try with_reducible rfl) ?_
              refine takeB 9 rfl (by kernel_rfl) (fun _ _ _ h => h) (by rfl) (by intro w' hg; go_simp; try with_reducible rfl) ?_
              refine takeB 10 rfl (by kernel_rfl) (fun _ _ _ h => h) (by rfl) (by intro w' hg; exact exec_load_ob rfl rfl (O.below hg hOl)) ?_
              refine takeB 12 rfl (by kernel_rfl) (fun _ _ _ h => h) (by rfl) (by intro w' hg; exact exec_load_ob rfl rfl (O.below hg hOl)) ?_
              refine onlyB 11 rfl (by kernel_rfl) (by rfl) ?_
              intro K hK
              go_simp
              refine (valid_any x _).mono ?_
              rintro e u2 ⟨rfl, hv2⟩
              refine hK _ _ (hv2.mono (by omega)) ?_
              clear hK K
              replace T := hide (T.out.below hv2)
              replace O := O.below hv2 O.lt
              replace HB := hide (HB.out.trans (hv2.mono HB.out.size))
              have hs2 := hv2.size
              clear hv2
              rw [hbv]
              refine onlyB 13 rfl (by kernel_rfl) (by rfl) ?_
              intro K hK
              go_simp
              refine (refValid_any x _).mono ?_
              rintro e u3 ⟨rfl, hv3⟩
              refine hK _ _ (hv3.mono (by omega)) ?_
              clear hK K
              replace T := hide (T.out.below hv3)
              replace O := O.below hv3 O.lt
              replace HB := hide (HB.out.trans (hv3.mono HB.out.size))
              have hs3 := hv3.size
              clear hv3
              rw [hbv]
              refine takeB 14 rfl (by kernel_rfl) (fun _ _ _ h => h) (by rfl) (by intro w' hg; go_simp; try with_reducible rfl) ?_
              refine takeB 15 rfl (by kernel_rfl) (fun _ _ _ h => h) (by rfl) (by intro w' hg; go_simp; try with_reducible rfl) ?_
              refine doneB (by kernel_rfl) ?_
              go_simp
              go_wp2_with fail
              go_roundw
              case rel => exact ⟨k + 1, by go_num, by omega, T, HB⟩
              case measure => simp [intOf]; omega
            · go_wp2_with (first | (refine load_ob rfl _ rfl rfl O ?_) | fail)
              refine (copy_no x id _ hpi).mono ?_
              rintro e w10 ⟨rfl, hb10⟩
              replace T := hide (T.out.below hb10)
              replace O := O.below hb10 O.lt
              replace hLx := Words.below hLx hb10
              replace HB := hide (HB.out.trans (hb10.mono HB.out.size))
              clear hb10
              obtain ⟨a1, hwa0, ab, hma, a2, hwa, OZa, PA, hba2, hsa2⟩ := laid_ob Ob.zero w10
              replace T := hide (T.out.below hba2)
              replace O := O.below hba2 O.lt
              replace hLx := Words.below hLx hba2
              replace HB := hide (HB.out.trans (hba2.mono HB.out.size))
              clear hba2
              go_wp2_with (first | (refine store_ob rfl _ _ rfl rfl (c := Ob.zero) rfl OZa rfl ?_; rw [hwa]) | (refine load_ob rfl _ rfl rfl O ?_) | fail)
              refine (refCopy_no x id _ hpi).mono ?_
              rintro e w11 ⟨rfl, hb11⟩
              replace T := hide (T.out.below hb11)
              replace O := O.below hb11 O.lt
              replace hLx := Words.below hLx hb11
              replace HB := hide (HB.out.trans (hb11.mono HB.out.size))
              replace PA := PA.below hb11 PA.lt
              clear hb11
              obtain ⟨b1, hwb0, bb, hmb, b2, hwb, OZb, PB, hbb2, hsb2⟩ := laid_ob Ob.zero w11
              replace T := hide (T.out.below hbb2)
              replace O := O.below hbb2 O.lt
              replace hLx := Words.below hLx hbb2
              replace HB := hide (HB.out.trans (hbb2.mono HB.out.size))
              replace PA := PA.below hbb2 PA.lt
              clear hbb2
              clear hwa hwa0 hma OZa
              go_wp2_with (first | (refine store_ob rfl _ _ rfl rfl (c := Ob.zero) rfl OZb rfl ?_; rw [hwb]) | fail)
              obtain ⟨bv, hbv⟩ : ∃ bv, decide x.Page = bv := ⟨_, rfl⟩
              refine region_B (by kernel_rfl) b2.drew.heap.size ?_
              replace O : Obl b2.drew m 41 (oc x) := O
              replace T : Hid (Three b2.drew gs o o2 o3) := hide ⟨T.out.ob, T.out.able⟩
              replace HB : Hid (Below W.heap.size W b2.drew) := hide ⟨HB.out.os, HB.out.tape, HB.out.output, HB.out.size, HB.out.block⟩
              replace PA : Obl b2.drew ab 41 (oc Ob.zero) := PA
              replace PB : Obl b2.drew bb 41 (oc Ob.zero) := PB
              clear hLx hwb0 hwb OZb
              generalize b2.drew = u0 at *
              have hOl := O.lt
              have hAl := PA.lt
              have hBl := PB.lt
              refine takeB 0 rfl (by kernel_rfl) (fun _ _ _ h => h) (by rfl) (by intro w' hg; go_simp; try with_reducible rfl) ?_
              refine takeB 1 rfl (by kernel_rfl) (fun _ _ _ h => h) (by rfl) (by intro w' hg; go_simp; try with_reducible rfl) ?_
              refine takeB 2 rfl (by kernel_rfl) (fun _ _ _ h => h) (by rfl) (by intro w' hg; go_simp; try with_reducible rfl) ?_
              refine takeB 3 rfl (by kernel_rfl) (fun _ _ _ h => h) (by rfl) (by intro w' hg; go_simp; try with_reducible rfl) ?_
              refine takeB 4 rfl (by kernel_rfl) (fun _ _ _ h => h) (by rfl) (by intro w' hg; exact exec_load_ob rfl rfl (PA.below hg hAl)) ?_
              refine takeB 5 rfl (by kernel_rfl) (fun _ _ _ h => h) (by rfl) (by intro w' hg; exact exec_load_ob rfl rfl (PB.below hg hBl)) ?_
              refine onlyB 6 rfl (by kernel_rfl) (by rfl) ?_
              intro K hK
              go_simp
              refine (same_bare Ob.zero Ob.zero 0 0 [] Ob.zero_bare Ob.zero_bare rfl rfl rfl rfl _ Nums.nil Nums.nil (by simp)).mono ?_
              rintro e u1 ⟨rfl, hv1⟩
              refine hK _ _ (hv1.mono (by omega)) ?_
              clear hK K
              replace T := hide (T.out.below hv1)
              replace O := O.below hv1 O.lt
              replace HB := hide (HB.out.trans (hv1.mono HB.out.size))
              have hs1 := hv1.size
              clear hv1
              clear PA PB
              refine takeB 7 rfl (by kernel_rfl) (fun _ _ _ h => h) (by rfl) (by intro w' hg; go_simp; try with_reducible rfl) ?_
              refine takeB 8 rfl (by kernel_rfl) (fun _ _ _ h => h) (by rfl) (by intro w' hg; go_simp; try with_reducible rfl) ?_
              refine takeB 9 rfl (by kernel_rfl) (fun _ _ _ h => h) (by rfl) (by intro w' hg; go_simp; try with_reducible rfl) ?_
              refine takeB 10 rfl (by kernel_rfl) (fun _ _ _ h => h) (by rfl) (by intro w' hg; exact exec_load_ob rfl rfl (O.below hg hOl)) ?_
              refine takeB 12 rfl (by kernel_rfl) (fun _ _ _ h => h) (by rfl) (by intro w' hg; exact exec_load_ob rfl rfl (O.below hg hOl)) ?_
              refine onlyB 11 rfl (by kernel_rfl) (by rfl) ?_
              intro K hK
              go_simp
              refine (valid_any x _).mono ?_
              rintro e u2 ⟨rfl, hv2⟩
              refine hK _ _ (hv2.mono (by omega)) ?_
              clear hK K
              replace T := hide (T.out.below hv2)
              replace O := O.below hv2 O.lt
              replace HB := hide (HB.out.trans (hv2.mono HB.out.size))
              have hs2 := hv2.size
              clear hv2
              rw [hbv]
              refine onlyB 13 rfl (by kernel_rfl) (by rfl) ?_
              intro K hK
              go_simp
              refine (refValid_any x _).mono ?_
              rintro e u3 ⟨rfl, hv3⟩
              refine hK _ _ (hv3.mono (by omega)) ?_
              clear hK K
              replace T := hide (T.out.below hv3)
              replace O := O.below hv3 O.lt
              replace HB := hide (HB.out.trans (hv3.mono HB.out.size))
              have hs3 := hv3.size
              clear hv3
              rw [hbv]
              refine takeB 14 rfl (by kernel_rfl) (fun _ _ _ h => h) (by rfl) (by intro w' hg; go_simp; try with_reducible rfl) ?_
              refine takeB 15 rfl (by kernel_rfl) (fun _ _ _ h => h) (by rfl) (by intro w' hg; go_simp; try with_reducible rfl) ?_
              refine doneB (by kernel_rfl) ?_
              go_simp
              go_wp2_with fail
              go_roundw
              case rel => exact ⟨k + 1, by go_num, by omega, T, HB⟩
              case measure => simp [intOf]; omega
      · obtain rfl : k = 3 := by omega
        go_wp2_with fail
        refine (new_any id _).mono ?_
        rintro e w5 ⟨g1, rfl, OG, hg1, hb5⟩
        replace HB := hide (HB.out.trans (hb5.mono HB.out.size))
        clear hb5 T
        go_wp2_with fail
        refine (refNew_any id _).mono ?_
        rintro e w6 ⟨g2, rfl, OH, hg2, hb6⟩
        replace HB := hide (HB.out.trans (hb6.mono HB.out.size))
        replace OG := OG.below hb6 OG.lt
        clear hb6
        go_wp2_with fail
        refine (same_bare (Ob.page id ⟨some ⟨g1, 0, none⟩, 16, 16⟩) (Ob.page id ⟨some ⟨g2, 0, none⟩, 16, 16⟩) id 2 no16 (Ob.page_bare _ _) (Ob.page_bare _ _) rfl rfl rfl rfl _ (words_page (id := id) OG rfl rfl) (words_page (id := id) OH rfl rfl) (by decide)).mono ?_
        rintro e w7 ⟨rfl, hb7⟩
        go_wp2_with fail
        go_ret
        exact ⟨rfl, HB.out.trans (hb7.mono HB.out.size)⟩
end Go.Proofs.Ytohdoleeefoiaaa
