/- Layer 8: files as the reference has them (FileBytes): the walk. (Written by tools/mkfilebytes.py.) -/
import Derived.Test.YtcgiobffobonpaaFlLaw
import Derived.Test.YtcgiobffobonpaaFlRefOps
import Derived.Test.YtcgiobffobonpaaSameOb
import Derived.Test.YtcgiobffobonpaaObObj
import Derived.Test.YtcgiobffobonpaaObCame
import Derived.Test.YtcgiobffobonpaaPgThree
namespace Go.Proofs.Ytcgiobffobonpaa
open Go.RowKit

/-- Three objects, in a block of their own, whose data is to be read. -/
structure Three8 (w : World) (g : Nat) (a b c : Ob) : Prop where
  ob : Obl w g 41 (ocl a ++ (ocl b ++ ocl c)).toArray
  able : ∀ x ∈ [a, b, c], ∃ D, Bytes w w.heap.size x.data.A x.data.n D
theorem Three8.below {w w' : World} {g : Nat} {a b c : Ob} (h : Three8 w g a b c) (hb : Below w.heap.size w w') : Three8 w' g a b c := ⟨h.ob.below hb h.ob.lt, fun x hx => (h.able x hx).imp fun _ h => (h.below hb).mono hb.size⟩
theorem alike_data {o : Ob} (h : o.File) (s s' : Sl) : Alike (Ob.file o.id s) { o with data := s' } := by
  obtain ⟨h1, _, _, _, ⟨c1, c2, c3, c4, c5, c6, c7⟩, _⟩ := h
  simp only [List.cons.injEq, and_true] at c6
  exact ⟨rfl, h1.symm, c1.symm, c2.symm, c3.symm, c4.symm, c5.symm, c7.symm, c6.1.symm, c6.2.symm⟩
theorem both_data {w : World} {o : Ob} (h : o.File) {A A' : Option Addr} {n c n' c' : Nat} {D : List UInt8} (hA : Bytes w w.heap.size A n D) (hB : Bytes w w.heap.size A' n' D) : Both w (Ob.file o.id ⟨A, n, c⟩) { o with data := ⟨A', n', c'⟩ } [] D [] [] [] := by
  obtain ⟨_, _, _, hw, _, ⟨_, hb, _, hp, hq⟩, _⟩ := h
  have hw' : o.words.n = 0 := hw
  have hb' : o.backlog.n = 0 := hb
  have hp' : o.q0.n = 0 := hp
  have hq' : o.q1.n = 0 := hq
  refine ⟨Nums.nil, ?_, hA, hB, Bytes.nil, ?_, Bytes.nil, ?_, Nums.nil, ?_, by simp⟩
  · show Nums .i64 w _ o.words.A o.words.n []; rw [hw']; exact Nums.nil
  · show Bytes w _ o.q0.A o.q0.n []; rw [hp']; exact Bytes.nil
  · show Bytes w _ o.q1.A o.q1.n []; rw [hq']; exact Bytes.nil
  · show Nums .u64 w _ o.backlog.A o.backlog.n []; rw [hb']; exact Nums.nil
theorem same_data {o : Ob} (h : o.File) (w : World) {A A' : Option Addr} {n c n' c' : Nat} {D : List UInt8} (hA : Bytes w w.heap.size A n D) (hB : Bytes w w.heap.size A' n' D) :
    Calls Try.prog 16 #[.agg (oc (Ob.file o.id ⟨A, n, c⟩)), .agg (oc { o with data := ⟨A', n', c'⟩ })] w (BoolPost true w) :=
  same_ob _ _ [] D [] [] [] w (alike_data h _ _) rfl h.2.2.2.2.2.1.2.2.1 (both_data h hA hB) fun u _ => sameProc_none _ _ noProc_zero h.2.2.2.2.2.2 u
theorem same_self {o : Ob} (ho : o.NoLists) (w : World) : Calls Try.prog 16 #[.agg (oc o), .agg (oc o)] w (BoolPost true w) := by
  obtain ⟨⟨h1, h2, h3, h4, h5, h6⟩, hp⟩ := ho
  refine same_ob o o [] [] [] [] [] w ⟨rfl, rfl, rfl, rfl, rfl, rfl, rfl, rfl, rfl, rfl⟩ (by rw [h6]) (by rw [h6]) ?_ fun u _ => sameProc_none _ _ hp hp u
  refine ⟨?_, ?_, ?_, ?_, ?_, ?_, ?_, ?_, ?_, ?_, by simp⟩
  all_goals first | (rw [h1]; exact Nums.nil) | (rw [h2]; exact Bytes.nil) | (rw [h4]; exact Bytes.nil) | (rw [h5]; exact Bytes.nil) | (rw [h3]; exact Nums.nil)

set_option maxRecDepth 100000 in
set_option maxHeartbeats 16000000 in
theorem fileBytes_any (o : Ob) (l : List Nm) (strs : List (List UInt8)) (D0 : List UInt8) (S : Option Addr) (q r : Nat) (bs : List UInt8) (i : Int) (ch : UInt8) (id tg : Int) (W : World) (hl : Nms W W.heap.size o.names.A o.names.n l) (hS : Strs W W.heap.size o.strs.A o.strs.n strs) (hf : Fits o l strs)
    (hD0 : Bytes W W.heap.size o.data.A o.data.n D0) (h : Bytes W W.heap.size S q bs) (hq : q ≤ r ∧ r ≤ 9223372036854775807) :
    Calls Try.prog 3 #[.agg (oc o), .slice S q r, .int .i64 i, .int .u8 (ch.toNat : Int), .int .u64 id, .int .u64 tg] W (BoolPost true W) := by
  obtain ⟨w0, hw, O, hb, hs⟩ : ∃ w0, W.alloc (.cells (oc o) 41) = w0 ∧ Obl w0 W.heap.size 41 (oc o) ∧ Below W.heap.size W w0 ∧ w0.heap.size = W.heap.size + 1 :=
    ⟨_, rfl, Obl.make W _ _, (Below.refl _ _).alloc (Nat.le_refl _) _, by simp⟩
  have HN := hide hl
  have HST := hide hS
  have HF := hide hf
  have HLW := hide hD0
  have HBY := hide h
  have HQ := hide hq
  have HB := hide hb
  clear hl hS hf hD0 h hq hb hs
  go_enter Try.func3, Try.ntmps3
  try dsimp only [List.append]
  go_wp2_with fail
  refine (flSane_any _).mono ?_
  rintro e w1 ⟨rfl, hb1⟩
  replace O := O.below hb1 O.lt
  replace HB := hide (HB.out.trans (hb1.mono HB.out.size))
  clear hb1 hw
  go_wp2_with (first | (refine load_ob rfl _ rfl rfl O ?_) | fail)
  refine (keepob_any o l strs _ ((HN.out.below HB.out).mono HB.out.size) ((HST.out.below HB.out).mono HB.out.size) HF.out).mono ?_
  rintro e w2 ⟨bv, rfl, hb2⟩
  replace O := O.below hb2 O.lt
  replace HB := hide (HB.out.trans (hb2.mono HB.out.size))
  clear hb2 HN HST HF
  cases bv with
  | false =>
    go_wp2_with fail
    go_ret
    exact ⟨rfl, HB.out⟩
  | true =>
    have hW2 := O.lt
    go_wp2_with fail
    refine (new_dice W.heap.size S q r bs _ (HBY.out.belowLe HB.out (Nat.le_refl _)) HB.out.size HQ.out).mono ?_
    rintro e w3 ⟨rfl, hD, hb3, hs3⟩
    replace O := O.below hb3 O.lt
    replace HB := hide (HB.out.trans (hb3.mono HB.out.size))
    have HD := hide hD
    obtain ⟨d, hd⟩ : ∃ d, w2.heap.size = d := ⟨_, rfl⟩
    have hdW : W.heap.size < d := by omega
    rw [hd] at HD ⊢
    clear hb3 hD HBY hW2 hd hs3
    go_wp2_with fail
    refine region_D (by kernel_rfl) w3.drew.heap.size d [] ?_
    replace O : Obl w3.drew W.heap.size 41 (oc o) := O
    replace HD : Hid (Dice w3.drew d d) := HD
    replace HB : Hid (Below W.heap.size W w3.drew) := hide ⟨HB.out.os, HB.out.tape, HB.out.output, HB.out.size, HB.out.block⟩
    generalize w3.drew = u0 at *
    have hd0 := HD.out.lt
    have hOW := O.lt
    refine takeDX 1 rfl (by kernel_rfl) (fun _ _ _ h => h) (by rfl) (by intro w'; go_simp; try with_reducible rfl) ?_
    refine takeDX 2 rfl (by kernel_rfl) (fun _ _ _ h => h) (by rfl) (by intro w'; go_simp; try with_reducible rfl) ?_
    refine takeDX 5 rfl (by kernel_rfl) (fun _ _ _ h => h) (by rfl) (by intro w'; go_simp; try with_reducible rfl) ?_
    refine takeDX 9 rfl (by kernel_rfl) (fun _ _ _ h => h) (by rfl) (by intro w'; go_simp; try with_reducible rfl) ?_
    refine takeD 0 [0] rfl (by kernel_rfl) (fun _ _ _ h => h) (by rfl) (by intro w' hq; exact exec_load_ob rfl rfl (hq.obl' O (by omega))) ?_
    go_simp
    refine onlyD 3 rfl (by kernel_rfl) (by rfl) ?_
    intro K hK
    go_simp
    refine (id_dice d d _ HD.out).mono ?_
    rintro e u1 ⟨v1, rfl, hD1, hB1⟩
    have hs1 : u0.heap.size ≤ u1.heap.size := hB1.size
    have HB1 := hide (HB.out.trans (hB1.below HB.out.size (by omega)))
    refine hK _ _ (fun _ => hB1) ?_
    clear hK K hB1 HB HD O
    go_simp
    refine onlyD 4 rfl (by kernel_rfl) (by rfl) ?_
    intro K hK
    go_simp
    refine (file_thrown d d v1 _ hD1).mono ?_
    rintro e u2 ⟨A2, n2, c2, D2, rfl, hn2, hown2, hD2, hB2⟩
    have hs2 : u1.heap.size ≤ u2.heap.size := hB2.size
    have HB2 := hide (HB1.out.trans (hB2.below HB1.out.size (by omega)))
    refine hK _ _ (fun _ => hB2.mono hs1) ?_
    clear hK K hB2 HB1 hD1
    go_simp
    refine onlyD 6 rfl (by kernel_rfl) (by rfl) ?_
    intro K hK
    go_simp
    refine (object_dice d d _ hD2).mono ?_
    rintro e u3 ⟨o3, rfl, hO3, hD3, hB3⟩
    have hs3 : u2.heap.size ≤ u3.heap.size := hB3.size
    have HB3 := hide (HB2.out.trans (hB3.below HB2.out.size (by omega)))
    have hown3 := Bytes.of_own (own_bel hown2 hB3 (by omega))
    refine hK _ _ (fun _ => hB3.mono (by omega)) ?_
    clear hK K hB3 HB2 hD2 hown2 hD3
    go_simp
    refine onlyD 7 rfl (by kernel_rfl) (by rfl) ?_
    intro K hK
    refine wp_yield (exec_slice3 rfl rfl rfl rfl) ?_
    refine hK _ _ (fun _ => Bel.of ((Below.refl _ _).alloc (by omega) _)) ?_
    clear hK K
    have HT : Hid (Three8 (u3.alloc (.cells (ocl o ++ (ocl (Ob.file v1 ⟨A2, n2, c2⟩) ++ ocl o3)).toArray 41)) u3.heap.size o (Ob.file v1 ⟨A2, n2, c2⟩) o3) := by
      have hbA := (Below.refl u3.heap.size u3).alloc (Nat.le_refl _) (.cells (ocl o ++ (ocl (Ob.file v1 ⟨A2, n2, c2⟩) ++ ocl o3)).toArray 41)
      refine hide ⟨Obl.make u3 _ _, fun x hx => ?_⟩
      simp only [List.mem_cons, List.not_mem_nil, or_false] at hx
      rcases hx with rfl | rfl | rfl
      · exact ⟨D0, (((HLW.out.below HB3.out).mono HB3.out.size).below hbA).mono hbA.size⟩
      · exact ⟨D2, (hown3.below hbA).mono hbA.size⟩
      · obtain ⟨D3, h3⟩ := hO3.data
        exact ⟨D3, ((Bytes.of_own h3).below hbA).mono hbA.size⟩
    have HB4 := hide (HB3.out.alloc HB3.out.size (.cells (ocl o ++ (ocl (Ob.file v1 ⟨A2, n2, c2⟩) ++ ocl o3)).toArray 41))
    generalize Ob.file v1 ⟨A2, n2, c2⟩ = o2 at *
    generalize u3.alloc (.cells (ocl o ++ (ocl o2 ++ ocl o3)).toArray 41) = u4 at *
    generalize u3.heap.size = gs at *
    clear HLW HB3 hown3 hO3 hn2 hs1 hs2 hs3 hd0 hOW
    refine takeDX 8 rfl (by kernel_rfl) (fun _ _ _ h => h) (by rfl) (by intro w'; go_simp; try with_reducible rfl) ?_
    refine doneD (by kernel_rfl) ?_
    go_simp
    go_wp2_with fail
    go_loopw [44] (fun s wr => ∃ k : Nat, s = .int .i64 (k : Int) ∧ k ≤ 3 ∧ Hid (Three8 wr gs o o2 o3) ∧ Hid (Below W.heap.size W wr)) (fun s _ => 3 - (intOf s).toNat)
    case atStart => exact ⟨0, rfl, by omega, HT, HB4⟩
    case round =>
      clear HT HB4
      obtain ⟨k, rfl, hk, T, HB⟩ := hrel
      by_cases hlt : k < 3
      · have hlt' : (k : Int) < 3 := by omega
        obtain ⟨x, hx⟩ : ∃ x, [o, o2, o3][k]? = some x := ⟨[o, o2, o3][k], List.getElem?_eq_getElem hlt⟩
        obtain ⟨Dx, hDx⟩ := T.out.able x (List.mem_of_getElem? hx)
        have OT := T.out.ob
        obtain ⟨w5, hw5, m, hm, w6, hw6, OZ, O, hb6, hs6⟩ := laid_ob x wr
        have hgm := OT.lt
        go_wp2_with (first | (refine wpList_val (by rfl) (exec_load_three rfl rfl OT hx) ?_) | (refine store_ob rfl _ _ rfl rfl (c := x) rfl OZ rfl ?_; rw [hw6]) | fail)
        obtain ⟨z, hz⟩ : ∃ z, bits BinOp.and IntKind.i64 i 15 = z := ⟨_, rfl⟩
        obtain ⟨y, hy⟩ : ∃ y, wrap64 (4095 + bits BinOp.and IntKind.i64 i 1) = y := ⟨_, rfl⟩
        rw [hz, hy]
        have OI : Obl (w6.alloc (.cells #[.int .i64 i, .int .i64 z, .int .i64 y] 3)) (m + 1) 3 (nv .i64 [i, z, y]).toArray := by
          have := Obl.make w6 3 (nv .i64 [i, z, y]).toArray
          rw [hs6] at this
          exact this
        have hbI := (Below.refl w6.heap.size w6).alloc (Nat.le_refl _) (.cells #[.int .i64 i, .int .i64 z, .int .i64 y] 3)
        replace T := hide ((T.out.below hb6).below hbI)
        replace O := O.below hbI O.lt
        replace hDx := (((hDx.below hb6).mono hb6.size).below hbI).mono hbI.size
        replace HB := hide (HB.out.trans ((hb6.trans (hbI.mono hb6.size)).mono HB.out.size))
        clear hbI hb6 hs6 OZ hw6 hw5 hm OT hgm hz hy hx
        generalize w6.alloc (.cells #[.int .i64 i, .int .i64 z, .int .i64 y] 3) = w7 at *
        have HDX := hide hDx
        have HOX := hide O
        have HOI := hide OI
        clear hDx O OI
        go_loopw [56] (fun s wt => ∃ t : Nat, s = .int .i64 (t : Int) ∧ t ≤ 3 ∧ Hid (Three8 wt gs o o2 o3) ∧ Obl wt m 41 (oc x) ∧ Bytes wt wt.heap.size x.data.A x.data.n Dx ∧ Obl wt (m + 1) 3 (nv .i64 [i, z, y]).toArray ∧ Hid (Below W.heap.size W wt)) (fun s _ => 3 - (intOf s).toNat)
        case atStart => exact ⟨0, rfl, by omega, T, HOX.out, HDX.out, HOI.out, HB⟩
        case round =>
          clear T HB HDX HOX HOI
          obtain ⟨t, rfl, ht, T, O, hDx, OI, HB⟩ := hrel
          by_cases htl : t < 3
          · have htl' : (t : Int) < 3 := by omega
            have htn : t < [i, z, y].length := htl
            have hcw := OI.num htn
            generalize [i, z, y][t] = word at hcw
            go_wp2_with (first | (refine load_ob rfl _ rfl rfl O ?_) | fail)
            refine (flRead_any x Dx word _ hDx).mono ?_
            rintro e w8 ⟨rfl, hb8⟩
            clear hcw
            replace T := hide (T.out.below hb8)
            replace O := O.below hb8 O.lt
            replace hDx := (hDx.below hb8).mono (hb8).size
            replace HB := hide (HB.out.trans ((hb8).mono HB.out.size))
            replace OI := OI.below hb8 OI.lt
            clear hb8
            go_wp2_with (first | (refine load_ob rfl _ rfl rfl O ?_) | fail)
            refine (refFlRead_any x Dx word _ hDx).mono ?_
            rintro e w9 ⟨rfl, hb9⟩
            replace T := hide (T.out.below hb9)
            replace O := O.below hb9 O.lt
            replace hDx := (hDx.below hb9).mono (hb9).size
            replace HB := hide (HB.out.trans ((hb9).mono HB.out.size))
            replace OI := OI.below hb9 OI.lt
            clear hb9
            generalize x.fbyte Dx word = gv
            generalize x.fthere Dx word = gt
            obtain ⟨rc, hrc⟩ : ∃ rc, x.fcheck word = rc := ⟨_, rfl⟩
            rw [hrc]
            clear hrc
            by_cases hc : x.fwrite word = 0
            · obtain ⟨hc0, hc1⟩ := Ob.fwrite_0 hc
              obtain ⟨hp, h0⟩ := Ob.fcheck_0 hc0
              obtain ⟨k2, rfl⟩ := Int.eq_ofNat_of_zero_le h0
              have HP := hide hp
              clear hc0 hc1 hp h0
              go_wp2_with (first | (refine load_ob rfl _ rfl rfl O ?_) | fail)
              refine (flWrite_ok x Dx k2 ch _ hc hDx).mono ?_
              rintro e w10 ⟨A4, n4, c4, rfl, hown4, hb10⟩
              have NA := Bytes.of_own hown4
              clear hown4
              replace T := hide (T.out.below hb10)
              replace O := O.below hb10 O.lt
              replace hDx := (hDx.below hb10).mono (hb10).size
              replace HB := hide (HB.out.trans ((hb10).mono HB.out.size))
              replace OI := OI.below hb10 OI.lt
              clear hb10
              obtain ⟨a1, hwa0, ab, hma, a2, hwa, OZa, PA, hba2, hsa2⟩ := laid_ob (Ob.file x.id ⟨A4, n4, c4⟩) w10
              replace T := hide (T.out.below hba2)
              replace O := O.below hba2 O.lt
              replace hDx := (hDx.below hba2).mono (hba2).size
              replace HB := hide (HB.out.trans ((hba2).mono HB.out.size))
              replace OI := OI.below hba2 OI.lt
              replace NA := (NA.below hba2).mono (hba2).size
              clear hba2
              go_wp2_with (first | (refine store_ob rfl _ _ rfl rfl (c := Ob.file x.id ⟨A4, n4, c4⟩) rfl OZa rfl ?_; rw [hwa]) | (refine load_ob rfl _ rfl rfl O ?_) | fail)
              refine (refFlWrite_ok x Dx k2 ch _ hc hDx).mono ?_
              rintro e w11 ⟨A5, n5, c5, rfl, NB, hb11⟩
              replace T := hide (T.out.below hb11)
              replace O := O.below hb11 O.lt
              replace hDx := (hDx.below hb11).mono (hb11).size
              replace HB := hide (HB.out.trans ((hb11).mono HB.out.size))
              replace OI := OI.below hb11 OI.lt
              replace NA := (NA.below hb11).mono (hb11).size
              replace PA := PA.below hb11 PA.lt
              clear hb11
              obtain ⟨b1, hwb0, bb, hmb, b2, hwb, OZb, PB, hbb2, hsb2⟩ := laid_ob { x with data := ⟨A5, n5, c5⟩ } w11
              replace T := hide (T.out.below hbb2)
              replace O := O.below hbb2 O.lt
              replace hDx := (hDx.below hbb2).mono (hbb2).size
              replace HB := hide (HB.out.trans ((hbb2).mono HB.out.size))
              replace OI := OI.below hbb2 OI.lt
              replace NA := (NA.below hbb2).mono (hbb2).size
              replace NB := (NB.below hbb2).mono (hbb2).size
              replace PA := PA.below hbb2 PA.lt
              clear hbb2
              clear hwa hwa0 hma OZa hc
              go_wp2_with (first | (refine store_ob rfl _ _ rfl rfl (c := { x with data := ⟨A5, n5, c5⟩ }) rfl OZb rfl ?_; rw [hwb]) | (refine wpList_val (by rfl) (exec_load_ob rfl rfl PA) ?_) | (refine wpList_val (by rfl) (exec_load_ob rfl rfl PB) ?_) | fail)
              refine (same_data HP.out _ NA NB).mono ?_
              rintro e w12 ⟨rfl, hb12⟩
              replace T := hide (T.out.below hb12)
              replace O := O.below hb12 O.lt
              replace hDx := (hDx.below hb12).mono (hb12).size
              replace HB := hide (HB.out.trans ((hb12).mono HB.out.size))
              replace OI := OI.below hb12 OI.lt
              clear hb12
              clear OZb hwb hwb0 hmb PA PB NA NB
              go_wp2_with fail
              go_roundw
              case rel => exact ⟨t + 1, by go_num, by omega, T, O, hDx, OI, HB⟩
              case measure => simp [intOf]; omega
            · go_wp2_with (first | (refine load_ob rfl _ rfl rfl O ?_) | fail)
              refine (flWrite_no x word ch _ hc).mono ?_
              rintro e w10 ⟨rfl, hb10⟩
              replace T := hide (T.out.below hb10)
              replace O := O.below hb10 O.lt
              replace hDx := (hDx.below hb10).mono (hb10).size
              replace HB := hide (HB.out.trans ((hb10).mono HB.out.size))
              replace OI := OI.below hb10 OI.lt
              clear hb10
              obtain ⟨a1, hwa0, ab, hma, a2, hwa, OZa, PA, hba2, hsa2⟩ := laid_ob Ob.zero w10
              replace T := hide (T.out.below hba2)
              replace O := O.below hba2 O.lt
              replace hDx := (hDx.below hba2).mono (hba2).size
              replace HB := hide (HB.out.trans ((hba2).mono HB.out.size))
              replace OI := OI.below hba2 OI.lt
              clear hba2
              go_wp2_with (first | (refine store_ob rfl _ _ rfl rfl (c := Ob.zero) rfl OZa rfl ?_; rw [hwa]) | (refine load_ob rfl _ rfl rfl O ?_) | fail)
              refine (refFlWrite_no x word ch _ hc).mono ?_
              rintro e w11 ⟨rfl, hb11⟩
              replace T := hide (T.out.below hb11)
              replace O := O.below hb11 O.lt
              replace hDx := (hDx.below hb11).mono (hb11).size
              replace HB := hide (HB.out.trans ((hb11).mono HB.out.size))
              replace OI := OI.below hb11 OI.lt
              replace PA := PA.below hb11 PA.lt
              clear hb11
              obtain ⟨b1, hwb0, bb, hmb, b2, hwb, OZb, PB, hbb2, hsb2⟩ := laid_ob Ob.zero w11
              replace T := hide (T.out.below hbb2)
              replace O := O.below hbb2 O.lt
              replace hDx := (hDx.below hbb2).mono (hbb2).size
              replace HB := hide (HB.out.trans ((hbb2).mono HB.out.size))
              replace OI := OI.below hbb2 OI.lt
              replace PA := PA.below hbb2 PA.lt
              clear hbb2
              clear hwa hwa0 hma OZa
              generalize x.fwrite word = wc at *
              go_wp2_with (first | (refine store_ob rfl _ _ rfl rfl (c := Ob.zero) rfl OZb rfl ?_; rw [hwb]) | (refine wpList_val (by rfl) (exec_load_ob rfl rfl PA) ?_) | (refine wpList_val (by rfl) (exec_load_ob rfl rfl PB) ?_) | fail)
              refine (same_bare Ob.zero Ob.zero 0 0 [] Ob.zero_bare Ob.zero_bare rfl rfl rfl rfl _ Nums.nil Nums.nil (by simp)).mono ?_
              rintro e w12 ⟨rfl, hb12⟩
              replace T := hide (T.out.below hb12)
              replace O := O.below hb12 O.lt
              replace hDx := (hDx.below hb12).mono (hb12).size
              replace HB := hide (HB.out.trans ((hb12).mono HB.out.size))
              replace OI := OI.below hb12 OI.lt
              clear hb12
              clear OZb hwb hwb0 hmb PA PB
              go_wp2_with fail
              go_roundw
              case rel => exact ⟨t + 1, by go_num, by omega, T, O, hDx, OI, HB⟩
              case measure => simp [intOf]; omega
          · obtain rfl : t = 3 := by omega
            obtain ⟨bv, hbv⟩ : ∃ bv, decide x.File = bv := ⟨_, rfl⟩
            obtain ⟨dv, hdv⟩ : ∃ dv, decide x.Desc = dv := ⟨_, rfl⟩
            go_wp2_with fail
            refine region_B (by kernel_rfl) wr.drew.heap.size ?_
            replace O : Obl wr.drew m 41 (oc x) := O
            replace T : Hid (Three8 wr.drew gs o o2 o3) := hide ⟨T.out.ob, T.out.able⟩
            replace HB : Hid (Below W.heap.size W wr.drew) := hide ⟨HB.out.os, HB.out.tape, HB.out.output, HB.out.size, HB.out.block⟩
            clear hDx OI
            generalize wr.drew = v0 at *
            have hOl := O.lt
            refine takeB 0 rfl (by kernel_rfl) (fun _ _ _ h => h) (by rfl) (by intro w' hg; exact exec_load_ob rfl rfl (O.below hg hOl)) ?_
            refine takeB 2 rfl (by kernel_rfl) (fun _ _ _ h => h) (by rfl) (by intro w' hg; exact exec_load_ob rfl rfl (O.below hg hOl)) ?_
            go_simp
            refine onlyB 1 rfl (by kernel_rfl) (by kernel_rfl) ?_
            intro K hK
            go_simp
            refine (flValid_any x _).mono ?_
            rintro e v3 ⟨rfl, hv1⟩
            refine hK _ _ (hv1.mono (by omega)) ?_
            clear hK K
            have hs_v3 := hv1.size
            replace T := hide (T.out.below hv1)
            replace O := O.below hv1 O.lt
            replace HB := hide (HB.out.trans ((hv1).mono HB.out.size))
            clear hv1
            rw [hbv]
            go_simp
            refine onlyB 3 rfl (by kernel_rfl) (by kernel_rfl) ?_
            intro K hK
            go_simp
            refine (refFlValid_any x _).mono ?_
            rintro e v4 ⟨rfl, hv4⟩
            refine hK _ _ (hv4.mono (by omega)) ?_
            clear hK K
            have hs_v4 := hv4.size
            replace T := hide (T.out.below hv4)
            replace O := O.below hv4 O.lt
            replace HB := hide (HB.out.trans ((hv4).mono HB.out.size))
            clear hv4
            rw [hbv]
            refine takeB 4 rfl (by kernel_rfl) (fun _ _ _ h => h) (by rfl) (by intro w' hg; go_simp; try with_reducible rfl) ?_
            refine takeB 5 rfl (by kernel_rfl) (fun _ _ _ h => h) (by rfl) (by intro w' hg; go_simp; try with_reducible rfl) ?_
            have hO4 := O.lt
            go_simp
            refine takeB 6 rfl (by kernel_rfl) (fun _ _ _ h => h) (by kernel_rfl) (by intro w' hg; exact exec_load_ob rfl rfl (O.below hg (by omega))) ?_
            refine takeB 8 rfl (by kernel_rfl) (fun _ _ _ h => h) (by kernel_rfl) (by intro w' hg; exact exec_load_ob rfl rfl (O.below hg (by omega))) ?_
            go_simp
            refine onlyB 7 rfl (by kernel_rfl) (by kernel_rfl) ?_
            intro K hK
            go_simp
            refine (flValidOpen_any x _).mono ?_
            rintro e v5 ⟨rfl, hv5⟩
            refine hK _ _ (hv5.mono (by omega)) ?_
            clear hK K
            have hs_v5 := hv5.size
            replace T := hide (T.out.below hv5)
            replace O := O.below hv5 O.lt
            replace HB := hide (HB.out.trans ((hv5).mono HB.out.size))
            clear hv5
            rw [hdv]
            go_simp
            refine onlyB 9 rfl (by kernel_rfl) (by kernel_rfl) ?_
            intro K hK
            go_simp
            refine (refFlValidOpen_any x _).mono ?_
            rintro e v6 ⟨rfl, hv6⟩
            refine hK _ _ (hv6.mono (by omega)) ?_
            clear hK K
            have hs_v6 := hv6.size
            replace T := hide (T.out.below hv6)
            replace O := O.below hv6 O.lt
            replace HB := hide (HB.out.trans ((hv6).mono HB.out.size))
            clear hv6
            rw [hdv]
            refine takeB 10 rfl (by kernel_rfl) (fun _ _ _ h => h) (by kernel_rfl) (by intro w' hg; go_simp; try with_reducible rfl) ?_
            refine takeB 11 rfl (by kernel_rfl) (fun _ _ _ h => h) (by rfl) (by intro w' hg; go_simp; try with_reducible rfl) ?_
            refine doneB (by kernel_rfl) ?_
            go_simp
            go_wp2_with fail
            go_roundw
            case rel => exact ⟨k + 1, by go_num, by omega, T, HB⟩
            case measure => simp [intOf]; omega
      · obtain rfl : k = 3 := by omega
        go_wp2_with fail
        refine (flNew_any id _).mono ?_
        rintro e w5 ⟨rfl, hb5⟩
        replace HB := hide (HB.out.trans (hb5.mono HB.out.size))
        clear hb5 T
        go_wp2_with fail
        refine (fileNew id _).mono ?_
        rintro e w6 ⟨rfl, hb6⟩
        replace HB := hide (HB.out.trans (hb6.mono HB.out.size))
        clear hb6
        go_wp2_with fail
        refine (same_self (o := Ob.file id ⟨none, 0, 0⟩) ⟨⟨rfl, rfl, rfl, rfl, rfl, rfl⟩, noProc_zero⟩ _).mono ?_
        rintro e w7 ⟨rfl, hb7⟩
        replace HB := hide (HB.out.trans (hb7.mono HB.out.size))
        clear hb7
        go_wp2_with (first | (go_at_call 23; refine (flOpened_any id tg _).mono ?_; rintro e w8 ⟨rfl, hb8⟩) | (go_at_call 24; refine (opened id tg _).mono ?_; rintro e w9 ⟨rfl, hb9⟩) | (go_at_call 16; refine (same_self (o := Ob.desc id tg) ⟨⟨rfl, rfl, rfl, rfl, rfl, rfl⟩, noProc_zero⟩ _).mono ?_; rintro e w10 ⟨rfl, hb10⟩) | fail)
        go_ret
        exact ⟨rfl, HB.out.trans ((hb8.trans ((hb9.trans (hb10.mono hb9.size)).mono hb8.size)).mono HB.out.size)⟩
end Go.Proofs.Ytcgiobffobonpaa
