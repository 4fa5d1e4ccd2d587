/- Layer 8: a file after any writes (FileModel): the walk. (Written by tools/mkmodel.py.) -/
import Derived.Test.YtcgiobffobonpaaFlLaw
import Derived.Test.YtcgiobffobonpaaMaps
import Derived.Test.YtcgiobffobonpaaRegionX
import Derived.Deep.CutRange
import Derived.Deep.CutBlock
namespace Go.Proofs.Ytcgiobffobonpaa
open Go.RowKit Go.Maps

theorem keyInt8 : Keyed Try.prog 3 := int_keyed Try.underlying3
theorem zeroByte (w : World) : (zeroValue 5).run Try.prog w = .ok (.int .u8 0) w := by kernel_rfl
/-- The map of bytes has what the bytes have. -/
def Said8 (L : List (Lit × Value)) (D : List UInt8) : Prop := ∀ k : Nat, (look L (.int .i64 (k : Int))).getD (.int .u8 0) = .int .u8 ((D.getD k 0).toNat : Int)
theorem Said8.nil : Said8 [] [] := fun _ => rfl
theorem Said8.put {L : List (Lit × Value)} {D : List UInt8} (h : Said8 L D) (n : Nat) (x : UInt8) : Said8 ((.int .i64 (n : Int), .int .u8 (x.toNat : Int)) :: L) (Fl.put D n x) := by
  intro k
  rw [Fl.getD_put]
  by_cases hk : k = n
  · subst hk
    rw [look_same (by trivial), if_pos rfl]
    rfl
  · rw [look_other (by intro e; injection e with _ e; omega), if_neg hk]
    exact h k
/-- Bytes lie in no map's block. -/
theorem Bytes.turned {P : Program} {k : TypeId} {w w' : World} {b q B n : Nat} {L : List (Lit × Value)} {A : Option Addr} {D : List UInt8} (h : Bytes w B A n D) (hM : MapIs P k w b q L) (hg : w.grownBy w' (some b)) : Bytes w' B A n D := by
  refine ⟨h.1, h.2.1, h.2.2.1, fun hx => ?_⟩
  obtain ⟨g, o, e, hb, hc⟩ := h.2.2.2 hx
  refine ⟨g, o, e, hb, fun j u hu => ?_⟩
  have h1 := hc j u hu
  have hne := hM.cell_none h1
  have hlt := World.block_lt_of_cell? w _ h1
  rw [← h1]
  unfold World.cell?
  rw [hg.block g hlt (by intro e; injection e with e; exact hne e)]

/-- What the loop keeps: the file in block m, the map in block b. -/
structure Keeps8 (W w : World) (m b i : Nat) (A : Option Addr) (n c : Nat) (D : List UInt8) (L : List (Lit × Value)) : Prop where
  at_ : FlAt w m 6 A n c D
  map : MapIs Try.prog 3 w b i L
  said : Said8 L D
  old : W.heap.size ≤ m ∧ W.heap.size ≤ b
  below : Below W.heap.size W w
theorem Keeps8.later {W w w' : World} {m b i : Nat} {A : Option Addr} {n c : Nat} {D : List UInt8} {L : List (Lit × Value)} (h : Keeps8 W w m b i A n c D L) (hb : Below w.heap.size w w') : Keeps8 W w' m b i A n c D L :=
  ⟨h.at_.below hb, h.map.below hb h.map.lt, h.said, h.old, h.below.trans (hb.mono h.below.size)⟩
theorem wrap_small (x : Nat) (h : x < 256) : IntKind.i64.wrap (x : Int) = (x : Int) := by
  rw [IntKind.wrap_i64]
  omega
/-- The file's block is laid anew. -/
theorem wp_store_ob {o : Oper} {a : Act} {w : World} {K : Act → World → Prop} {Q : Exit → Act → World → Prop} {x y : Operand} (ho : o.op = .store 41 x y) {g : Nat} (hx : a.eval x = .pointer (some ⟨g, 0, none⟩)) {c : Ob} (hy : a.eval y = .agg (oc c)) {old : Array Value} {t : TypeId} (h : Obl w g t old) (hold : old.size = 36)
    (hK : K (a.put o.dst undef) (w.setRow g (oc c))) : o.wp Try.prog a w K Q := wp_store_row _ x y ho g (oc c) hx hy t old h obSize hold (oc_one c) hK

set_option maxRecDepth 100000 in
set_option maxHeartbeats 16000000 in
theorem fileModel_any (S T : Option Addr) (q r u v : Nat) (l s : List UInt8) (W : World) (hS : Bytes W W.heap.size S q l) (hT : Bytes W W.heap.size T u s) :
    Calls Try.prog 5 #[.slice S q r, .slice T u v] W (BoolPost true W) := by
  have HS := hide hS
  have HT := hide hT
  clear hS hT
  go_enter Try.func5, Try.ntmps5
  go_wp2_with fail
  refine (flSane_any _).mono ?_
  rintro e w1 ⟨rfl, hb1⟩
  have HB1 := hide hb1
  clear hb1
  go_wp2_with fail
  refine (flNew_any 6 _).mono ?_
  rintro e w2 ⟨rfl, hb2⟩
  obtain ⟨w3, hw3, m, hm, w4, hw4, OZ, OM, hb4, hs4⟩ := laid_ob (Ob.file 6 ⟨none, 0, 0⟩) w2
  have P : FlAt w4 m 6 none 0 0 [] := ⟨OM, Bytes.nil⟩
  have HB4 := hide (HB1.out.trans ((hb2.trans (hb4.mono hb2.size)).mono HB1.out.size))
  have hmW : W.heap.size ≤ m := by have := HB1.out.size; have := hb2.size; omega
  clear hb2 hb4 HB1 OM
  have hM : MapIs Try.prog 3 (w4.alloc (.map #[] 0)) (m + 1) 0 [] := by rw [← hs4]; exact MapIs.made w4
  have HK : Hid (Keeps8 W (w4.alloc (.map #[] 0)) m (m + 1) 0 none 0 0 [] []) := hide ⟨P.below ((Below.refl _ _).alloc (Nat.le_refl _) _), hM, Said8.nil, ⟨hmW, by omega⟩, HB4.out.alloc HB4.out.size _⟩
  clear hM P HB4
  obtain ⟨w5, hw5⟩ : ∃ w5, w4.alloc (.map #[] 0) = w5 := ⟨_, rfl⟩
  rw [hw5] at HK
  have hmm := @run_makeMap Try.prog
  go_upto_block 0 with (first | (refine store_ob rfl _ _ rfl rfl (c := Ob.file 6 ⟨none, 0, 0⟩) rfl OZ rfl ?_; rw [hw4]) | fail)
  clear hmm OZ hw5 hw4 hw3 hm hs4
  go_cut [7] from 8 to 73 (fun s7 wx => ∃ (i n c : Nat) (A : Option Addr) (D : List UInt8) (L : List (Lit × Value)), s7 = .int .i64 (D.length : Int) ∧ D.length ≤ 256 ∧ i ≤ 40 ∧ Hid (Keeps8 W wx m (m + 1) i A n c D L))
  case first =>
    go_wp2_with fail
    go_loopw [7, 8] (fun s7 s8 wr => ∃ (i n c : Nat) (A : Option Addr) (D : List UInt8) (L : List (Lit × Value)), s7 = .int .i64 (D.length : Int) ∧ s8 = .int .i64 (i : Int) ∧ D.length ≤ 256 ∧ i ≤ 40 ∧ i ≤ q ∧ i ≤ u ∧ Hid (Keeps8 W wr m (m + 1) i A n c D L)) (fun _ s8 _ => 40 - (intOf s8).toNat)
    case atStart => exact ⟨0, 0, 0, none, [], [], rfl, rfl, by simp, by omega, by omega, by omega, HK⟩
    case round =>
      clear HK
      obtain ⟨i, n, c, A, D, L, rfl, rfl, hD, hi, hiq, hiu, HK⟩ := hrel
      by_cases hlt : i < q ∧ i < u ∧ i < 40
      · obtain ⟨g1, g2, g3⟩ := hlt
        have hWr := HK.out.below.size
        obtain ⟨b1, o1, hl1, rfl, hbb1, hc1⟩ := HS.out.at_ g1
        obtain ⟨b2, o2, hl2, rfl, hbb2, hc2⟩ := HT.out.at_ g2
        have hc1' : wr.cell? ⟨b1, o1 + i, none⟩ = some (.int .u8 (l[i].toNat : Int)) := (HK.out.below.cell (p := ⟨b1, o1 + i, none⟩) hbb1).trans hc1
        have hc2' : wr.cell? ⟨b2, o2 + i, none⟩ = some (.int .u8 (s[i].toNat : Int)) := (HK.out.below.cell (p := ⟨b2, o2 + i, none⟩) hbb2).trans hc2
        have ha : l[i].toNat < 256 := l[i].toNat_lt
        have hx : s[i].toNat < 256 := s[i].toNat_lt
        generalize l[i].toNat = a at *
        generalize s[i] = x at *
        have O := HK.out.at_.ob
        have hOl := O.lt
        have hn : D.length = n := HK.out.at_.data.len
        have P := HK.out.at_
        have HN := hide hn
        have HP := hide P
        clear hc1 hc2 hn P
        have HA := hide (wrap_small a (by omega))
        go_upto_region 9 with fail
        rw [show decide ((i : Int) < 40) = true from decide_eq_true (by omega)]
        go_cut [9, 10] from 39 to 52 (fun s9 s10 wx => ∃ (g n1 c1 : Nat) (A1 : Option Addr), s9 = .pointer (some ⟨g, 0, none⟩) ∧ s10 = .int .i64 0 ∧ wr.heap.size ≤ g ∧ Hid (Obl wx g 41 (oc (Ob.file 6 ⟨A1, n1, c1⟩))) ∧ Hid (wx.ownsRow wr.heap.size 5 1 (.slice A1 n1 c1) n1 (bv (Fl.put D a x))) ∧ Hid (Below wr.heap.size wr wx))
        case first =>
          refine region_B (by kernel_rfl) wr.heap.size ?_
          refine takeB 0 rfl (by kernel_rfl) (fun _ _ _ h => h) (by rfl) (by intro w' hg; exact exec_load_ob rfl rfl ((show Obl wr.drew m 41 (oc (Ob.file 6 ⟨A, n, c⟩)) from O).below hg hOl); skip) ?_
          refine takeB 1 rfl (by kernel_rfl) (fun _ _ _ h => h) (by rfl) (by intro w' hg; go_simp; try with_reducible rfl) ?_
          refine takeB 2 rfl (by kernel_rfl) (fun _ _ _ h => h) (by rfl) (by intro w' hg; go_simp; try with_reducible rfl) ?_
          refine takeB 3 rfl (by kernel_rfl) (fun _ _ _ h => h) (by rfl) (by intro w' hg; go_simp; try with_reducible rfl) ?_
          refine takeB 4 rfl (by kernel_rfl) (fun _ _ _ h => h) (by rfl) (by intro w' hg; have hcA := (hg.cell (p := ⟨b1, o1 + i, none⟩) (by show b1 < wr.heap.size; omega)).trans (show _ = _ from hc1'); go_simp; try with_reducible rfl) ?_
          refine takeB 5 rfl (by kernel_rfl) (fun _ _ _ h => h) (by rfl) (by intro w' hg; go_simp; try with_reducible rfl) ?_
          refine takeB 6 rfl (by kernel_rfl) (fun _ _ _ h => h) (by rfl) (by intro w' hg; go_simp; try with_reducible rfl) ?_
          refine takeB 7 rfl (by kernel_rfl) (fun _ _ _ h => h) (by rfl) (by intro w' hg; go_simp; try with_reducible rfl) ?_
          refine takeB 8 rfl (by kernel_rfl) (fun _ _ _ h => h) (by rfl) (by intro w' hg; go_simp; try with_reducible rfl) ?_
          refine takeB 9 rfl (by kernel_rfl) (fun _ _ _ h => h) (by rfl) (by intro w' hg; have hcB := (hg.cell (p := ⟨b2, o2 + i, none⟩) (by show b2 < wr.heap.size; omega)).trans (show _ = _ from hc2'); go_simp; try with_reducible rfl) ?_
          refine twoB 10 14 rfl rfl (by kernel_rfl) (by rfl) (by rfl) ?_ ?_
          · intro K hK
            go_simp
            rw [HA.out]
            refine (flWrite_ok (Ob.file 6 ⟨A, n, c⟩) D a x _ (file_write (by decide) (show n ≤ 4096 by have := HN.out; omega) (by omega)) (show Bytes wr.drew wr.drew.heap.size A n D from HP.out.data)).mono ?_
            rintro e y1 ⟨A1, n1, c1, rfl, hown1, hb6⟩
            have hb6' : Below wr.heap.size wr.drew y1 := hb6
            refine hK _ _ hb6' ?_
            clear hK K
            obtain ⟨y2, hy2, g, hg, y3, hy3, OZ, OM, hb8, hs8⟩ := laid_ob (Ob.file 6 ⟨A1, n1, c1⟩) y1
            have hgW : wr.heap.size ≤ g := by have := hb6'.size; have e : wr.drew.heap.size = wr.heap.size := rfl; omega
            have HF := hide OM
            have HO := hide (own_below (show y1.ownsRow wr.heap.size 5 1 (.slice A1 n1 c1) n1 (bv (Fl.put D a x)) from hown1) hb8)
            have HB : Hid (Below wr.heap.size wr y3) := hide ((show Below wr.heap.size wr y1 from ⟨hb6'.os, hb6'.tape, hb6'.output, hb6'.size, hb6'.block⟩).trans (hb8.mono hb6'.size))
            have HA8 := hide (show Below wr.heap.size y1 y2 from hy2 ▸ (Below.refl _ _).alloc hb6'.size _)
            have HA9 := hide (show Below wr.heap.size y2 y3 from hy3 ▸ below_row (Below.refl _ _) hgW _)
            clear hb6 hb6' hown1 OM hb8
            refine takeB 11 rfl (by kernel_rfl) (fun _ _ _ h => h) (by rfl) (by intro w' hg; go_simp; try with_reducible rfl) ?_
            refine takeB 12 rfl (by kernel_rfl) (fun _ _ _ h => h) (by rfl) (by intro w' hg; go_simp; try with_reducible rfl) ?_
            refine takeB 13 rfl (by kernel_rfl) (fun _ _ _ h => h) (by rfl) (by intro w' hg; go_simp; try with_reducible rfl) ?_
            refine onlyB 14 rfl (by kernel_rfl) (by rfl) ?_
            intro K hK
            go_simp
            refine hK _ _ HA8.out ?_
            clear hK K
            go_simp
            refine onlyB 15 rfl (by kernel_rfl) (by rfl) ?_
            intro K hK
            refine wp_store_ob rfl rfl (c := Ob.file 6 ⟨A1, n1, c1⟩) rfl OZ rfl ?_
            rw [hy3]
            refine hK _ _ HA9.out ?_
            clear hK K
            refine takeB 16 rfl (by kernel_rfl) (fun _ _ _ h => h) (by rfl) (by intro w' hg; go_simp; try with_reducible rfl) ?_
            refine doneB (by kernel_rfl) ?_
            go_simp
            go_wp2_with fail
            go_meet
            case rel => exact ⟨g, n1, c1, A1, rfl, rfl, hgW, HF, HO, HB⟩
          · intro K hK
            go_simp
            generalize hy2 : (wr.alloc _).drew = y2
            have hz : (wr.alloc (.cells (oc Ob.zero) 41)).drew = y2 := hy2
            have OZ : Obl y2 wr.heap.size 41 (oc Ob.zero) := hz ▸ (show Obl (wr.alloc (.cells (oc Ob.zero) 41)).drew wr.heap.size 41 (oc Ob.zero) from Obl.make wr _ _)
            have hb2 : Below wr.heap.size wr.drew y2 := hz ▸ (show Below wr.heap.size wr.drew (wr.alloc (.cells (oc Ob.zero) 41)).drew from ⟨rfl, rfl, rfl, by simp, fun k hk => Below.heap_alloc wr _ k hk⟩)
            have hs2 : y2.heap.size = wr.heap.size + 1 := by rw [← hz]; exact World.size_alloc wr _
            clear hz
            refine hK _ _ hb2 ?_
            clear hK K
            refine onlyB 10 rfl (by kernel_rfl) (by rfl) ?_
            intro K hK
            go_simp
            rw [HA.out]
            refine (flWrite_ok (Ob.file 6 ⟨A, n, c⟩) D a x _ (file_write (by decide) (show n ≤ 4096 by have := HN.out; omega) (by omega)) (((show Bytes wr.drew wr.heap.size A n D from HP.out.data).below hb2).mono (by omega))).mono ?_
            rintro e y1 ⟨A1, n1, c1, rfl, hown1, hb6⟩
            have hb6' : Below wr.heap.size y2 y1 := hb6.mono (by omega)
            refine hK _ _ hb6' ?_
            clear hK K
            have O1 := OZ.below hb6 OZ.lt
            have hown2 := own_keep hown1 (keep_row (m := wr.heap.size) (by omega) (oc (Ob.file 6 ⟨A1, n1, c1⟩)))
            have HF := hide (O1.row_same (oc (Ob.file 6 ⟨A1, n1, c1⟩)))
            have HO := hide (own_weaken hown2 (show wr.heap.size ≤ y2.heap.size by omega))
            have hbA : Below wr.heap.size wr y1 := (show Below wr.heap.size wr y2 from ⟨hb2.os, hb2.tape, hb2.output, hb2.size, hb2.block⟩).trans hb6'
            have HB : Hid (Below wr.heap.size wr (y1.setRow wr.heap.size (oc (Ob.file 6 ⟨A1, n1, c1⟩)))) := hide (below_row hbA (by omega) _)
            have HA9 := hide (below_row (Below.refl wr.heap.size y1) (g := wr.heap.size) (by omega) (oc (Ob.file 6 ⟨A1, n1, c1⟩)))
            have hgW : wr.heap.size ≤ wr.heap.size := Nat.le_refl _
            obtain ⟨y3, hy3⟩ : ∃ y3, y1.setRow wr.heap.size (oc (Ob.file 6 ⟨A1, n1, c1⟩)) = y3 := ⟨_, rfl⟩
            rw [hy3] at HF HO HB HA9
            clear hb6 hb6' hown1 hown2 hbA hy2
            refine takeB 11 rfl (by kernel_rfl) (fun _ _ _ h => h) (by rfl) (by intro w' hg; go_simp; try with_reducible rfl) ?_
            refine takeB 12 rfl (by kernel_rfl) (fun _ _ _ h => h) (by rfl) (by intro w' hg; go_simp; try with_reducible rfl) ?_
            refine takeB 13 rfl (by kernel_rfl) (fun _ _ _ h => h) (by rfl) (by intro w' hg; go_simp; try with_reducible rfl) ?_
            go_simp
            refine onlyB 15 rfl (by kernel_rfl) (by rfl) ?_
            intro K hK
            refine wp_store_ob rfl rfl (c := Ob.file 6 ⟨A1, n1, c1⟩) rfl O1 rfl ?_
            rw [hy3]
            refine hK _ _ HA9.out ?_
            clear hK K
            refine takeB 16 rfl (by kernel_rfl) (fun _ _ _ h => h) (by rfl) (by intro w' hg; go_simp; try with_reducible rfl) ?_
            refine doneB (by kernel_rfl) ?_
            go_simp
            go_wp2_with fail
            go_meet
            case rel => exact ⟨wr.heap.size, n1, c1, A1, rfl, rfl, hgW, HF, HO, HB⟩
        case rest =>
          obtain ⟨g, n1, c1, A1, rfl, rfl, hgW, HF, HO, HBc⟩ := hcut
          have O2 := O.below HBc.out hOl
          have hl1' : (Fl.put D a x).length = n1 := own_bytes HO.out
          have HM2 := hide ((HK.out.map.below HBc.out HK.out.map.lt).same (w' := wc.setRow m (oc (Ob.file 6 ⟨A1, n1, c1⟩))) (setRow_other wc m _ (by omega)))
          have HS2 := hide (HK.out.said.put a x)
          have hB2 := below_row (HK.out.below.trans (HBc.out.mono HK.out.below.size)) hmW (oc (Ob.file 6 ⟨A1, n1, c1⟩))
          have HP2 : Hid (FlAt (wc.setRow m (oc (Ob.file 6 ⟨A1, n1, c1⟩))) m 6 A1 n1 c1 (Fl.put D a x)) := hide ⟨O2.row_same _, Bytes.of_own (own_keep HO.out (keep_row hOl _))⟩
          obtain ⟨wd, hwd⟩ : ∃ wd, wc.setRow m (oc (Ob.file 6 ⟨A1, n1, c1⟩)) = wd := ⟨_, rfl⟩
          rw [hwd] at HM2 hB2 HP2
          have HB2 := hide hB2
          have HKo := hide HK.out.old
          have hdlt := HM2.out.lt
          have f1 : wd.cell? ⟨b1, o1 + i, none⟩ = some (.int .u8 (a : Int)) := (hB2.cell (p := ⟨b1, o1 + i, none⟩) hbb1).trans ((HK.out.below.cell (p := ⟨b1, o1 + i, none⟩) hbb1).symm.trans hc1')
          have f2 : wd.cell? ⟨b2, o2 + i, none⟩ = some (.int .u8 (x.toNat : Int)) := (hB2.cell (p := ⟨b2, o2 + i, none⟩) hbb2).trans ((HK.out.below.cell (p := ⟨b2, o2 + i, none⟩) hbb2).symm.trans hc2')
          have OF := HF.out
          have HL := hide hl1'
          clear hB2 HK HP HF HO HBc O hc1' hc2' hl1'
          go_upto_region 13 with (first | (refine load_ob rfl _ rfl rfl OF ?_) | (refine store_ob rfl _ _ rfl rfl (c := Ob.file 6 ⟨A1, n1, c1⟩) rfl O2 rfl ?_; rw [hwd]) | fail)
          clear OF O2 hwd
          go_simp
          go_cut [56] from 57 to 65 (fun _ wx => Hid (Keeps8 W wx m (m + 1) (i + 1) A1 n1 c1 (Fl.put D a x) ((.int .i64 (a : Int), .int .u8 (x.toNat : Int)) :: L)))
          case first =>
            refine region_B (by kernel_rfl) (m + 1) ?_
            refine takeB 0 rfl (by kernel_rfl) (fun _ _ _ h => h) (by rfl) (by intro w' hg; go_simp; try with_reducible rfl) ?_
            refine takeB 1 rfl (by kernel_rfl) (fun _ _ _ h => h) (by rfl) (by intro w' hg; go_simp; try with_reducible rfl) ?_
            refine takeB 2 rfl (by kernel_rfl) (fun _ _ _ h => h) (by rfl) (by intro w' hg; go_simp; try with_reducible rfl) ?_
            refine takeB 3 rfl (by kernel_rfl) (fun _ _ _ h => h) (by rfl) (by intro w' hg; go_simp; try with_reducible rfl) ?_
            refine takeB 4 rfl (by kernel_rfl) (fun _ _ _ h => h) (by rfl) (by intro w' hg; have hcA := (hg.cell (p := ⟨b1, o1 + i, none⟩) (by show b1 < m + 1; omega)).trans (show _ = _ from f1); go_simp; try with_reducible rfl) ?_
            refine takeB 5 rfl (by kernel_rfl) (fun _ _ _ h => h) (by rfl) (by intro w' hg; go_simp; try with_reducible rfl) ?_
            refine takeB 6 rfl (by kernel_rfl) (fun _ _ _ h => h) (by rfl) (by intro w' hg; go_simp; try with_reducible rfl) ?_
            refine takeB 7 rfl (by kernel_rfl) (fun _ _ _ h => h) (by rfl) (by intro w' hg; go_simp; try with_reducible rfl) ?_
            refine takeB 8 rfl (by kernel_rfl) (fun _ _ _ h => h) (by rfl) (by intro w' hg; go_simp; try with_reducible rfl) ?_
            refine takeB 9 rfl (by kernel_rfl) (fun _ _ _ h => h) (by rfl) (by intro w' hg; have hcB := (hg.cell (p := ⟨b2, o2 + i, none⟩) (by show b2 < m + 1; omega)).trans (show _ = _ from f2); go_simp; try with_reducible rfl) ?_
            go_simp
            refine onlyB 10 rfl (by kernel_rfl) (by rfl) ?_
            intro K hK
            refine wp_put_map _ _ _ 61 rfl keyInt8 Try.underlying61 (show MapIs Try.prog 3 wd.drew (m + 1) i L from HM2.out) (by unfold maxLen; omega) rfl (key := .int .i64 (a : Int)) (congrArg (Value.int .i64) HA.out) rfl (keyOf_int_mk Try.underlying3 (WalkArith.wf_i64 (by omega))) (by trivial) ?_
            intro w8 hM8 ht8
            have hT := ht8.grown
            refine hK _ _ (below_turned (Below.refl (m + 1) wd.drew) ht8 (Nat.le_refl _)) ?_
            clear hK K
            have hB8 := below_turned (show Below W.heap.size W wd.drew from ⟨HB2.out.os, HB2.out.tape, HB2.out.output, HB2.out.size, HB2.out.block⟩) ht8 (by omega)
            have HK8 : Hid (Keeps8 W w8 m (m + 1) (i + 1) A1 n1 c1 (Fl.put D a x) ((.int .i64 (a : Int), .int .u8 (x.toNat : Int)) :: L)) := hide ⟨⟨(show Obl wd.drew m _ _ from HP2.out.ob).grown hT (by intro e; injection e with e; omega), ((show Bytes wd.drew wd.drew.heap.size A1 n1 _ from HP2.out.data).turned (show MapIs Try.prog 3 wd.drew (m + 1) i L from HM2.out) hT).mono hT.size⟩, hM8, HS2.out, HKo.out, hB8⟩
            clear hT ht8 hM8 hB8 HM2 HP2 HS2 HB2 HKo f1 f2 hdlt
            refine doneB (by kernel_rfl) ?_
            go_simp
            go_wp2_with fail
            go_meet
            case rel => exact HK8
          case rest =>
            have f3 : wc.cell? ⟨b1, o1 + i, none⟩ = some (.int .u8 (a : Int)) := (hcut.out.below.cell (p := ⟨b1, o1 + i, none⟩) hbb1).trans ((HB2.out.cell (p := ⟨b1, o1 + i, none⟩) hbb1).symm.trans f1)
            clear HM2 HP2 HS2 HB2 HKo f1 f2 hdlt
            have HP' := hide (Fl.put_length D a x)
            obtain ⟨D', hD'⟩ : ∃ D', Fl.put D a x = D' := ⟨_, rfl⟩
            rw [hD'] at HP' hcut HL
            clear hD'
            go_wp2_with fail
            go_roundw
            case rel => exact ⟨i + 1, n1, c1, A1, D', _, by have := HP'.out; congr 1; split <;> omega, by go_num, by have := HP'.out; omega, by omega, by omega, by omega, hcut⟩
            case measure => simp [intOf]; omega
      · by_cases g1 : i < q
        · have g1' : (i : Int) < (q : Int) := by omega
          by_cases g2 : i < u
          · have g2' : (i : Int) < (u : Int) := by omega
            have g3' : ¬ (i : Int) < 40 := by omega
            go_wp2_with fail
            go_meet
            case rel => exact ⟨i, n, c, A, D, L, rfl, hD, hi, HK⟩
          · have g2' : ¬ (i : Int) < (u : Int) := by omega
            go_wp2_with fail
            go_meet
            case rel => exact ⟨i, n, c, A, D, L, rfl, hD, hi, HK⟩
        · have g1' : ¬ (i : Int) < (q : Int) := by omega
          go_wp2_with fail
          go_meet
          case rel => exact ⟨i, n, c, A, D, L, rfl, hD, hi, HK⟩
  case rest =>
    obtain ⟨i, n, c, A, D, L, rfl, hD, hi, HK⟩ := hcut
    have HN := hide (show D.length = n from HK.out.at_.data.len)
    have hn : n ≤ 256 := by have := HN.out; omega
    go_wp2_with fail
    go_loopw [11] (fun s11 wr => ∃ k : Nat, s11 = .int .i64 (k : Int) ∧ k ≤ 256 ∧ Hid (Keeps8 W wr m (m + 1) i A n c D L)) (fun s11 _ => 256 - (intOf s11).toNat)
    case atStart => exact ⟨0, rfl, by omega, HK⟩
    case round =>
      clear HK
      obtain ⟨k, rfl, hk, HK⟩ := hrel
      have O := HK.out.at_.ob
      by_cases hlt : k < 256
      · have hlt' : (k : Int) < 256 := by omega
        go_wp2_with (first | (refine load_ob rfl _ rfl rfl O ?_) | fail)
        refine (flRead_any (Ob.file 6 ⟨A, n, c⟩) D (k : Int) _ HK.out.at_.data).mono ?_
        rintro e y9 ⟨rfl, hb9⟩
        obtain ⟨r1, r2, r3⟩ := file_read (id := 6) (s := ⟨A, n, c⟩) (by decide) (show n ≤ 4096 by omega) D k
        rw [r1, r2, r3]
        replace HK := hide (HK.out.later hb9)
        have HM := HK.out.map
        have hs := HK.out.said k
        obtain ⟨y, hy⟩ : ∃ y, D.getD k 0 = y := ⟨_, rfl⟩
        rw [hy] at hs ⊢
        have hrun : (Instr.lookup 61 (.map (some (m + 1))) (.int .i64 (k : Int)) false).run Try.prog y9 = .ok (.int .u8 (y.toNat : Int)) y9 := by
          rw [HM.look_one keyInt8 Try.underlying61 (zeroByte _) (keyOf_int_mk Try.underlying3 (WalkArith.wf_i64 (by omega))), hs]
        have hrd : decide (k < D.length) = decide ((k : Int) < (D.length : Int)) := by simp
        rw [hrd]
        clear hb9 r1 r2 r3 hy hs O hrd HM
        by_cases hkn : (k : Int) < (D.length : Int)
        · rw [decide_eq_true hkn]
          go_wp2_with fail
          go_roundw
          case rel => exact ⟨k + 1, by go_num, by omega, HK⟩
          case measure => simp [intOf]; omega
        · rw [decide_eq_false hkn]
          go_wp2_with fail
          go_roundw
          case rel => exact ⟨k + 1, by go_num, by omega, HK⟩
          case measure => simp [intOf]; omega
      · obtain rfl : k = 256 := by omega
        have hF : (Ob.file 6 ⟨A, n, c⟩).fwrite 4096 = 9 := by
          unfold Ob.fwrite
          rw [if_pos (Ob.fcheck_ok (file_file (by decide) (show n ≤ 4096 by omega)) (by decide)), if_neg (by decide)]
        go_wp2_with (first | (refine load_ob rfl _ rfl rfl O ?_) | fail)
        refine (flWrite_no (Ob.file 6 ⟨A, n, c⟩) 4096 1 _ (by rw [hF]; decide)).mono ?_
        rintro e y9 ⟨rfl, hb9⟩
        rw [hF]
        replace HK := hide (HK.out.later hb9)
        obtain ⟨z2, hz2, gz, hgz, z3, hz3, OZ, OM, hb3, hs3⟩ := laid_ob Ob.zero y9
        replace HK := hide (HK.out.later hb3)
        have O2 := HK.out.at_.ob
        clear hb9 hb3 OM O hF
        go_wp2_with (first | (refine store_ob rfl _ _ rfl rfl (c := Ob.zero) rfl OZ rfl ?_; rw [hz3]) | (refine load_ob rfl _ rfl rfl O2 ?_) | fail)
        refine (flWrite_ok (Ob.file 6 ⟨A, n, c⟩) D 4095 1 _ (file_write (by decide) (show n ≤ 4096 by omega) (by decide)) HK.out.at_.data).mono ?_
        rintro e y8 ⟨A4, n4, c4, rfl, hown4, hb8⟩
        have hn4 : n4 = 4096 := by
          have h1 := own_bytes hown4
          rw [Fl.put_length] at h1
          omega
        subst hn4
        have HB8 := hide (HK.out.below.trans (hb8.mono HK.out.below.size))
        obtain ⟨v2, hv2, gv, hgv, v3, hv3, OV, OVM, hbv, hsv⟩ := laid_ob (Ob.file 6 ⟨A4, 4096, c4⟩) y8
        replace HB8 := hide (HB8.out.trans (hbv.mono HB8.out.size))
        have k24 : v3.cell? ⟨gv, 24, none⟩ = some (.slice A4 4096 c4) := OVM.cell 24
        clear hb8 hbv hown4 OVM OZ hz3 hz2 hgz hs3 O2
        go_wp2_with (first | (refine store_ob rfl _ _ rfl rfl (c := Ob.file 6 ⟨A4, 4096, c4⟩) rfl OV rfl ?_; rw [hv3]) | fail)
        go_ret
        exact ⟨rfl, HB8.out⟩
end Go.Proofs.Ytcgiobffobonpaa
