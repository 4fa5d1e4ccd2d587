/- Layer 6: setting two words does not depend on the order (PageOrder): the walk. -/
import Derived.Test.YtohdoleeefoiaaaPgLaw
import Derived.Test.YtohdoleeefoiaaaSame
namespace Go.Proofs.Ytohdoleeefoiaaa
open Go.RowKit

/-- A page that came back, laid over another one. -/
theorem PgAt.over {w w1 : World} {m g g' : Nat} {id : Int} {L L' : List Int} (P : PgAt w m g id L) (hO : Obl w1 g' 2 (nv .i64 L').toArray) (hL : L'.length = 16) (hg : w.heap.size ≤ g') (hb : Below w.heap.size w w1) (B : Nat) (hBm : B ≤ m) :
    ∃ w3, w1.setRow m (oc (Ob.page id ⟨some ⟨g', 0, none⟩, 16, 16⟩)) = w3 ∧ Obl w1 m 41 (oc (Ob.page id ⟨some ⟨g, 0, none⟩, 16, 16⟩)) ∧ PgAt w3 m g' id L' ∧ (∀ w0, Below B w0 w → B ≤ w.heap.size → Below B w0 w3) := by
  have h := P.below hb
  have hm := P.ob.lt
  exact ⟨_, rfl, h.ob, ⟨h.ob.row_same _, hO.row_other (by omega) _, hL⟩, fun w0 hw0 hB => below_row (hw0.trans (hb.mono hB)) hBm _⟩
theorem PgAt.row {w : World} {m g b : Nat} {id : Int} {L : List Int} (P : PgAt w m g id L) (h1 : m ≠ b) (h2 : g ≠ b) (cells : Array Value) : PgAt (w.setRow b cells) m g id L := ⟨P.ob.row_other h1 _, P.ws.row_other h2 _, P.len⟩
theorem PgAt.nums {w : World} {m g : Nat} {id : Int} {L : List Int} (P : PgAt w m g id L) : Nums .i64 w w.heap.size (Ob.page id ⟨some ⟨g, 0, none⟩, 16, 16⟩).words.A (Ob.page id ⟨some ⟨g, 0, none⟩, 16, 16⟩).words.n L := P.words rfl

set_option maxRecDepth 100000 in
set_option maxHeartbeats 8000000 in
theorem pageOrder_any (S : Option Addr) (q r : Nat) (l : List UInt8) (a b : Nat) (v x : Int) (ha : a < 256) (hb : b < 256) (W : World) (h : Bytes W W.heap.size S q l) (hq : q ≤ r ∧ r ≤ 9223372036854775807) :
    Calls Try.prog 5 #[.slice S q r, .int .u8 a, .int .u8 b, .int .i64 v, .int .i64 x] W (BoolPost true W) := by
  have HS := hide h
  clear h
  have ma : ((a : Int)) % 16 = ((a % 16 : Nat) : Int) := by omega
  have ma2 : ((a : Int)).tmod 16 = ((a % 16 : Nat) : Int) := by rw [Int.tmod_eq_emod_of_nonneg (by omega)]; exact ma
  have mb : ((b : Int)) % 16 = ((b % 16 : Nat) : Int) := by omega
  have mb2 : ((b : Int)).tmod 16 = ((b % 16 : Nat) : Int) := by rw [Int.tmod_eq_emod_of_nonneg (by omega)]; exact mb
  obtain ⟨i, hi⟩ : ∃ i, a % 16 = i := ⟨_, rfl⟩
  obtain ⟨j, hj⟩ : ∃ j, b % 16 = j := ⟨_, rfl⟩
  have hi16 : i < 16 := by omega
  have hj16 : j < 16 := by omega
  rw [hi] at ma ma2
  rw [hj] at mb mb2
  clear hi hj
  go_enter Try.func5, Try.ntmps5
  go_wp2_with fail
  refine (sane_any _).mono ?_
  rintro e w1 ⟨rfl, hb1⟩
  have HS1 := hide (HS.out.belowLe hb1 (Nat.le_refl _))
  have HB1 := hide hb1
  have hW1 := hb1.size
  clear hb1 HS
  go_wp2_with fail
  refine (new_dice W.heap.size S q r l _ HS1.out hW1 hq).mono ?_
  rintro e w2 ⟨rfl, hD, hb2, hs2⟩
  have HB2 := hide (HB1.out.trans (hb2.mono hW1))
  have HD2 := hide hD
  obtain ⟨d, hd⟩ : ∃ d, w1.heap.size = d := ⟨_, rfl⟩
  have hdW : W.heap.size ≤ d := by omega
  rw [hd] at HD2 ⊢
  clear hb2 HS1 HB1 hD hW1 hs2 hd
  go_wp2_with fail
  refine (page_dice d d 5 _ HD2.out).mono ?_
  rintro e w3 ⟨g0, L, rfl, OG, hlen, hg0, _, hB⟩
  have hb3 : Below W.heap.size W w3 := HB2.out.trans (hB.below HB2.out.size hdW)
  obtain ⟨w4, hw4, m0, hm0, w5, hw5, OZ, P, hb5⟩ := laid (id := 5) OG hlen hb3
  have HB5 := hide hb5
  clear hb3 hb5 OG hg0 hB HB2 HD2
  go_wp2_with (first | (refine store_ob rfl _ _ rfl rfl (c := Ob.page 5 ⟨some ⟨g0, 0, none⟩, 16, 16⟩) rfl OZ rfl ?_; rw [hw5]) | (refine load_ob rfl _ rfl rfl P.ob ?_) | fail)
  refine (set_ok _ L (i : Int) v _ (page_check (by decide) g0 hi16) P.words).mono ?_
  rintro e w7 ⟨g1, rfl, OG, hg1, hb7⟩
  rw [Int.toNat_natCast] at OG
  obtain ⟨w8, hw8, m1, hm1, w9, hw9, OZ1, PX, hb9⟩ := laid (id := 5) OG (by rw [List.length_set]; exact hlen) hb7
  have hm1W : W.heap.size ≤ m1 := by have := HB5.out.size; have := hb7.size; omega
  have hm01 : m0 ≠ m1 := by have := P.ob.lt; have := hb7.size; omega
  have hg01 : g0 ≠ m1 := by have := P.ws.lt; have := hb7.size; omega
  replace P := P.below hb9
  replace HB5 := hide (HB5.out.trans (hb9.mono HB5.out.size))
  clear hb7 hb9 OG hg1 OZ hw5 hw4
  go_wp2_with (first | (refine store_ob rfl _ _ rfl rfl (c := Ob.page 5 ⟨some ⟨g1, 0, none⟩, 16, 16⟩) rfl OZ1 rfl ?_; rw [hw9]) | (refine load_ob rfl _ rfl rfl PX.ob ?_) | fail)
  refine (set_ok _ (L.set i v) (j : Int) x _ (page_check (by decide) g1 hj16) PX.words).mono ?_
  rintro e w10 ⟨g2, rfl, OG, hg2, hb10⟩
  rw [Int.toNat_natCast] at OG
  have hm1l := PX.ob.lt
  obtain ⟨w11, hw11, OX, PX2, hbB⟩ := PX.over OG (by rw [List.length_set, List.length_set]; exact hlen) hg2 hb10 W.heap.size hm1W
  have P2 := (P.below hb10).row hm01 hg01 (oc (Ob.page 5 ⟨some ⟨g2, 0, none⟩, 16, 16⟩))
  rw [hw11] at P2
  have HB11 := hide (hbB W HB5.out HB5.out.size)
  clear hb10 OG PX hg2 P HB5 hbB OZ1 hw9 hw8
  go_wp2_with (first | (refine store_ob rfl _ _ rfl rfl (c := Ob.page 5 ⟨some ⟨g2, 0, none⟩, 16, 16⟩) rfl OX rfl ?_; rw [hw11]) | (refine load_ob rfl _ rfl rfl P2.ob ?_) | fail)
  refine (set_ok _ L (j : Int) x _ (page_check (by decide) g0 hj16) P2.words).mono ?_
  rintro e w13 ⟨g3, rfl, OG, hg3, hb13⟩
  rw [Int.toNat_natCast] at OG
  obtain ⟨w14, hw14, m2, hm2, w15, hw15, OZ2, PY, hb15⟩ := laid (id := 5) OG (by rw [List.length_set]; exact hlen) hb13
  have hm2W : W.heap.size ≤ m2 := by have := HB11.out.size; have := hb13.size; omega
  have hm12 : m1 ≠ m2 := by have := (PX2.below hb13).ob.lt; omega
  have hg12 : g2 ≠ m2 := by have := (PX2.below hb13).ws.lt; omega
  replace PX2 := PX2.below hb15
  replace HB11 := hide (HB11.out.trans (hb15.mono HB11.out.size))
  clear hb13 hb15 OG hg3 OX hw11 P2
  go_wp2_with (first | (refine store_ob rfl _ _ rfl rfl (c := Ob.page 5 ⟨some ⟨g3, 0, none⟩, 16, 16⟩) rfl OZ2 rfl ?_; rw [hw15]) | (refine load_ob rfl _ rfl rfl PY.ob ?_) | fail)
  refine (set_ok _ (L.set j x) (i : Int) v _ (page_check (by decide) g3 hi16) PY.words).mono ?_
  rintro e w16 ⟨g4, rfl, OG, hg4, hb16⟩
  rw [Int.toNat_natCast] at OG
  obtain ⟨w17, hw17, OY, PY2, hbC⟩ := PY.over OG (by rw [List.length_set, List.length_set]; exact hlen) hg4 hb16 W.heap.size hm2W
  have PX3 := (PX2.below hb16).row hm12 hg12 (oc (Ob.page 5 ⟨some ⟨g4, 0, none⟩, 16, 16⟩))
  rw [hw17] at PX3
  have HB17 := hide (hbC W HB11.out HB11.out.size)
  clear hb16 OG PY hg4 PX2 HB11 hbC OZ2 hw15 hw14
  go_wp2_with (first | (refine store_ob rfl _ _ rfl rfl (c := Ob.page 5 ⟨some ⟨g4, 0, none⟩, 16, 16⟩) rfl OY rfl ?_; rw [hw17]) | (refine load_ob rfl _ rfl rfl PX3.ob ?_) | fail)
  refine (get_any _ ((L.set i v).set j x) (j : Int) _ PX3.words).mono ?_
  rintro e w18 ⟨rfl, hb18⟩
  rw [page_get (by decide) g2 _ hj16, page_check (by decide) g2 hj16, getD_set (by rw [List.length_set]; omega)]
  replace PX3 := PX3.below hb18
  replace PY2 := PY2.below hb18
  replace HB17 := hide (HB17.out.trans (hb18.mono HB17.out.size))
  clear hb18 OY hw17
  have HP : Hid (Ob.page 5 ⟨some ⟨g2, 0, none⟩, 16, 16⟩).Page := hide (Ob.page_page (by decide) rfl)
  by_cases hij : i = j
  · subst hij
    go_wp2_with (first | (refine wpList_val (by rfl) (exec_load_ob rfl rfl PX3.ob) ?_) | (go_at_call 19; refine (valid_any (Ob.page 5 ⟨some ⟨g2, 0, none⟩, 16, 16⟩) _).mono ?_; rintro e w21 ⟨rfl, g21⟩; rw [decide_eq_true HP.out]) | fail)
    go_ret
    exact ⟨rfl, HB17.out.trans (g21.mono HB17.out.size)⟩
  · have e1 : ¬ (i : Int) = (j : Int) := by omega
    have e2 : ((i : Int) == (j : Int)) = false := by simpa using e1
    have HS : Hid ((L.set j x).set i v = (L.set i v).set j x) := hide (List.set_comm _ _ (fun e => hij e.symm))
    have PY3 := PY2
    rw [HS.out] at PY3
    have HL : Hid (((L.set i v).set j x).length ≤ 1000) := hide (by rw [List.length_set, List.length_set]; omega)
    clear PY2
    go_wp2_with (first | (refine wpList_val (by rfl) (exec_load_ob rfl rfl PX3.ob) ?_) | (refine wpList_val (by rfl) (exec_load_ob rfl rfl PY3.ob) ?_) | (go_at_call 16; refine (same_bare (Ob.page 5 ⟨some ⟨g2, 0, none⟩, 16, 16⟩) (Ob.page 5 ⟨some ⟨g4, 0, none⟩, 16, 16⟩) 5 2 _ (Ob.page_bare _ _) (Ob.page_bare _ _) rfl rfl rfl rfl _ PX3.nums PY3.nums HL.out).mono ?_; rintro e w20 ⟨rfl, g20⟩) | (refine wpList_val (by rfl) (exec_load_ob rfl rfl (PX3.below g20).ob) ?_) | (go_at_call 19; refine (valid_any (Ob.page 5 ⟨some ⟨g2, 0, none⟩, 16, 16⟩) _).mono ?_; rintro e w21 ⟨rfl, g21⟩; rw [decide_eq_true HP.out]) | fail)
    go_ret
    exact ⟨rfl, (HB17.out.trans (g20.mono HB17.out.size)).trans (g21.mono (HB17.out.trans (g20.mono HB17.out.size)).size)⟩
end Go.Proofs.Ytohdoleeefoiaaa
