/- Layer 6: a word that was set is got again, and no other changes (PageKeeps): the walk. -/
import Derived.Test.YtohdoleeefoiaaaPgLaw
namespace Go.Proofs.Ytohdoleeefoiaaa
open Go.RowKit

set_option maxRecDepth 100000 in
set_option maxHeartbeats 8000000 in
theorem pageKeeps_any (S : Option Addr) (q r : Nat) (l : List UInt8) (a b : Nat) (v x : Int) (ha : a < 256) (hb : b < 256) (W : World) (h : Bytes W W.heap.size S q l) (hq : q ≤ r ∧ r ≤ 9223372036854775807) :
    Calls Try.prog 4 #[.slice S q r, .int .u8 a, .int .u8 b, .int .i64 v, .int .i64 x] W (BoolPost true W) := by
  have HS := hide h
  clear h
  have ma : ((a : Int)) % 16 = ((a % 16 : Nat) : Int) := by omega
  have ma2 : ((a : Int)).tmod 16 = ((a % 16 : Nat) : Int) := by rw [Int.tmod_eq_emod_of_nonneg (by omega)]; exact ma
  have mb : ((b : Int)) % 16 = ((b % 16 : Nat) : Int) := by omega
  have mb2 : ((b : Int)).tmod 16 = ((b % 16 : Nat) : Int) := by rw [Int.tmod_eq_emod_of_nonneg (by omega)]; exact mb
  obtain ⟨i, hi⟩ : ∃ i, a % 16 = i := ⟨_, rfl⟩
  obtain ⟨j, hj⟩ : ∃ j, b % 16 = j := ⟨_, rfl⟩
  have hi16 : i < 16 := by omega
  have hj16 : j < 16 := by omega
  rw [hi] at ma ma2
  rw [hj] at mb mb2
  clear hi hj
  go_enter Try.func4, Try.ntmps4
  go_wp2_with fail
  refine (sane_any _).mono ?_
  rintro e w1 ⟨rfl, hb1⟩
  have HS1 := hide (HS.out.belowLe hb1 (Nat.le_refl _))
  have HB1 := hide hb1
  have hW1 := hb1.size
  clear hb1 HS
  go_wp2_with fail
  refine (new_dice W.heap.size S q r l _ HS1.out hW1 hq).mono ?_
  rintro e w2 ⟨rfl, hD, hb2, hs2⟩
  have HB2 := hide (HB1.out.trans (hb2.mono hW1))
  have HD2 := hide hD
  obtain ⟨d, hd⟩ : ∃ d, w1.heap.size = d := ⟨_, rfl⟩
  have hdW : W.heap.size ≤ d := by omega
  rw [hd] at HD2 ⊢
  clear hb2 HS1 HB1 hD hW1 hs2 hd
  go_wp2_with fail
  refine (page_dice d d 5 _ HD2.out).mono ?_
  rintro e w3 ⟨g0, L, rfl, OG, hlen, hg0, _, hB⟩
  have hb3 : Below W.heap.size W w3 := HB2.out.trans (hB.below HB2.out.size hdW)
  obtain ⟨w4, hw4, m0, hm0, w5, hw5, OZ, P, hb5⟩ := laid (id := 5) OG hlen hb3
  have HB5 := hide hb5
  clear hb3 hb5 OG hg0 hB HB2 HD2
  go_wp2_with (first | (refine store_ob rfl _ _ rfl rfl (c := Ob.page 5 ⟨some ⟨g0, 0, none⟩, 16, 16⟩) rfl OZ rfl ?_; rw [hw5]) | (refine load_ob rfl _ rfl rfl P.ob ?_) | fail)
  refine (get_any _ L (j : Int) _ P.words).mono ?_
  rintro e w6 ⟨rfl, hb6⟩
  rw [page_get (by decide) g0 L hj16, page_check (by decide) g0 hj16]
  obtain ⟨old, hold⟩ : ∃ old, L.getD j 0 = old := ⟨_, rfl⟩
  have HO := hide hold
  rw [hold]
  replace P := P.below hb6
  replace HB5 := hide (HB5.out.trans (hb6.mono HB5.out.size))
  clear hb6 OZ hw5 hw4 hm0 hold
  go_wp2_with (first | (refine load_ob rfl _ rfl rfl P.ob ?_) | fail)
  refine (set_ok _ L (i : Int) v _ (page_check (by decide) g0 hi16) P.words).mono ?_
  rintro e w7 ⟨g1, rfl, OG, hg1, hb7⟩
  rw [Int.toNat_natCast] at OG
  obtain ⟨w8, hw8, m1, hm1, w9, hw9, OZ, PX, hb9⟩ := laid (id := 5) OG (by rw [List.length_set]; exact hlen) hb7
  replace P := P.below hb9
  replace HB5 := hide (HB5.out.trans (hb9.mono HB5.out.size))
  clear hb7 hb9 OG hg1
  go_wp2_with (first | (refine store_ob rfl _ _ rfl rfl (c := Ob.page 5 ⟨some ⟨g1, 0, none⟩, 16, 16⟩) rfl OZ rfl ?_; rw [hw9]) | (refine load_ob rfl _ rfl rfl PX.ob ?_) | fail)
  refine (copy_ok _ (L.set i v) 6 _ (Ob.page_page (by decide) rfl) (by decide) PX.words).mono ?_
  rintro e w10 ⟨g2, rfl, OG, hg2, hb10⟩
  obtain ⟨w11, hw11, m2, hm2, w12, hw12, OZ2, PC, hb12⟩ := laid (id := 6) OG (by rw [List.length_set]; exact hlen) hb10
  replace P := P.below hb12
  replace PX := PX.below hb12
  replace HB5 := hide (HB5.out.trans (hb12.mono HB5.out.size))
  clear hb10 hb12 OG hg2 OZ hw9 hw8 hm1
  go_wp2_with (first | (refine store_ob rfl _ _ rfl rfl (c := Ob.page 6 ⟨some ⟨g2, 0, none⟩, 16, 16⟩) rfl OZ2 rfl ?_; rw [hw12]) | (refine load_ob rfl _ rfl rfl PX.ob ?_) | fail)
  refine (set_ok _ (L.set i v) (j : Int) x _ (page_check (by decide) g1 hj16) PX.words).mono ?_
  rintro e w13 ⟨g3, rfl, OG, hg3, hb13⟩
  rw [Int.toNat_natCast] at OG
  obtain ⟨w14, hw14, m3, hm3, w15, hw15, OZ3, PY, hb15⟩ := laid (id := 5) OG (by rw [List.length_set, List.length_set]; exact hlen) hb13
  replace P := P.below hb15
  replace PX := PX.below hb15
  replace PC := PC.below hb15
  replace HB5 := hide (HB5.out.trans (hb15.mono HB5.out.size))
  clear hb13 hb15 OG hg3 OZ2 hw12 hw11 hm2
  go_wp2_with (first | (refine store_ob rfl _ _ rfl rfl (c := Ob.page 5 ⟨some ⟨g3, 0, none⟩, 16, 16⟩) rfl OZ3 rfl ?_; rw [hw15]) | (refine load_ob rfl _ rfl rfl PX.ob ?_) | fail)
  refine (get_any _ (L.set i v) (i : Int) _ PX.words).mono ?_
  rintro e w16 ⟨rfl, hb16⟩
  rw [page_get (by decide) g1 _ hi16, page_check (by decide) g1 hi16, getD_set (by omega)]
  replace P := P.below hb16
  replace PX := PX.below hb16
  replace PC := PC.below hb16
  replace PY := PY.below hb16
  replace HB5 := hide (HB5.out.trans (hb16.mono HB5.out.size))
  clear hb16 OZ3 hw15 hw14 hm3
  go_wp2_with (first | (refine load_ob rfl _ rfl rfl PY.ob ?_) | fail)
  refine (get_any _ ((L.set i v).set j x) (j : Int) _ PY.words).mono ?_
  rintro e w17 ⟨rfl, hb17⟩
  rw [page_get (by decide) g3 _ hj16, page_check (by decide) g3 hj16, getD_set (by rw [List.length_set]; omega)]
  replace P := P.below hb17
  replace PX := PX.below hb17
  replace PC := PC.below hb17
  replace PY := PY.below hb17
  replace HB5 := hide (HB5.out.trans (hb17.mono HB5.out.size))
  clear hb17
  go_wp2_with (first | (refine load_ob rfl _ rfl rfl P.ob ?_) | fail)
  refine (get_any _ L (j : Int) _ P.words).mono ?_
  rintro e w18 ⟨rfl, hb18⟩
  rw [page_get (by decide) g0 _ hj16, page_check (by decide) g0 hj16, HO.out]
  replace PX := PX.below hb18
  replace PC := PC.below hb18
  replace PY := PY.below hb18
  replace HB5 := hide (HB5.out.trans (hb18.mono HB5.out.size))
  clear hb18 P
  go_wp2_with (first | (refine load_ob rfl _ rfl rfl PC.ob ?_) | fail)
  refine (get_any _ (L.set i v) (i : Int) _ PC.words).mono ?_
  rintro e w19 ⟨rfl, hb19⟩
  rw [page_get (by decide) g2 _ hi16, page_check (by decide) g2 hi16, getD_set (by omega)]
  replace PX := PX.below hb19
  replace PC := PC.below hb19
  replace PY := PY.below hb19
  replace HB5 := hide (HB5.out.trans (hb19.mono HB5.out.size))
  clear hb19
  go_wp2_with (first | (refine load_ob rfl _ rfl rfl PY.ob ?_) | fail)
  refine (get_any _ ((L.set i v).set j x) (i : Int) _ PY.words).mono ?_
  rintro e w20 ⟨rfl, hb20⟩
  rw [page_get (by decide) g3 _ hi16, page_check (by decide) g3 hi16]
  replace PX := PX.below hb20
  replace PC := PC.below hb20
  replace HB5 := hide (HB5.out.trans (hb20.mono HB5.out.size))
  have k1 : w20.cell? ⟨m1, 0, none⟩ = some (.int .u64 5) := PX.ob.cell 0
  have k2 : w20.cell? ⟨m2, 0, none⟩ = some (.int .u64 6) := PC.ob.cell 0
  clear hb20 PX PC PY HO
  by_cases hij : i = j
  · subst hij
    rw [getD_set (by rw [List.length_set]; omega)]
    go_wp2_with fail
    go_ret
    exact ⟨rfl, HB5.out⟩
  · rw [getD_set_ne (fun e => hij e.symm), getD_set (by omega)]
    have e1 : ¬ (i : Int) = (j : Int) := by omega
    have e2 : ((i : Int) == (j : Int)) = false := by simpa using e1
    go_wp2_with fail
    go_ret
    exact ⟨rfl, HB5.out⟩
end Go.Proofs.Ytohdoleeefoiaaa
