/- Layer 8: a byte that was written is read again (FileKeeps): the walk. -/
import Derived.Test.YtcgiobffobonpaaFlLaw
import Derived.Test.YtcgiobffobonpaaObKinds
namespace Go.Proofs.Ytcgiobffobonpaa
open Go.RowKit

set_option maxRecDepth 100000 in
set_option maxHeartbeats 8000000 in
theorem fileKeeps_any (S : Option Addr) (q r : Nat) (l : List UInt8) (a b : Nat) (x : UInt8) (ha : a < 256) (hb : b < 256) (W : World) (h : Bytes W W.heap.size S q l) (hq : q ≤ r ∧ r ≤ 9223372036854775807) :
    Calls Try.prog 4 #[.slice S q r, .int .u8 a, .int .u8 b, .int .u8 (x.toNat : Int)] W (BoolPost true W) := by
  have HS := hide h
  clear h
  go_enter Try.func4, Try.ntmps4
  try dsimp only [List.append]
  go_wp2_with fail
  refine (flSane_any _).mono ?_
  rintro e w1 ⟨rfl, hb1⟩
  have HS1 := hide (HS.out.belowLe hb1 (Nat.le_refl _))
  have HB1 := hide hb1
  have hW1 := hb1.size
  clear hb1 HS
  go_wp2_with fail
  refine (new_dice W.heap.size S q r l _ HS1.out hW1 hq).mono ?_
  rintro e w2 ⟨rfl, hD, hb2, hs2⟩
  have HB2 := hide (HB1.out.trans (hb2.mono hW1))
  have HD2 := hide hD
  obtain ⟨d, hd⟩ : ∃ d, w1.heap.size = d := ⟨_, rfl⟩
  have hdW : W.heap.size ≤ d := by omega
  rw [hd] at HD2 ⊢
  clear hb2 HS1 HB1 hD hW1 hs2 hd
  go_wp2_with fail
  refine (file_thrown d d 5 _ HD2.out).mono ?_
  rintro e w3 ⟨A0, n0, c0, D0, rfl, hn0, hown, _, hB⟩
  have hb3 : Below W.heap.size W w3 := HB2.out.trans (hB.below HB2.out.size hdW)
  obtain ⟨w4, hw4, m0, hm0, w5, hw5, OZ, OM, hb5, hs5⟩ := laid_ob (Ob.file 5 ⟨A0, n0, c0⟩) w3
  have P : FlAt w5 m0 5 A0 n0 c0 D0 := ⟨OM, ((Bytes.of_own hown).below hb5).mono hb5.size⟩
  have hl0 : D0.length = n0 := own_bytes hown
  have HB5 := hide (hb3.trans (hb5.mono hb3.size))
  clear hb3 hb5 OM hown hB HB2 HD2
  go_wp2_with (first | (refine store_ob rfl _ _ rfl rfl (c := Ob.file 5 ⟨A0, n0, c0⟩) rfl OZ rfl ?_; rw [hw5]) | (refine load_ob rfl _ rfl rfl P.ob ?_) | fail)
  refine (flWrite_ok (Ob.file 5 ⟨A0, n0, c0⟩) D0 a x _ (file_write (by decide) (show n0 ≤ 4096 by omega) (by omega)) P.data).mono ?_
  rintro e w6 ⟨A1, n1, c1, rfl, hD1, hb6⟩
  obtain ⟨w7, hw7, m1, hm1, w8, hw8, OZ1, OM1, hb8, hs8⟩ := laid_ob (Ob.file 5 ⟨A1, n1, c1⟩) w6
  have PX : FlAt w8 m1 5 A1 n1 c1 (Fl.put D0 a x) := ⟨OM1, (hD1.below hb8).mono hb8.size⟩
  replace P := P.below (hb6.trans (hb8.mono hb6.size))
  have hl1 : (Fl.put D0 a x).length = n1 := hD1.len
  replace HB5 := hide (HB5.out.trans ((hb6.trans (hb8.mono hb6.size)).mono HB5.out.size))
  have hn1 : n1 = max n0 (a + 1) := by rw [← hl1, Fl.put_length, hl0]
  have hn1' : n1 ≤ 4096 := by omega
  have HN1 := hide hn1
  obtain ⟨y, hy⟩ : ∃ y, D0.getD b 0 = y := ⟨_, rfl⟩
  have HY := hide hy
  have HL1 := hide hl1
  have HL0 := hide hl0
  clear hb6 hb8 OM1 hD1 hy hn1 hl1 hl0 OZ hw5 hw4 hm0 hs5
  go_wp2_with (first | (refine store_ob rfl _ _ rfl rfl (c := Ob.file 5 ⟨A1, n1, c1⟩) rfl OZ1 rfl ?_; rw [hw8]) | (refine load_ob rfl _ rfl rfl PX.ob ?_) | fail)
  refine (flRead_any (Ob.file 5 ⟨A1, n1, c1⟩) _ (a : Int) _ PX.data).mono ?_
  rintro e w9 ⟨rfl, hb9⟩
  obtain ⟨r1, r2, r3⟩ := file_read (id := 5) (s := ⟨A1, n1, c1⟩) (by decide) hn1' (Fl.put D0 a x) a
  rw [r1, r2, r3, Fl.getD_put, if_pos rfl, decide_eq_true (by rw [HL1.out, HN1.out]; omega)]
  replace P := P.below hb9
  replace PX := PX.below hb9
  replace HB5 := hide (HB5.out.trans (hb9.mono HB5.out.size))
  clear hb9 OZ1 hw8 hw7 hm1 hs8 r1 r2 r3
  go_wp2_with (first | (refine load_ob rfl _ rfl rfl P.ob ?_) | fail)
  refine (flRead_any (Ob.file 5 ⟨A0, n0, c0⟩) _ (b : Int) _ P.data).mono ?_
  rintro e w10 ⟨rfl, hb10⟩
  obtain ⟨r1, r2, r3⟩ := file_read (id := 5) (s := ⟨A0, n0, c0⟩) (by decide) (show n0 ≤ 4096 by omega) D0 b
  rw [r1, r2, r3, HL0.out, HY.out]
  replace P := P.below hb10
  replace PX := PX.below hb10
  replace HB5 := hide (HB5.out.trans (hb10.mono HB5.out.size))
  clear hb10 r1 r2 r3
  go_wp2_with (first | (refine load_ob rfl _ rfl rfl PX.ob ?_) | fail)
  refine (flRead_any (Ob.file 5 ⟨A1, n1, c1⟩) _ (b : Int) _ PX.data).mono ?_
  rintro e w11 ⟨rfl, hb11⟩
  obtain ⟨r1, r2, r3⟩ := file_read (id := 5) (s := ⟨A1, n1, c1⟩) (by decide) hn1' (Fl.put D0 a x) b
  rw [r1, r2, r3, Fl.getD_put, HL1.out, HY.out]
  replace P := P.below hb11
  replace PX := PX.below hb11
  replace HB5 := hide (HB5.out.trans (hb11.mono HB5.out.size))
  have k0 : w11.cell? ⟨m0, 24, none⟩ = some (.slice A0 n0 c0) := P.ob.cell 24
  have k1 : w11.cell? ⟨m1, 24, none⟩ = some (.slice A1 n1 c1) := PX.ob.cell 24
  have hz : b ≥ n0 → (D0.getD b 0) = 0 := fun h => by rw [List.getD_eq_getElem?_getD, List.getElem?_eq_none (by rw [HL0.out]; omega)]; rfl
  rw [HY.out] at hz
  have HZ := hide hz
  clear hb11 PX P HY hz r1 r2 r3 HL0 HL1
  have e24 : (n1 : Int) = max (n0 : Int) ((a : Int) + 1) := by rw [HN1.out]; omega
  have hn1x : n1 = max n0 (a + 1) := HN1.out
  by_cases hab : b = a
  · subst hab
    rw [if_pos rfl, decide_eq_true (show b < n1 by omega)]
    go_wp2_with fail
    all_goals (go_ret; exact ⟨rfl, HB5.out⟩)
  · have e1 : ¬ (a : Int) = (b : Int) := by omega
    have e2 : ((a : Int) == (b : Int)) = false := by simpa using e1
    rw [if_neg hab]
    by_cases h1 : b < n0
    · rw [decide_eq_true h1, decide_eq_true (show b < n1 by omega)]
      clear hn1x h1 hab HZ
      go_wp2_with fail
      all_goals (go_ret; exact ⟨rfl, HB5.out⟩)
    · have hy0 : y = 0 := HZ.out (by omega)
      subst hy0
      by_cases h2 : b < a
      · have e3 : (b : Int) < (a : Int) := by omega
        rw [decide_eq_false h1, decide_eq_true (show b < n1 by omega)]
        clear hn1x h1 h2 hab HZ
        go_wp2_with fail
        all_goals (go_ret; exact ⟨rfl, HB5.out⟩)
      · have e3 : ¬ (b : Int) < (a : Int) := by omega
        have e4 : (a : Int) < (b : Int) := by omega
        rw [decide_eq_false h1, decide_eq_false (show ¬ b < n1 by omega)]
        clear hn1x h1 h2 hab HZ
        go_wp2_with fail
        all_goals (go_ret; exact ⟨rfl, HB5.out⟩)
end Go.Proofs.Ytcgiobffobonpaa
