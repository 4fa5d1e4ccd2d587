/- Layer 15: a new alarm replaces the old one (AlarmAgain): the walk. (Written by tools/mkalarm.py.) -/
import Derived.Test.YthaolmcppfjedaaAlarmAgainM
namespace Go.Proofs.Ythaolmcppfjedaa
open Go.RowKit

/-- The three ways: no alarm; it went off; it did not. -/
theorem again_ways (a n : Nat) : ∃ lf pd : Int, tkAl a n = lf ∧ tkPd 0 a n = pd ∧ tkPd pd 0 500 = pd ∧
    ((a = 0 ∧ lf = 0 ∧ pd = 0) ∨ (0 < a ∧ a ≤ n ∧ lf = 0 ∧ pd = 16384) ∨ (0 < a ∧ n < a ∧ lf = (a : Int) - n ∧ pd = 0)) := by
  have hs : sgOr 0 14 = 16384 := by decide +kernel
  refine ⟨tkAl a n, tkPd 0 a n, rfl, rfl, by unfold tkPd; rw [if_pos (.inl rfl)], ?_⟩
  unfold tkPd tkAl; rw [hs]
  repeat' split
  all_goals omega
theorem tkAl_in2 {al n : Int} (h : 0 ≤ al ∧ al ≤ 1000) (hn : 0 ≤ n) : 0 ≤ tkAl al n ∧ tkAl al n ≤ 1000 := by unfold tkAl; split <;> omega
set_option maxRecDepth 100000 in
set_option maxHeartbeats 8000000 in
theorem alarmAgain_any (a b n : Nat) (ha : a < 256) (hb : b < 256) (hn : n < 256) (W : World) : Calls Try.prog 5 #[.int .u8 (a : Int), .int .u8 (b : Int), .int .u8 (n : Int)] W (BoolPost true W) := by
  obtain ⟨lf, pd, e1, e2, e3, hway⟩ := again_ways a n
  have HE := hide (And.intro e1 (And.intro e2 e3))
  have HT : Hid (0 ≤ (a : Int) ∧ (a : Int) ≤ 255) := hide (by omega)
  have HM : Hid (0 ≤ (b : Int) ∧ (b : Int) ≤ 255) := hide (by omega)
  have HN : Hid (0 ≤ (n : Int) ∧ (n : Int) ≤ 255) := hide (by omega)
  have HW := hide hway
  clear e1 e2 e3 hway
  go_enter Try.func5, Try.ntmps5
  try dsimp only [List.append]
  go_wp2_with fail
  refine (alSane_any _).mono ?_
  rintro e w1 ⟨rfl, hb1⟩
  have HB := hide hb1
  clear hb1
  go_wp2_with (first | (refine wpList_val (by rfl) (exec_build (t := 34) (vs := [(0, .int .i64 1)]) rfl rfl (built_proc 1)) ?_) | fail)
  refine (alSet_plain (n := (a : Int)) (Plain.proc 1 0 0 0) ⟨by have := HT.out.1; omega, by have := HT.out.2; omega⟩).mono ?_
  rintro e vp ⟨xp, rfl, LP, hvp⟩
  have hLp := hide LP
  replace HB := hide (HB.out.trans (hvp.mono HB.out.size))
  clear LP hvp
  obtain ⟨p1, hwp0, pb, hmp, p2, hwp, OZp, PP, hbp2, hsp2⟩ := laid_pp xp vp
  have hWp : W.heap.size ≤ pb := by have := HB.out.size; omega
  replace HB := hide (HB.out.trans (hbp2.mono HB.out.size))
  clear hbp2
  go_wp2_with (first | (refine store_proc rfl _ _ rfl rfl (c := xp) rfl OZp rfl ?_; rw [hwp]) | (refine load_proc0 rfl _ rfl rfl PP ?_) | fail)
  clear OZp hwp hwp0 hmp hsp2
  refine (alTick_plain (n := (n : Int)) hLp.out (.inl rfl) ⟨by have := HN.out.1; omega, by have := HN.out.2; omega⟩ ⟨by have := HT.out.1; omega, by have := HT.out.2; omega⟩).mono ?_
  rintro e vu ⟨xu, rfl, LU, hvu⟩
  have hLu := hide LU
  replace HB := hide (HB.out.trans (hvu.mono HB.out.size))
  replace PP := PP.below hvu PP.lt
  clear LU hvu
  rw [HE.out.1, HE.out.2.1] at hLu
  replace HB := hide (below_row HB.out hWp (pcell xu))
  have PU := PP.row_same (pcell xu)
  obtain ⟨wu, hwu⟩ : ∃ w, vu.setRow pb (pcell xu) = w := ⟨_, rfl⟩
  rw [hwu] at PU HB
  go_wp2_with (first | (refine store_proc rfl _ _ rfl rfl (c := xu) rfl PP rfl ?_; rw [hwu]) | (refine load_proc0 rfl _ rfl rfl PU ?_) | fail)
  clear PP hwu
  refine (alSet_plain (n := (b : Int)) hLu.out ⟨by have := HM.out.1; omega, by have := HM.out.2; omega⟩).mono ?_
  rintro e vq ⟨xq, rfl, LQ, hvq⟩
  have hLq := hide LQ
  replace HB := hide (HB.out.trans (hvq.mono HB.out.size))
  replace PU := PU.below hvq PU.lt
  clear LQ hvq
  obtain ⟨q1, hwq0, qb, hmq, q2, hwq, OZq, PQ, hbq2, hsq2⟩ := laid_pp xq vq
  have hWq : W.heap.size ≤ qb := by have := HB.out.size; omega
  have nuq : pb ≠ qb := by have := PU.lt; omega
  replace HB := hide (HB.out.trans (hbq2.mono HB.out.size))
  replace PU := PU.below hbq2 PU.lt
  clear hbq2
  go_wp2_with (first | (refine store_proc rfl _ _ rfl rfl (c := xq) rfl OZq rfl ?_; rw [hwq]) | (refine load_proc0 rfl _ rfl rfl PQ ?_) | fail)
  clear OZq hwq hwq0 hmq hsq2
  refine (alSet_plain (n := 0) hLq.out (by decide)).mono ?_
  rintro e vr ⟨xr, rfl, LR, hvr⟩
  have hLr := hide LR
  replace HB := hide (HB.out.trans (hvr.mono HB.out.size))
  replace PU := PU.below hvr PU.lt
  clear LR hvr
  obtain ⟨r1, hwr0, rb, hmr, r2, hwr, OZr, PR, hbr2, hsr2⟩ := laid_pp xr vr
  have hWr : W.heap.size ≤ rb := by have := HB.out.size; omega
  have nur : pb ≠ rb := by have := PU.lt; omega
  replace HB := hide (HB.out.trans (hbr2.mono HB.out.size))
  replace PU := PU.below hbr2 PU.lt
  clear hbr2
  go_wp2_with (first | (refine store_proc rfl _ _ rfl rfl (c := xr) rfl OZr rfl ?_; rw [hwr]) | (refine load_proc0 rfl _ rfl rfl PR ?_) | fail)
  clear OZr hwr hwr0 hmr hsr2
  refine (alTick_plain (n := 500) hLr.out (.inl rfl) (by decide) (by decide)).mono ?_
  rintro e vx ⟨xx, rfl, LX, hvx⟩
  have hLx := hide LX
  replace HB := hide (HB.out.trans (hvx.mono HB.out.size))
  replace PU := PU.below hvx PU.lt
  clear LX hvx
  obtain ⟨x1, hwx0, xb, hmx, x2, hwx, OZx, PX, hbx2, hsx2⟩ := laid_pp xx vx
  have hWx : W.heap.size ≤ xb := by have := HB.out.size; omega
  have nux : pb ≠ xb := by have := PU.lt; omega
  replace HB := hide (HB.out.trans (hbx2.mono HB.out.size))
  replace PU := PU.below hbx2 PU.lt
  clear hbx2
  rw [HE.out.2.2] at hLx
  obtain ⟨_, ka, _, _⟩ := hLu.out.cells PU
  obtain ⟨_, la, _, _⟩ := hLx.out.cells PX
  go_upto_region 8 with (first | (refine store_proc rfl _ _ rfl rfl (c := xx) rfl OZx rfl ?_; rw [hwx]) | fail)
  clear OZx hwx hwx0 hmx hsx2
  rcases HW.out with ⟨rfl, rfl, rfl⟩ | ⟨h1, h2, rfl, rfl⟩ | ⟨h1, h2, rfl, rfl⟩
  · skip
    clear HW HE hLp hLu hLq hLr hLx PX PU
    go_wp2_with fail
    go_ret
    exact ⟨by simp <;> (simp at g2; omega), HB.out⟩
  · skip
    have g1 : 0 < (a : Int) := by omega
    have g2 : decide ((a : Int) ≤ (n : Int)) = true := decide_eq_true (by omega)
    have g3 : (a : Int) - (n : Int) ≤ 0 := by omega
    clear h1 h2
    clear HW HE hLp hLu hLq hLr hLx PX PU
    go_wp2_with fail
    go_ret
    exact ⟨by simp <;> (simp at g2; omega), HB.out⟩
  · skip
    have g1 : 0 < (a : Int) := by omega
    have g2 : decide ((a : Int) ≤ (n : Int)) = false := decide_eq_false (by omega)
    have g3 : 0 < (a : Int) - (n : Int) := by omega
    clear h1 h2
    clear HW HE hLp hLu hLq hLr hLx PX PU
    go_wp2_with fail
    go_ret
    exact ⟨by simp <;> (simp at g2; omega), HB.out⟩
end Go.Proofs.Ythaolmcppfjedaa
