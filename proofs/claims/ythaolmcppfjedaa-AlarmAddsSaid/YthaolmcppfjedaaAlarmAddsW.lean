/- Layer 15: ticks add up, an alarm goes off once (AlarmAdds): the walk. (Written by tools/mkalarm.py.) -/
import Derived.Test.YthaolmcppfjedaaAlarmAddsM
namespace Go.Proofs.Ythaolmcppfjedaa
open Go.RowKit

/-- The three ways: no alarm; it went off; it did not. -/
theorem adds_ways (t m n : Nat) (ht : t < 256) (hm : m < 256) (hn : n < 256) : ∃ ay py pz : Int,
    tkAl (tkAl t m) n = ay ∧ tkAl t ((m : Int) + n) = ay ∧ tkPd 0 t ((m : Int) + n) = py ∧ tkPd 0 ay 1000 = pz ∧
    ((t = 0 ∧ ay = 0 ∧ py = 0 ∧ pz = 0) ∨ (0 < t ∧ t ≤ m + n ∧ ay = 0 ∧ py = 16384 ∧ pz = 0) ∨ (0 < t ∧ m + n < t ∧ 0 < ay ∧ py = 0 ∧ pz = 16384)) := by
  have hs : sgOr 0 14 = 16384 := by decide +kernel
  refine ⟨tkAl t ((m : Int) + n), tkPd 0 t ((m : Int) + n), tkPd 0 (tkAl t ((m : Int) + n)) 1000, ?_, rfl, rfl, rfl, ?_⟩
  · unfold tkAl; repeat' split
    all_goals omega
  · unfold tkPd; rw [hs]; unfold tkAl
    repeat' split
    all_goals omega
theorem tkAl_in {al n : Int} (h : 0 ≤ al ∧ al ≤ 1000) (hn : 0 ≤ n) : 0 ≤ tkAl al n ∧ tkAl al n ≤ 1000 := by unfold tkAl; split <;> omega
set_option maxRecDepth 100000 in
set_option maxHeartbeats 8000000 in
theorem alarmAdds_any (t m n : Nat) (ht : t < 256) (hm : m < 256) (hn : n < 256) (W : World) : Calls Try.prog 4 #[.int .u8 (t : Int), .int .u8 (m : Int), .int .u8 (n : Int)] W (BoolPost true W) := by
  obtain ⟨ay, py, pz, e1, e2, e3, e4, hway⟩ := adds_ways t m n ht hm hn
  have HE := hide (And.intro e1 (And.intro e2 (And.intro e3 e4)))
  have HT : Hid (0 ≤ (t : Int) ∧ (t : Int) ≤ 255) := hide (by omega)
  have HM : Hid (0 ≤ (m : Int) ∧ (m : Int) ≤ 255) := hide (by omega)
  have HN : Hid (0 ≤ (n : Int) ∧ (n : Int) ≤ 255) := hide (by omega)
  have HA1 := hide (tkAl_in (al := t) (n := m) ⟨by omega, by omega⟩ (by omega))
  have HAY : Hid (0 ≤ ay ∧ ay ≤ 1000) := hide (by rw [← e2]; exact tkAl_in ⟨by omega, by omega⟩ (by omega))
  have HW := hide hway
  clear e1 e2 e3 e4 hway
  go_enter Try.func4, Try.ntmps4
  try dsimp only [List.append]
  go_wp2_with fail
  refine (alSane_any _).mono ?_
  rintro e w1 ⟨rfl, hb1⟩
  have HB := hide hb1
  clear hb1
  go_wp2_with (first | (refine wpList_val (by rfl) (exec_build (t := 34) (vs := [(0, .int .i64 1)]) rfl rfl (built_proc 1)) ?_) | fail)
  refine (alSet_plain (n := (t : Int)) (Plain.proc 1 0 0 0) ⟨by have := HT.out.1; omega, by have := HT.out.2; omega⟩).mono ?_
  rintro e vp ⟨xp, rfl, LP, hvp⟩
  have hLp := hide LP
  replace HB := hide (HB.out.trans (hvp.mono HB.out.size))
  clear LP hvp
  obtain ⟨p1, hwp0, pb, hmp, p2, hwp, OZp, PP, hbp2, hsp2⟩ := laid_pp xp vp
  have hWp : W.heap.size ≤ pb := by have := HB.out.size; omega
  replace HB := hide (HB.out.trans (hbp2.mono HB.out.size))
  clear hbp2
  go_wp2_with (first | (refine store_proc rfl _ _ rfl rfl (c := xp) rfl OZp rfl ?_; rw [hwp]) | (refine load_proc0 rfl _ rfl rfl PP ?_) | fail)
  clear OZp hwp hwp0 hmp hsp2
  refine (alTick_plain (n := (m : Int)) hLp.out (.inl rfl) ⟨by have := HM.out.1; omega, by have := HM.out.2; omega⟩ ⟨by have := HT.out.1; omega, by have := HT.out.2; omega⟩).mono ?_
  rintro e vx ⟨xx, rfl, LX, hvx⟩
  have hLx := hide LX
  replace HB := hide (HB.out.trans (hvx.mono HB.out.size))
  replace PP := PP.below hvx PP.lt
  clear LX hvx
  obtain ⟨x1, hwx0, xb, hmx, x2, hwx, OZx, PX, hbx2, hsx2⟩ := laid_pp xx vx
  have hWx : W.heap.size ≤ xb := by have := HB.out.size; omega
  have npx : pb ≠ xb := by have := PP.lt; omega
  replace HB := hide (HB.out.trans (hbx2.mono HB.out.size))
  replace PP := PP.below hbx2 PP.lt
  clear hbx2
  go_wp2_with (first | (refine store_proc rfl _ _ rfl rfl (c := xx) rfl OZx rfl ?_; rw [hwx]) | (refine load_proc0 rfl _ rfl rfl PX ?_) | fail)
  clear OZx hwx hwx0 hmx hsx2
  refine (alTick_plain (n := (n : Int)) hLx.out (.inl rfl) ⟨by have := HN.out.1; omega, by have := HN.out.2; omega⟩ ⟨by have := HA1.out.1; omega, by have := HA1.out.2; omega⟩).mono ?_
  rintro e vu ⟨xu, rfl, LU, hvu⟩
  have hLu := hide LU
  replace HB := hide (HB.out.trans (hvu.mono HB.out.size))
  replace PP := PP.below hvu PP.lt
  replace PX := PX.below hvu PX.lt
  clear LU hvu
  rw [HE.out.1] at hLu
  replace PP := PP.row_other npx (pcell xu)
  replace HB := hide (below_row HB.out hWx (pcell xu))
  have PU := PX.row_same (pcell xu)
  obtain ⟨wu, hwu⟩ : ∃ w, vu.setRow xb (pcell xu) = w := ⟨_, rfl⟩
  rw [hwu] at PP PU HB
  go_wp2_with (first | (refine store_proc rfl _ _ rfl rfl (c := xu) rfl PX rfl ?_; rw [hwu]) | (refine load_proc0 rfl _ rfl rfl PP ?_) | fail)
  clear PX hwu
  refine (alTick_plain (n := (m : Int) + (n : Int)) hLp.out (.inl rfl) ⟨by have := HM.out.1; have := HN.out.1; omega, by have := HM.out.2; have := HN.out.2; omega⟩ ⟨by have := HT.out.1; omega, by have := HT.out.2; omega⟩).mono ?_
  rintro e vy ⟨xy, rfl, LY, hvy⟩
  have hLy := hide LY
  replace HB := hide (HB.out.trans (hvy.mono HB.out.size))
  replace PP := PP.below hvy PP.lt
  replace PU := PU.below hvy PU.lt
  clear LY hvy
  obtain ⟨y1, hwy0, yb, hmy, y2, hwy, OZy, PY, hby2, hsy2⟩ := laid_pp xy vy
  have hWy : W.heap.size ≤ yb := by have := HB.out.size; omega
  have npy : pb ≠ yb := by have := PP.lt; omega
  have nuy : xb ≠ yb := by have := PU.lt; omega
  replace HB := hide (HB.out.trans (hby2.mono HB.out.size))
  replace PP := PP.below hby2 PP.lt
  replace PU := PU.below hby2 PU.lt
  clear hby2
  rw [HE.out.2.1, HE.out.2.2.1] at hLy
  have cu : y2.cell? ⟨xb, 17, none⟩ = some (.int .i64 xu.pending) := PU.cell 17
  have zu := PU.free 17
  obtain ⟨xq, hxq⟩ : ∃ x, ({ xu with pending := 0 } : Ob) = x := ⟨_, rfl⟩
  have PQ : Obl (y2.setCell ⟨xb, 17, none⟩ (.int .i64 0)) xb 34 (pcell xq) := by
    have h := PU.put 17 (.int .i64 0); rw [← hxq]; simpa [pcell, pcs] using h
  have hLq : Hid (Plain xq (Ob.proc 1 0 ay 0)) := hide (by rw [← hxq]; exact ⟨⟨hLu.out.like.1, hLu.out.like.2, hLu.out.like.3, hLu.out.like.4, rfl, hLu.out.like.6, hLu.out.like.7⟩, hLu.out.n1, hLu.out.n2, hLu.out.n3, hLu.out.n4, hLu.out.n5⟩)
  have PY2 := PY.put_other (b' := xb) (Ne.symm nuy) 17 (.int .i64 0)
  replace HB := hide (HB.out.setCell (p := ⟨xb, 17, none⟩) hWx (.int .i64 0))
  obtain ⟨y3, hy3⟩ : ∃ w, y2.setCell ⟨xb, 17, none⟩ (.int .i64 0) = w := ⟨_, rfl⟩
  rw [hy3] at PQ PY2 HB
  clear hxq
  go_upto_region 7 with (first | (refine store_proc rfl _ _ rfl rfl (c := xy) rfl OZy rfl ?_; rw [hwy]) | fail)
  clear OZy hwy hwy0 hmy hsy2
  rcases HW.out with ⟨rfl, rfl, rfl, rfl⟩ | ⟨h1, h2, rfl, rfl, rfl⟩ | ⟨h1, h2, h3, rfl, rfl⟩
  · skip
    clear HW
    go_wp2_with (first | (refine load_proc0 rfl _ rfl rfl PQ ?_) | fail)
    refine (alTick_plain (n := 1000) hLq.out (.inl rfl) (by decide) ⟨by have := HAY.out.1; omega, by have := HAY.out.2; omega⟩).mono ?_
    rintro e vz ⟨xz, rfl, LZ, hvz⟩
    have hLz := hide LZ
    replace HB := hide (HB.out.trans (hvz.mono HB.out.size))
    replace PQ := PQ.below hvz PQ.lt
    replace PY2 := PY2.below hvz PY2.lt
    clear LZ hvz
    obtain ⟨z1, hwz0, zb, hmz, z2, hwz, OZz, PZ, hbz2, hsz2⟩ := laid_pp xz vz
    have hWz : W.heap.size ≤ zb := by have := HB.out.size; omega
    have nqz : xb ≠ zb := by have := PQ.lt; omega
    have ny2z : yb ≠ zb := by have := PY2.lt; omega
    replace HB := hide (HB.out.trans (hbz2.mono HB.out.size))
    replace PQ := PQ.below hbz2 PQ.lt
    replace PY2 := PY2.below hbz2 PY2.lt
    clear hbz2
    rw [HE.out.2.2.2] at hLz
    obtain ⟨_, ka, kb, _⟩ := hLq.out.cells PQ
    obtain ⟨_, la, lb, _⟩ := hLy.out.cells PY2
    obtain ⟨_, ma, mb, _⟩ := hLz.out.cells PZ
    clear PY PU cu zu HE hy3 hLp hLx hLu
    go_wp2_with (first | (refine store_proc rfl _ _ rfl rfl (c := xz) rfl OZz rfl ?_; rw [hwz]) | fail)
    clear OZz hwz hwz0 hmz hsz2
    go_ret
    exact ⟨by simp, HB.out⟩
  · skip
    have g1 : 0 < (t : Int) := by omega
    have g2 : decide ((t : Int) ≤ (m : Int) + (n : Int)) = true := decide_eq_true (by omega)
    clear h1 h2
    clear HW
    go_wp2_with (first | (refine load_proc0 rfl _ rfl rfl PQ ?_) | fail)
    refine (alTick_plain (n := 1000) hLq.out (.inl rfl) (by decide) ⟨by have := HAY.out.1; omega, by have := HAY.out.2; omega⟩).mono ?_
    rintro e vz ⟨xz, rfl, LZ, hvz⟩
    have hLz := hide LZ
    replace HB := hide (HB.out.trans (hvz.mono HB.out.size))
    replace PQ := PQ.below hvz PQ.lt
    replace PY2 := PY2.below hvz PY2.lt
    clear LZ hvz
    obtain ⟨z1, hwz0, zb, hmz, z2, hwz, OZz, PZ, hbz2, hsz2⟩ := laid_pp xz vz
    have hWz : W.heap.size ≤ zb := by have := HB.out.size; omega
    have nqz : xb ≠ zb := by have := PQ.lt; omega
    have ny2z : yb ≠ zb := by have := PY2.lt; omega
    replace HB := hide (HB.out.trans (hbz2.mono HB.out.size))
    replace PQ := PQ.below hbz2 PQ.lt
    replace PY2 := PY2.below hbz2 PY2.lt
    clear hbz2
    rw [HE.out.2.2.2] at hLz
    obtain ⟨_, ka, kb, _⟩ := hLq.out.cells PQ
    obtain ⟨_, la, lb, _⟩ := hLy.out.cells PY2
    obtain ⟨_, ma, mb, _⟩ := hLz.out.cells PZ
    clear PY PU cu zu HE hy3 hLp hLx hLu
    go_wp2_with (first | (refine store_proc rfl _ _ rfl rfl (c := xz) rfl OZz rfl ?_; rw [hwz]) | fail)
    clear OZz hwz hwz0 hmz hsz2
    go_ret
    exact ⟨by simp, HB.out⟩
  · skip
    have g1 : 0 < (t : Int) := by omega
    have g2 : decide ((t : Int) ≤ (m : Int) + (n : Int)) = false := decide_eq_false (by omega)
    have g3 : (ay == 0) = false := by simp; omega
    have g4 : ((t : Int) == 0) = false := by simp; omega
    clear h1 h2 h3
    clear HW
    go_wp2_with (first | (refine load_proc0 rfl _ rfl rfl PQ ?_) | fail)
    refine (alTick_plain (n := 1000) hLq.out (.inl rfl) (by decide) ⟨by have := HAY.out.1; omega, by have := HAY.out.2; omega⟩).mono ?_
    rintro e vz ⟨xz, rfl, LZ, hvz⟩
    have hLz := hide LZ
    replace HB := hide (HB.out.trans (hvz.mono HB.out.size))
    replace PQ := PQ.below hvz PQ.lt
    replace PY2 := PY2.below hvz PY2.lt
    clear LZ hvz
    obtain ⟨z1, hwz0, zb, hmz, z2, hwz, OZz, PZ, hbz2, hsz2⟩ := laid_pp xz vz
    have hWz : W.heap.size ≤ zb := by have := HB.out.size; omega
    have nqz : xb ≠ zb := by have := PQ.lt; omega
    have ny2z : yb ≠ zb := by have := PY2.lt; omega
    replace HB := hide (HB.out.trans (hbz2.mono HB.out.size))
    replace PQ := PQ.below hbz2 PQ.lt
    replace PY2 := PY2.below hbz2 PY2.lt
    clear hbz2
    rw [HE.out.2.2.2] at hLz
    obtain ⟨_, ka, kb, _⟩ := hLq.out.cells PQ
    obtain ⟨_, la, lb, _⟩ := hLy.out.cells PY2
    obtain ⟨_, ma, mb, _⟩ := hLz.out.cells PZ
    clear PY PU cu zu HE hy3 hLp hLx hLu
    go_wp2_with (first | (refine store_proc rfl _ _ rfl rfl (c := xz) rfl OZz rfl ?_; rw [hwz]) | fail)
    clear OZz hwz hwz0 hmz hsz2
    go_ret
    exact ⟨by simp, HB.out⟩
end Go.Proofs.Ythaolmcppfjedaa
