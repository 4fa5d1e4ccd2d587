/- Layer 13: raising and lowering undo each other (SemaphoreUndoes): the walk. (Written by tools/mksmundoes.py.) -/
import Derived.Test.YtbjipppkkobgbaaSmLaw
import Derived.Test.YtbjipppkkobgbaaSmAny
namespace Go.Proofs.Ytbjipppkkobgbaa
open Go.RowKit

set_option maxRecDepth 100000 in
set_option maxHeartbeats 8000000 in
theorem semaphoreUndoes_any (t : Nat) (ht : t < 4294967296) (W : World) : Calls Try.prog 5 #[.int .u32 (t : Int)] W (BoolPost true W) := by
  obtain ⟨c, hc⟩ : ∃ c, t % 1073741825 = c := ⟨_, rfl⟩
  have hcw : (t : Int) % 1073741825 = (c : Int) := by omega
  have hc3 : c ≤ 1073741824 := by omega
  clear hc
  have HV := hide (sem_sem (id := 5) (n := (c : Int)) (by decide) (by omega))
  go_enter Try.func5, Try.ntmps5
  try dsimp only [List.append]
  go_wp2_with fail
  refine (smSane_any _).mono ?_
  rintro e w1 ⟨rfl, hb1⟩
  have HB1 := hide hb1
  clear hb1
  go_wp2_with fail
  refine (smNew_ok (id := 5) (n := (c : Int)) (by decide) (by omega) _).mono ?_
  rintro e w2 ⟨rfl, hb2⟩
  obtain ⟨w3, hw3, m, hm, w4, hw4, OZ, O, hb4, hs4⟩ := laid_ob (Ob.sem 5 (c : Int)) w2
  have HB := hide (HB1.out.trans ((hb2.trans (hb4.mono hb2.size)).mono HB1.out.size))
  clear hb2 hb4 HB1
  go_upto_region 4 with (first | (refine store_ob rfl _ _ rfl rfl (c := Ob.sem 5 (c : Int)) rfl OZ rfl ?_; rw [hw4]) | fail)
  clear OZ hw4 hw3 hm hs4
  try rw [hcw]
  clear hcw
  by_cases h0 : c = 0
  · subst h0
    rw [show ((0 : Nat) : Int) = 0 from rfl] at O HV ⊢
    go_wp2_with (first | (refine load_ob rfl _ rfl rfl O ?_) | fail)
    refine (smUp_ok (id := 5) (n := 0) (by decide) (by omega) _).mono ?_
    rintro e v10 ⟨rfl, hv10⟩
    rw [show (0 : Int) + 1 = 1 from rfl]
    replace O := O.below hv10 O.lt
    replace HB := hide (HB.out.trans (hv10.mono HB.out.size))
    clear hv10
    obtain ⟨x10, hx10, m10, hm10, y10, hy10, OZ10, PX, hb10, hs10⟩ := laid_ob (Ob.sem 5 (1)) v10
    replace O := O.below hb10 O.lt
    replace HB := hide (HB.out.trans (hb10.mono HB.out.size))
    clear hb10
    go_wp2_with (first | (refine store_ob rfl _ _ rfl rfl (c := Ob.sem 5 (1)) rfl OZ10 rfl ?_; rw [hy10]) | (refine load_ob rfl _ rfl rfl O ?_) | fail)
    refine (smDown_wait (id := 5) (by decide) _).mono ?_
    rintro e v20 ⟨rfl, hv20⟩
    replace O := O.below hv20 O.lt
    replace PX := PX.below hv20 PX.lt
    replace HB := hide (HB.out.trans (hv20.mono HB.out.size))
    clear hv20
    obtain ⟨x20, hx20, m20, hm20, y20, hy20, OZ20, PY, hb20, hs20⟩ := laid_ob (Ob.zero) v20
    replace O := O.below hb20 O.lt
    replace PX := PX.below hb20 PX.lt
    replace HB := hide (HB.out.trans (hb20.mono HB.out.size))
    clear hb20
    have k34 : y20.cell? ⟨m, 34, none⟩ = some (.int .i64 0) := O.cell 34
    go_wp2_with (first | (refine store_ob rfl _ _ rfl rfl (c := Ob.zero) rfl OZ20 rfl ?_; rw [hy20]) | (refine load_ob rfl _ rfl rfl PX ?_) | fail)
    refine (smDown_ok (id := 5) (n := 1) (by decide) (by omega) _).mono ?_
    rintro e v30 ⟨rfl, hv30⟩
    rw [show (1 : Int) - 1 = 0 from rfl]
    replace O := O.below hv30 O.lt
    replace PX := PX.below hv30 PX.lt
    replace PY := PY.below hv30 PY.lt
    replace HB := hide (HB.out.trans (hv30.mono HB.out.size))
    clear hv30
    obtain ⟨x30, hx30, m30, hm30, y30, hy30, OZ30, PZ, hb30, hs30⟩ := laid_ob (Ob.sem 5 0) v30
    replace O := O.below hb30 O.lt
    replace PX := PX.below hb30 PX.lt
    replace PY := PY.below hb30 PY.lt
    replace HB := hide (HB.out.trans (hb30.mono HB.out.size))
    clear hb30
    go_upto_region 16 with (first | (refine store_ob rfl _ _ rfl rfl (c := Ob.sem 5 0) rfl OZ30 rfl ?_; rw [hy30]) | (refine wpList_val (by rfl) (exec_load_ob rfl rfl PZ) ?_) | (refine wpList_val (by rfl) (exec_load_ob rfl rfl O) ?_) | (go_at_call 10; refine (same_smlike (like_sem 5 0) (like_sem 5 0) _).mono ?_; rintro e z40 ⟨rfl, hz40⟩) | fail)
    replace HB := hide (HB.out.trans (hz40.mono HB.out.size))
    replace O := O.below hz40 O.lt
    replace PX := PX.below hz40 PX.lt
    replace PY := PY.below hz40 PY.lt
    replace PZ := PZ.below hz40 PZ.lt
    clear hz40
    go_wp2_with (first | (refine load_ob rfl _ rfl rfl O ?_) | fail)
    refine (smValid_any _ _).mono ?_
    rintro e z1 ⟨rfl, hz1⟩
    rw [decide_eq_true HV.out]
    go_wp2_with fail
    go_ret
    exact ⟨rfl, HB.out.trans (hz1.mono HB.out.size)⟩
  · by_cases h1 : c = 1073741824
    · subst h1
      rw [show ((1073741824 : Nat) : Int) = 1073741824 from rfl] at O HV ⊢
      go_wp2_with (first | (refine load_ob rfl _ rfl rfl O ?_) | fail)
      refine (smUp_full (id := 5) (by decide) _).mono ?_
      rintro e v50 ⟨rfl, hv50⟩
      replace O := O.below hv50 O.lt
      replace HB := hide (HB.out.trans (hv50.mono HB.out.size))
      clear hv50
      obtain ⟨x50, hx50, m50, hm50, y50, hy50, OZ50, PX, hb50, hs50⟩ := laid_ob (Ob.zero) v50
      replace O := O.below hb50 O.lt
      replace HB := hide (HB.out.trans (hb50.mono HB.out.size))
      clear hb50
      go_wp2_with (first | (refine store_ob rfl _ _ rfl rfl (c := Ob.zero) rfl OZ50 rfl ?_; rw [hy50]) | (refine load_ob rfl _ rfl rfl O ?_) | fail)
      refine (smDown_ok (id := 5) (n := 1073741824) (by decide) (by omega) _).mono ?_
      rintro e v60 ⟨rfl, hv60⟩
      rw [show (1073741824 : Int) - 1 = 1073741823 from rfl]
      replace O := O.below hv60 O.lt
      replace PX := PX.below hv60 PX.lt
      replace HB := hide (HB.out.trans (hv60.mono HB.out.size))
      clear hv60
      obtain ⟨x60, hx60, m60, hm60, y60, hy60, OZ60, PY, hb60, hs60⟩ := laid_ob (Ob.sem 5 (1073741823)) v60
      replace O := O.below hb60 O.lt
      replace PX := PX.below hb60 PX.lt
      replace HB := hide (HB.out.trans (hb60.mono HB.out.size))
      clear hb60
      have k34 : y60.cell? ⟨m, 34, none⟩ = some (.int .i64 1073741824) := O.cell 34
      go_wp2_with (first | (refine store_ob rfl _ _ rfl rfl (c := Ob.sem 5 (1073741823)) rfl OZ60 rfl ?_; rw [hy60]) | (refine load_ob rfl _ rfl rfl PY ?_) | fail)
      refine (smUp_ok (id := 5) (n := 1073741823) (by decide) (by omega) _).mono ?_
      rintro e v70 ⟨rfl, hv70⟩
      rw [show (1073741823 : Int) + 1 = 1073741824 from rfl]
      replace O := O.below hv70 O.lt
      replace PX := PX.below hv70 PX.lt
      replace PY := PY.below hv70 PY.lt
      replace HB := hide (HB.out.trans (hv70.mono HB.out.size))
      clear hv70
      obtain ⟨x70, hx70, m70, hm70, y70, hy70, OZ70, PW, hb70, hs70⟩ := laid_ob (Ob.sem 5 1073741824) v70
      replace O := O.below hb70 O.lt
      replace PX := PX.below hb70 PX.lt
      replace PY := PY.below hb70 PY.lt
      replace HB := hide (HB.out.trans (hb70.mono HB.out.size))
      clear hb70
      go_upto_region 16 with (first | (refine store_ob rfl _ _ rfl rfl (c := Ob.sem 5 1073741824) rfl OZ70 rfl ?_; rw [hy70]) | (refine wpList_val (by rfl) (exec_load_ob rfl rfl PW) ?_) | (refine wpList_val (by rfl) (exec_load_ob rfl rfl O) ?_) | (go_at_call 10; refine (same_smlike (like_sem 5 1073741824) (like_sem 5 1073741824) _).mono ?_; rintro e z80 ⟨rfl, hz80⟩) | fail)
      replace HB := hide (HB.out.trans (hz80.mono HB.out.size))
      replace O := O.below hz80 O.lt
      replace PX := PX.below hz80 PX.lt
      replace PY := PY.below hz80 PY.lt
      replace PW := PW.below hz80 PW.lt
      clear hz80
      go_wp2_with (first | (refine load_ob rfl _ rfl rfl O ?_) | fail)
      refine (smValid_any _ _).mono ?_
      rintro e z1 ⟨rfl, hz1⟩
      rw [decide_eq_true HV.out]
      go_wp2_with fail
      go_ret
      exact ⟨rfl, HB.out.trans (hz1.mono HB.out.size)⟩
    · have b0 : ((c : Int) == 0) = false := by simp; omega
      have b1 : ((c : Int) == 1073741824) = false := by simp; omega
      go_wp2_with (first | (refine load_ob rfl _ rfl rfl O ?_) | fail)
      refine (smUp_ok (id := 5) (n := (c : Int)) (by decide) (by omega) _).mono ?_
      rintro e v90 ⟨rfl, hv90⟩
      replace O := O.below hv90 O.lt
      replace HB := hide (HB.out.trans (hv90.mono HB.out.size))
      clear hv90
      obtain ⟨x90, hx90, m90, hm90, y90, hy90, OZ90, PX, hb90, hs90⟩ := laid_ob (Ob.sem 5 ((c : Int) + 1)) v90
      replace O := O.below hb90 O.lt
      replace HB := hide (HB.out.trans (hb90.mono HB.out.size))
      clear hb90
      go_wp2_with (first | (refine store_ob rfl _ _ rfl rfl (c := Ob.sem 5 ((c : Int) + 1)) rfl OZ90 rfl ?_; rw [hy90]) | (refine load_ob rfl _ rfl rfl O ?_) | fail)
      refine (smDown_ok (id := 5) (n := (c : Int)) (by decide) (by omega) _).mono ?_
      rintro e v100 ⟨rfl, hv100⟩
      replace O := O.below hv100 O.lt
      replace PX := PX.below hv100 PX.lt
      replace HB := hide (HB.out.trans (hv100.mono HB.out.size))
      clear hv100
      obtain ⟨x100, hx100, m100, hm100, y100, hy100, OZ100, PY, hb100, hs100⟩ := laid_ob (Ob.sem 5 ((c : Int) - 1)) v100
      replace O := O.below hb100 O.lt
      replace PX := PX.below hb100 PX.lt
      replace HB := hide (HB.out.trans (hb100.mono HB.out.size))
      clear hb100
      have k34 : y100.cell? ⟨m, 34, none⟩ = some (.int .i64 (c : Int)) := O.cell 34
      go_wp2_with (first | (refine store_ob rfl _ _ rfl rfl (c := Ob.sem 5 ((c : Int) - 1)) rfl OZ100 rfl ?_; rw [hy100]) | (refine load_ob rfl _ rfl rfl PX ?_) | fail)
      refine (smDown_ok (id := 5) (n := (c : Int) + 1) (by decide) (by omega) _).mono ?_
      rintro e v110 ⟨rfl, hv110⟩
      rw [show (c : Int) + 1 - 1 = (c : Int) by omega]
      replace O := O.below hv110 O.lt
      replace PX := PX.below hv110 PX.lt
      replace PY := PY.below hv110 PY.lt
      replace HB := hide (HB.out.trans (hv110.mono HB.out.size))
      clear hv110
      obtain ⟨x110, hx110, m110, hm110, y110, hy110, OZ110, PZ, hb110, hs110⟩ := laid_ob (Ob.sem 5 (c : Int)) v110
      replace O := O.below hb110 O.lt
      replace PX := PX.below hb110 PX.lt
      replace PY := PY.below hb110 PY.lt
      replace HB := hide (HB.out.trans (hb110.mono HB.out.size))
      clear hb110
      go_upto_region 12 with (first | (refine store_ob rfl _ _ rfl rfl (c := Ob.sem 5 (c : Int)) rfl OZ110 rfl ?_; rw [hy110]) | (refine wpList_val (by rfl) (exec_load_ob rfl rfl PZ) ?_) | (refine wpList_val (by rfl) (exec_load_ob rfl rfl O) ?_) | (go_at_call 10; refine (same_smlike (like_sem 5 (c : Int)) (like_sem 5 (c : Int)) _).mono ?_; rintro e z120 ⟨rfl, hz120⟩) | fail)
      replace HB := hide (HB.out.trans (hz120.mono HB.out.size))
      replace O := O.below hz120 O.lt
      replace PX := PX.below hz120 PX.lt
      replace PY := PY.below hz120 PY.lt
      replace PZ := PZ.below hz120 PZ.lt
      clear hz120
      go_wp2_with (first | (refine load_ob rfl _ rfl rfl PY ?_) | fail)
      refine (smUp_ok (id := 5) (n := (c : Int) - 1) (by decide) (by omega) _).mono ?_
      rintro e v130 ⟨rfl, hv130⟩
      rw [show (c : Int) - 1 + 1 = (c : Int) by omega]
      replace O := O.below hv130 O.lt
      replace PX := PX.below hv130 PX.lt
      replace PY := PY.below hv130 PY.lt
      replace PZ := PZ.below hv130 PZ.lt
      replace HB := hide (HB.out.trans (hv130.mono HB.out.size))
      clear hv130
      obtain ⟨x130, hx130, m130, hm130, y130, hy130, OZ130, PW, hb130, hs130⟩ := laid_ob (Ob.sem 5 (c : Int)) v130
      replace O := O.below hb130 O.lt
      replace PX := PX.below hb130 PX.lt
      replace PY := PY.below hb130 PY.lt
      replace PZ := PZ.below hb130 PZ.lt
      replace HB := hide (HB.out.trans (hb130.mono HB.out.size))
      clear hb130
      go_upto_region 16 with (first | (refine store_ob rfl _ _ rfl rfl (c := Ob.sem 5 (c : Int)) rfl OZ130 rfl ?_; rw [hy130]) | (refine wpList_val (by rfl) (exec_load_ob rfl rfl PW) ?_) | (refine wpList_val (by rfl) (exec_load_ob rfl rfl O) ?_) | (go_at_call 10; refine (same_smlike (like_sem 5 (c : Int)) (like_sem 5 (c : Int)) _).mono ?_; rintro e z140 ⟨rfl, hz140⟩) | fail)
      replace HB := hide (HB.out.trans (hz140.mono HB.out.size))
      replace O := O.below hz140 O.lt
      replace PX := PX.below hz140 PX.lt
      replace PY := PY.below hz140 PY.lt
      replace PZ := PZ.below hz140 PZ.lt
      replace PW := PW.below hz140 PW.lt
      clear hz140
      go_wp2_with (first | (refine load_ob rfl _ rfl rfl O ?_) | fail)
      refine (smValid_any _ _).mono ?_
      rintro e z1 ⟨rfl, hz1⟩
      rw [decide_eq_true HV.out]
      go_wp2_with fail
      go_ret
      exact ⟨rfl, HB.out.trans (hz1.mono HB.out.size)⟩
end Go.Proofs.Ytbjipppkkobgbaa
