/- Layer 13, what the laws share: known semaphores, the sanity check. -/
import Derived.Test.YtbjipppkkobgbaaSmOps
namespace Go.Proofs.Ytbjipppkkobgbaa
open Go.RowKit

theorem smNew_ok {id n : Int} (hid : id ≠ 0) (hn : 0 ≤ n ∧ n ≤ 1073741824) (W : World) : Calls Try.prog 8 #[.int .u64 id, .int .i64 n] W (GivesErr (Ob.sem id n) 0 W) := by
  have h := smNew_any id n W
  rw [show newErr id n = 0 by unfold newErr; rw [if_neg hid, if_pos (show SmCount n from hn)]] at h
  exact h
theorem smUp_ok {id n : Int} (hid : id ≠ 0) (hn : 0 ≤ n ∧ n < 1073741824) (W : World) : Calls Try.prog 15 #[.agg (oc (Ob.sem id n))] W (GivesErr (Ob.sem id (n + 1)) 0 W) := by
  have h := smUp_any (Ob.sem id n) W
  rw [show (Ob.sem id n).upErr = 0 by rw [sem_upErr hid (by omega), if_neg (by omega)]] at h
  exact h
theorem smUp_full {id : Int} (hid : id ≠ 0) (W : World) : Calls Try.prog 15 #[.agg (oc (Ob.sem id 1073741824))] W (GivesErr Ob.zero 3 W) := by
  have h := smUp_any (Ob.sem id 1073741824) W
  rw [show (Ob.sem id 1073741824).upErr = 3 by rw [sem_upErr hid (by omega), if_pos rfl]] at h
  exact h
theorem smDown_ok {id n : Int} (hid : id ≠ 0) (hn : 0 < n ∧ n ≤ 1073741824) (W : World) : Calls Try.prog 13 #[.agg (oc (Ob.sem id n))] W (GivesErr (Ob.sem id (n - 1)) 0 W) := by
  have h := smDown_any (Ob.sem id n) W
  rw [show (Ob.sem id n).downErr = 0 by rw [sem_downErr hid (by omega), if_neg (by omega)]] at h
  exact h
theorem smDown_wait {id : Int} (hid : id ≠ 0) (W : World) : Calls Try.prog 13 #[.agg (oc (Ob.sem id 0))] W (GivesErr Ob.zero 12 W) := by
  have h := smDown_any (Ob.sem id 0) W
  rw [show (Ob.sem id 0).downErr = 12 by rw [sem_downErr hid (by omega), if_pos rfl]] at h
  exact h

set_option maxRecDepth 100000 in
set_option maxHeartbeats 4000000 in
theorem smSane_any (W : World) : Calls Try.prog 6 #[] W (BoolPost true W) := by
  have HP1 := hide (sem_sem (id := 3) (n := 1) (by decide) (by decide))
  go_enter Try.func6, Try.ntmps6
  try dsimp only [List.append]
  go_wp2_with fail
  refine (smNew_ok (id := 3) (n := 0) (by decide) (by decide) _).mono ?_
  rintro e w1 ⟨rfl, hb1⟩
  obtain ⟨w2, hw2, m, hm, w3, hw3, OZ, OM, hb3, hs3⟩ := laid_ob (Ob.sem 3 0) w1
  have HB3 := hide (hb1.trans (hb3.mono hb1.size))
  clear hb1 hb3
  go_wp2_with (first | (refine store_ob rfl _ _ rfl rfl (c := Ob.sem 3 0) rfl OZ rfl ?_; rw [hw3]) | (refine load_ob rfl _ rfl rfl OM ?_) | fail)
  refine (smDown_wait (id := 3) (by decide) _).mono ?_
  rintro e w4 ⟨rfl, hb4⟩
  replace OM := OM.below hb4 OM.lt
  have HB4 := hide (HB3.out.trans (hb4.mono HB3.out.size))
  clear hb4 HB3 OZ hw2 hw3 hm hs3
  obtain ⟨w5, hw5, g5, hg5, w6, hw6, OZ5, _, hb6, hs6⟩ := laid_ob Ob.zero w4
  replace OM := OM.below hb6 OM.lt
  have HB6 := hide (HB4.out.trans (hb6.mono HB4.out.size))
  clear hb6 HB4
  go_wp2_with (first | (refine store_ob rfl _ _ rfl rfl (c := Ob.zero) rfl OZ5 rfl ?_; rw [hw6]) | (refine load_ob rfl _ rfl rfl OM ?_) | fail)
  refine (smUp_ok (id := 3) (n := 0) (by decide) (by decide) _).mono ?_
  rintro e w7 ⟨rfl, hb7⟩
  rw [show (0 : Int) + 1 = 1 from rfl]
  obtain ⟨w8, hw8, g8, hg8, w9, hw9, OZ8, ON, hb9, hs9⟩ := laid_ob (Ob.sem 3 1) w7
  have HB9 := hide (HB6.out.trans ((hb7.trans (hb9.mono hb7.size)).mono HB6.out.size))
  have k34 : w9.cell? ⟨g8, 34, none⟩ = some (.int .i64 1) := ON.cell 34
  clear hb7 hb9 HB6 OZ5 hw5 hw6 hg5 hs6 OM
  go_wp2_with (first | (refine store_ob rfl _ _ rfl rfl (c := Ob.sem 3 1) rfl OZ8 rfl ?_; rw [hw9]) | (refine wpList_val (by rfl) (exec_load_ob rfl rfl ON) ?_) | (go_at_call 17; refine (smValid_any _ _).mono ?_; rintro e w13 ⟨rfl, hb13⟩; rw [decide_eq_true HP1.out]) | fail)
  go_ret
  exact ⟨rfl, HB9.out.trans (hb13.mono HB9.out.size)⟩
end Go.Proofs.Ytbjipppkkobgbaa
