/- Layer 13: the reference, and that the package and the reference answer alike, whatever the object is. -/
import Derived.Test.YtbjipppkkobgbaaSmOps
import Derived.Test.YtbjipppkkobgbaaSameFull
namespace Go.Proofs.Ytbjipppkkobgbaa
open Go.RowKit

theorem same_smlike {y z : Ob} {a b c : Int} (hy : SmLike y a b c) (hz : SmLike z a b c) (w : World) :
    Calls Try.prog 10 #[.agg (oc y), .agg (oc z)] w (BoolPost true w) := by
  obtain ⟨⟨n1, n2, n3⟩, ⟨p1, p2, p3, p4, p5, p6⟩, ⟨q1, q2, q3, q4, q5, q6⟩, hp⟩ := hy
  obtain ⟨⟨m1, m2, m3⟩, ⟨r1, r2, r3, r4, r5, r6⟩, ⟨s1, s2, s3, s4, s5, s6⟩, hq⟩ := hz
  simp only [List.cons.injEq, and_true] at p6 r6
  refine same_ob y z [] [] [] [] [] w ⟨n1.trans m1.symm, n2.trans m2.symm, p1.trans r1.symm, p2.trans r2.symm, p3.trans r3.symm, p4.trans r4.symm, p5.trans r5.symm, n3.trans m3.symm, p6.1.trans r6.1.symm, p6.2.trans r6.2.symm⟩ q4 s4 ⟨?_, ?_, ?_, ?_, ?_, ?_, ?_, ?_, ?_, ?_, by simp⟩ fun u _ => sameProc_none _ _ hp hq u
  · rw [q1]; exact Nums.nil
  · rw [s1]; exact Nums.nil
  · rw [q2]; exact Bytes.nil
  · rw [s2]; exact Bytes.nil
  · rw [q5]; exact Bytes.nil
  · rw [s5]; exact Bytes.nil
  · rw [q6]; exact Bytes.nil
  · rw [s6]; exact Bytes.nil
  · rw [q3]; exact Nums.nil
  · rw [s3]; exact Nums.nil
/-- A number that is there if there is no error. -/
def ifOk (r v : Int) : Int := if r = 0 then v else 0
/-- An answer that has nothing but identifier and count, if there is no error. -/
def SmAns (id n r : Int) (w : World) (e : Ending) (w' : World) : Prop := ∃ y, e = .returned (.tuple #[.agg (oc y), .int .i64 r]) ∧ SmLike y (ifOk r id) (ifOk r 8) (ifOk r n) ∧ Below w.heap.size w w'
theorem like_ok {y : Ob} {id n : Int} (r : Int) (h : r = 0 → SmLike y id 8 n) : SmLike (okOb r y) (ifOk r id) (ifOk r 8) (ifOk r n) := by
  unfold okOb ifOk
  by_cases h0 : r = 0
  · simp only [if_pos h0]; exact h h0
  · simp only [if_neg h0]; exact like_none
theorem ans_ok {y : Ob} {id n r : Int} {w w' : World} {e : Ending} (hg : GivesErr (okOb r y) r w e w') (h : r = 0 → SmLike y id 8 n) : SmAns id n r w e w' := ⟨_, hg.1, like_ok r h, hg.2⟩
theorem smNew_ans (id n : Int) (W : World) : Calls Try.prog 8 #[.int .u64 id, .int .i64 n] W (SmAns id n (newErr id n) W) :=
  (smNew_any id n W).mono fun _ _ h => ans_ok h fun _ => like_sem _ _
theorem smDown_ans (o : Ob) (W : World) : Calls Try.prog 13 #[.agg (oc o)] W (SmAns o.id (o.count - 1) o.downErr W) :=
  (smDown_any o W).mono fun _ _ h => ans_ok h fun _ => like_sem _ _
theorem smUp_ans (o : Ob) (W : World) : Calls Try.prog 15 #[.agg (oc o)] W (SmAns o.id (o.count + 1) o.upErr W) :=
  (smUp_any o W).mono fun _ _ h => ans_ok h fun _ => like_sem _ _
theorem downErr_0 {o : Ob} (h : o.downErr = 0) : o.Sem := by
  by_cases hp : o.Sem
  · exact hp
  · unfold Ob.downErr at h; rw [if_neg hp] at h; omega
theorem upErr_0 {o : Ob} (h : o.upErr = 0) : o.Sem := by
  by_cases hp : o.Sem
  · exact hp
  · unfold Ob.upErr at h; rw [if_neg hp] at h; omega

set_option maxRecDepth 100000 in
set_option maxHeartbeats 4000000 in
theorem refSmNew_any (id n : Int) (W : World) : Calls Try.prog 9 #[.int .u64 id, .int .i64 n] W (GivesErr (okOb (newErr id n) (Ob.sem id n)) (newErr id n) W) := by
  obtain ⟨w1, hw, O, hb, hs⟩ := start_z W
  have HB := hide hb
  clear hb
  by_cases h0 : id = 0
  · subst h0
    go_enter Try.func9, Try.ntmps9
    go_wp2_with (first | (refine store_ob rfl _ _ rfl rfl (c := Ob.zero) rfl O rfl ?_) | fail)
    refine bodyPost_ret (ret_ob2 rfl _ rfl (O.row_same _)) rfl ?_
    exact ⟨rfl, below_row HB.out (Nat.le_refl _) _⟩
  · have b0 : (id == 0) = false := by simpa using h0
    by_cases h1 : n < 0
    · have HE : Hid (newErr id n = 2) := hide (by unfold newErr; rw [if_neg h0, if_neg (fun h : SmCount n => by have := h.1; omega)])
      clear h0
      go_enter Try.func9, Try.ntmps9
      go_wp2_with (first | (refine store_ob rfl _ _ rfl rfl (c := Ob.zero) rfl O rfl ?_) | fail)
      refine bodyPost_ret (ret_ob2 rfl _ rfl (O.row_same _)) rfl ?_
      exact ⟨by rw [HE.out]; rfl, below_row HB.out (Nat.le_refl _) _⟩
    · by_cases h2 : 1073741824 < n
      · have HE : Hid (newErr id n = 2) := hide (by unfold newErr; rw [if_neg h0, if_neg (fun h : SmCount n => by have := h.2; omega)])
        clear h0
        go_enter Try.func9, Try.ntmps9
        go_wp2_with (first | (refine store_ob rfl _ _ rfl rfl (c := Ob.zero) rfl O rfl ?_) | fail)
        refine bodyPost_ret (ret_ob2 rfl _ rfl (O.row_same _)) rfl ?_
        exact ⟨by rw [HE.out]; rfl, below_row HB.out (Nat.le_refl _) _⟩
      · have HE : Hid (newErr id n = 0) := hide (by unfold newErr; rw [if_neg h0, if_pos (show SmCount n from ⟨by omega, by omega⟩)])
        clear h0
        go_enter Try.func9, Try.ntmps9
        go_wp2_with (first | (refine store_ob rfl _ _ rfl rfl (c := Ob.sem id n) rfl O rfl ?_) | fail)
        refine bodyPost_ret (ret_ob2 rfl _ rfl (O.row_same _)) rfl ?_
        exact ⟨by rw [HE.out]; rfl, below_row HB.out (Nat.le_refl _) _⟩
theorem refSmNew_ans (id n : Int) (W : World) : Calls Try.prog 9 #[.int .u64 id, .int .i64 n] W (SmAns id n (newErr id n) W) :=
  (refSmNew_any id n W).mono fun _ _ h => ans_ok h fun _ => like_sem _ _
set_option maxRecDepth 100000 in
set_option maxHeartbeats 4000000 in
theorem refSmDown_any (o : Ob) (W : World) : Calls Try.prog 14 #[.agg (oc o)] W (GivesErr (okOb o.downErr { o with count := o.count - 1 }) o.downErr W) := by
  obtain ⟨w1, hw, O, OR, hb, hs⟩ := start_oz W o
  have HB := hide hb
  clear hb
  go_enter Try.func14, Try.ntmps14
  go_wp2_with (first | (refine load_ob rfl _ rfl rfl O ?_) | fail)
  refine (refSmValid_any o _).mono ?_
  rintro e w2 ⟨rfl, hb2⟩
  have O2 := O.below hb2 O.lt
  have OR2 := OR.below hb2 OR.lt
  have HB2 := hide (HB.out.trans (hb2.mono HB.out.size))
  have HF := hide (below_row HB2.out (g := W.heap.size + 1) (by omega) (oc Ob.zero))
  have k34 : w2.cell? ⟨W.heap.size, 34, none⟩ = some (.int .i64 o.count) := O2.cell 34
  clear hb2 hw hs O OR HB
  by_cases hp : o.Sem
  · rw [decide_eq_true hp]
    by_cases h0 : o.count = 0
    · have HE : Hid (o.downErr = 12) := hide (by unfold Ob.downErr; rw [if_pos hp, if_pos h0])
      rw [h0] at k34
      clear hp h0 O2
      go_wp2_with (first | (refine store_ob rfl _ _ rfl rfl (c := Ob.zero) rfl OR2 rfl ?_) | fail)
      refine bodyPost_ret (ret_ob2 rfl _ rfl (OR2.row_same _)) rfl ?_
      exact ⟨by rw [HE.out]; rfl, HF.out⟩
    · have HE : Hid (o.downErr = 0) := hide (by unfold Ob.downErr; rw [if_pos hp, if_neg h0])
      have b0 : (o.count == 0) = false := by simpa using h0
      have hx : IntKind.i64.wrap (o.count - 1) = o.count - 1 := by have := hp.2.2.1; unfold SmCount at this; rw [IntKind.wrap_i64]; omega
      clear hp h0 HF
      have z34 := O2.free 34
      have O3 := O2.put 34 (.int .i64 (o.count - 1))
      have R3 := OR2.put_other (b' := W.heap.size) (by omega) 34 (.int .i64 (o.count - 1))
      have HB3 := hide (HB2.out.setCell (p := ⟨W.heap.size, 34, none⟩) (Nat.le_refl _) (.int .i64 (o.count - 1)))
      obtain ⟨w3, hw3⟩ : ∃ w3, w2.setCell ⟨W.heap.size, 34, none⟩ (.int .i64 (o.count - 1)) = w3 := ⟨_, rfl⟩
      rw [hw3] at O3 R3 HB3
      replace O3 : Obl w3 W.heap.size 41 (oc { o with count := o.count - 1 }) := O3
      obtain ⟨y, hy⟩ : ∃ y, ({ o with count := o.count - 1 } : Ob) = y := ⟨_, rfl⟩
      have HY := hide hy
      rw [hy] at O3
      have HF := hide (below_row HB3.out (g := W.heap.size + 1) (by omega) (oc y))
      clear hy HB2 HB3
      go_wp2_with (first | (refine load_ob rfl _ rfl rfl O3 ?_) | (refine store_ob rfl _ _ rfl rfl (c := y) rfl R3 rfl ?_) | fail)
      refine bodyPost_ret (ret_ob2 rfl _ rfl (R3.row_same _)) rfl ?_
      exact ⟨by rw [HE.out, HY.out]; rfl, HF.out⟩
  · have HE : Hid (o.downErr = 1) := hide (by unfold Ob.downErr; rw [if_neg hp])
    rw [decide_eq_false hp]
    clear hp O2 k34
    go_wp2_with (first | (refine store_ob rfl _ _ rfl rfl (c := Ob.zero) rfl OR2 rfl ?_) | fail)
    refine bodyPost_ret (ret_ob2 rfl _ rfl (OR2.row_same _)) rfl ?_
    exact ⟨by rw [HE.out]; rfl, HF.out⟩
theorem refSmDown_ans (o : Ob) (W : World) : Calls Try.prog 14 #[.agg (oc o)] W (SmAns o.id (o.count - 1) o.downErr W) :=
  (refSmDown_any o W).mono fun _ _ h => ans_ok h fun h0 => like_count (downErr_0 h0) _
set_option maxRecDepth 100000 in
set_option maxHeartbeats 4000000 in
theorem refSmUp_any (o : Ob) (W : World) : Calls Try.prog 16 #[.agg (oc o)] W (GivesErr (okOb o.upErr { o with count := o.count + 1 }) o.upErr W) := by
  obtain ⟨w1, hw, O, OR, hb, hs⟩ := start_oz W o
  have HB := hide hb
  clear hb
  go_enter Try.func16, Try.ntmps16
  go_wp2_with (first | (refine load_ob rfl _ rfl rfl O ?_) | fail)
  refine (refSmValid_any o _).mono ?_
  rintro e w2 ⟨rfl, hb2⟩
  have O2 := O.below hb2 O.lt
  have OR2 := OR.below hb2 OR.lt
  have HB2 := hide (HB.out.trans (hb2.mono HB.out.size))
  have HF := hide (below_row HB2.out (g := W.heap.size + 1) (by omega) (oc Ob.zero))
  have k34 : w2.cell? ⟨W.heap.size, 34, none⟩ = some (.int .i64 o.count) := O2.cell 34
  clear hb2 hw hs O OR HB
  by_cases hp : o.Sem
  · rw [decide_eq_true hp]
    by_cases h0 : o.count = 1073741824
    · have HE : Hid (o.upErr = 3) := hide (by unfold Ob.upErr; rw [if_pos hp, if_pos h0])
      rw [h0] at k34
      clear hp h0 O2
      go_wp2_with (first | (refine store_ob rfl _ _ rfl rfl (c := Ob.zero) rfl OR2 rfl ?_) | fail)
      refine bodyPost_ret (ret_ob2 rfl _ rfl (OR2.row_same _)) rfl ?_
      exact ⟨by rw [HE.out]; rfl, HF.out⟩
    · have HE : Hid (o.upErr = 0) := hide (by unfold Ob.upErr; rw [if_pos hp, if_neg h0])
      have b0 : (o.count == 1073741824) = false := by simpa using h0
      have hx : IntKind.i64.wrap (o.count + 1) = o.count + 1 := by have := hp.2.2.1; unfold SmCount at this; rw [IntKind.wrap_i64]; omega
      clear hp h0 HF
      have z34 := O2.free 34
      have O3 := O2.put 34 (.int .i64 (o.count + 1))
      have R3 := OR2.put_other (b' := W.heap.size) (by omega) 34 (.int .i64 (o.count + 1))
      have HB3 := hide (HB2.out.setCell (p := ⟨W.heap.size, 34, none⟩) (Nat.le_refl _) (.int .i64 (o.count + 1)))
      obtain ⟨w3, hw3⟩ : ∃ w3, w2.setCell ⟨W.heap.size, 34, none⟩ (.int .i64 (o.count + 1)) = w3 := ⟨_, rfl⟩
      rw [hw3] at O3 R3 HB3
      replace O3 : Obl w3 W.heap.size 41 (oc { o with count := o.count + 1 }) := O3
      obtain ⟨y, hy⟩ : ∃ y, ({ o with count := o.count + 1 } : Ob) = y := ⟨_, rfl⟩
      have HY := hide hy
      rw [hy] at O3
      have HF := hide (below_row HB3.out (g := W.heap.size + 1) (by omega) (oc y))
      clear hy HB2 HB3
      go_wp2_with (first | (refine load_ob rfl _ rfl rfl O3 ?_) | (refine store_ob rfl _ _ rfl rfl (c := y) rfl R3 rfl ?_) | fail)
      refine bodyPost_ret (ret_ob2 rfl _ rfl (R3.row_same _)) rfl ?_
      exact ⟨by rw [HE.out, HY.out]; rfl, HF.out⟩
  · have HE : Hid (o.upErr = 1) := hide (by unfold Ob.upErr; rw [if_neg hp])
    rw [decide_eq_false hp]
    clear hp O2 k34
    go_wp2_with (first | (refine store_ob rfl _ _ rfl rfl (c := Ob.zero) rfl OR2 rfl ?_) | fail)
    refine bodyPost_ret (ret_ob2 rfl _ rfl (OR2.row_same _)) rfl ?_
    exact ⟨by rw [HE.out]; rfl, HF.out⟩
theorem refSmUp_ans (o : Ob) (W : World) : Calls Try.prog 16 #[.agg (oc o)] W (SmAns o.id (o.count + 1) o.upErr W) :=
  (refSmUp_any o W).mono fun _ _ h => ans_ok h fun h0 => like_count (upErr_0 h0) _
end Go.Proofs.Ytbjipppkkobgbaa
