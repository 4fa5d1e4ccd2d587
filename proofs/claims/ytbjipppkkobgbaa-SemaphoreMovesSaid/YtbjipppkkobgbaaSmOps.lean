/- Layer 13, package semaphore: New, Down, Up; the method value that is given the difference. And the reference. -/
import Derived.Test.YtbjipppkkobgbaaSmValid
import Derived.Test.YtbjipppkkobgbaaSmRefV
namespace Go.Proofs.Ytbjipppkkobgbaa
open Go.RowKit

/-- What a change by d answers: 1: no semaphore; 2: no semaphore can have the count. -/
def Ob.chErr (o : Ob) (d : Int) : Int := if o.Sem then (if SmCount (o.count + d) then 0 else 2) else 1
def Ob.apErr (o : Ob) (d b : Int) : Int := if o.chErr d = 2 then b else o.chErr d
theorem apErr_down (o : Ob) : o.apErr (-1) 12 = o.downErr := by
  unfold Ob.apErr Ob.chErr Ob.downErr
  by_cases h : o.Sem
  · have hc := h.2.2.1
    simp only [if_pos h]
    unfold SmCount at hc
    by_cases h0 : o.count = 0
    · have hn : ¬ SmCount (o.count + -1) := by unfold SmCount; omega
      simp only [if_pos h0, if_neg hn]; rfl
    · have hn : SmCount (o.count + -1) := by unfold SmCount; omega
      simp only [if_neg h0, if_pos hn]; rfl
  · simp only [if_neg h]; rfl
theorem apErr_up (o : Ob) : o.apErr 1 3 = o.upErr := by
  unfold Ob.apErr Ob.chErr Ob.upErr
  by_cases h : o.Sem
  · have hc := h.2.2.1
    simp only [if_pos h]
    unfold SmCount at hc
    by_cases h0 : o.count = 1073741824
    · have hn : ¬ SmCount (o.count + 1) := by unfold SmCount; omega
      simp only [if_pos h0, if_neg hn]; rfl
    · have hn : SmCount (o.count + 1) := by unfold SmCount; omega
      simp only [if_neg h0, if_pos hn]; rfl
  · simp only [if_neg h]; rfl
/-- Where a method begins that gives an object back. -/
theorem start_cz (W : World) (o : Ob) : ∃ w1, (W.alloc (.cells (oc o) 75)).alloc (.cells #[.int .u64 0, .int .i64 0, .int .i64 0, .int .i64 0, .int .u64 0, .slice none 0 0, .slice none 0 0, .slice none 0 0, .int .i64 0, .int .i64 0, .int .i64 0, .int .i64 0, .int .i64 0, .int .i64 0, .int .i64 0, .int .i64 0, .int .i64 0, .int .i64 0,
  .slice none 0 0, .slice none 0 0, .int .i64 0, .int .i64 0, .int .i64 0, .slice none 0 0, .slice none 0 0, .int .i64 0, .int .u64 0, .int .i64 0, .int .i64 0, .slice none 0 0, .slice none 0 0, .slice none 0 0, .int .i64 0, .int .i64 0, .int .i64 0, .slice none 0 0] 41) = w1 ∧
    Obl w1 W.heap.size 75 (oc o) ∧ Obl w1 (W.heap.size + 1) 41 (oc Ob.zero) ∧ Below W.heap.size W w1 ∧ w1.heap.size = W.heap.size + 2 := by
  obtain ⟨w1, h1, h2, h3, h4⟩ := start_z (W.alloc (.cells (oc o) 75))
  rw [World.size_alloc] at h2 h4
  exact ⟨w1, h1, (Obl.make W _ _).below h3 (by simp), h2, ((Below.refl _ _).alloc (Nat.le_refl _) _).trans (h3.mono (by simp)), h4⟩
theorem counterSize : (Try.prog.info? 75).map (·.size) = some 36 := by kernel_rfl
theorem load_counter {ops : Array Oper} {rest : List Oper} {o : Oper} {a : Act} {w : World} {Q : Exit → Act → World → Prop} (hgd : o.guard = none) (x : Operand) (ho : o.op = .load 75 x) {g : Nat} (hx : a.eval x = .pointer (some ⟨g, 0, none⟩)) {y : Ob} {t : TypeId} (h : Obl w g t (oc y))
    (hK : wpList Try.prog ops Q rest (a.put o.dst (.agg (oc y))) w) : wpList Try.prog ops Q (o :: rest) a w :=
  wpList_load_row hgd _ x ho g hx t (oc y) (0, 0) _ h Try.underlying75 rfl counterSize hK

set_option maxRecDepth 100000 in
set_option maxHeartbeats 4000000 in
theorem smNew_any (id n : Int) (W : World) : Calls Try.prog 8 #[.int .u64 id, .int .i64 n] W (GivesErr (okOb (newErr id n) (Ob.sem id n)) (newErr id n) W) := by
  obtain ⟨w1, hw, O, hb, hs⟩ := start_z W
  have HB := hide hb
  clear hb
  by_cases h0 : id = 0
  · subst h0
    go_enter Try.func8, Try.ntmps8
    go_wp2_with (first | (refine store_ob rfl _ _ rfl rfl (c := Ob.zero) rfl O rfl ?_) | fail)
    refine bodyPost_ret (ret_ob2 rfl _ rfl (O.row_same _)) rfl ?_
    exact ⟨rfl, below_row HB.out (Nat.le_refl _) _⟩
  · have b0 : (id == 0) = false := by simpa using h0
    by_cases hn : SmCount n
    · have HE : Hid (newErr id n = 0) := hide (by unfold newErr; rw [if_neg h0, if_pos hn])
      have HN := hide hn
      clear h0 hn
      go_enter Try.func8, Try.ntmps8
      go_wp2_with fail
      refine (smCount_any n _).mono ?_
      rintro e w2 ⟨rfl, hb2⟩
      rw [decide_eq_true HN.out]
      have O2 := O.below hb2 O.lt
      have HF := hide (below_row (HB.out.trans (hb2.mono HB.out.size)) (g := W.heap.size) (Nat.le_refl _) (oc (Ob.sem id n)))
      clear hb2 O hw hs
      go_wp2_with (first | (refine store_ob rfl _ _ rfl rfl (c := Ob.sem id n) rfl O2 rfl ?_) | fail)
      refine bodyPost_ret (ret_ob2 rfl _ rfl (O2.row_same _)) rfl ?_
      exact ⟨by rw [HE.out]; rfl, HF.out⟩
    · have HE : Hid (newErr id n = 2) := hide (by unfold newErr; rw [if_neg h0, if_neg hn])
      have HN := hide hn
      clear h0 hn
      go_enter Try.func8, Try.ntmps8
      go_wp2_with fail
      refine (smCount_any n _).mono ?_
      rintro e w2 ⟨rfl, hb2⟩
      rw [decide_eq_false HN.out]
      have O2 := O.below hb2 O.lt
      have HF := hide (below_row (HB.out.trans (hb2.mono HB.out.size)) (g := W.heap.size) (Nat.le_refl _) (oc Ob.zero))
      clear hb2 O hw hs
      go_wp2_with (first | (refine store_ob rfl _ _ rfl rfl (c := Ob.zero) rfl O2 rfl ?_) | fail)
      refine bodyPost_ret (ret_ob2 rfl _ rfl (O2.row_same _)) rfl ?_
      exact ⟨by rw [HE.out]; rfl, HF.out⟩
set_option maxRecDepth 100000 in
set_option maxHeartbeats 4000000 in
theorem smChanged_any (o : Ob) (d : Int) (hd : -1 ≤ d ∧ d ≤ 1) (W : World) : Calls Try.prog 36 #[.agg (oc o), .int .i64 d] W (GivesErr (okOb (o.chErr d) (Ob.sem o.id (o.count + d))) (o.chErr d) W) := by
  obtain ⟨w1, hw, O, OR, hb, hs⟩ := start_cz W o
  have HB := hide hb
  clear hb
  go_enter Try.func36, Try.ntmps36
  go_wp2_with (first | (refine load_counter rfl _ rfl rfl O ?_) | fail)
  refine (smValid_any o _).mono ?_
  rintro e w2 ⟨rfl, hb2⟩
  have O2 := O.below hb2 O.lt
  have OR2 := OR.below hb2 OR.lt
  have HB2 := hide (HB.out.trans (hb2.mono HB.out.size))
  have k0 : w2.cell? ⟨W.heap.size, 0, none⟩ = some (.int .u64 o.id) := O2.cell 0
  have k34 : w2.cell? ⟨W.heap.size, 34, none⟩ = some (.int .i64 o.count) := O2.cell 34
  clear hb2 hw O OR O2 hs HB
  by_cases hp : o.Sem
  · have HE : Hid (o.chErr d = newErr o.id (o.count + d)) := hide (by unfold Ob.chErr newErr; rw [if_pos hp, if_neg hp.2.1])
    have hx : IntKind.i64.wrap (o.count + d) = o.count + d := by have := hp.2.2.1; unfold SmCount at this; rw [IntKind.wrap_i64]; omega
    rw [decide_eq_true hp]
    clear hp
    go_wp2_with fail
    refine (smNew_any o.id (o.count + d) _).mono ?_
    rintro e w3 ⟨rfl, hb3⟩
    have OR3 := OR2.below hb3 OR2.lt
    have HF := hide (below_row (HB2.out.trans (hb3.mono HB2.out.size)) (g := W.heap.size + 1) (by omega) (oc (okOb (newErr o.id (o.count + d)) (Ob.sem o.id (o.count + d)))))
    obtain ⟨y, hy⟩ : ∃ y, okOb (newErr o.id (o.count + d)) (Ob.sem o.id (o.count + d)) = y := ⟨_, rfl⟩
    obtain ⟨r, hr⟩ : ∃ r, newErr o.id (o.count + d) = r := ⟨_, rfl⟩
    rw [hy] at HF ⊢
    rw [hr] at HE ⊢
    have HY := hide hy
    have HR := hide hr
    clear hb3 OR2 hy hr HB2 k0 k34 hx
    go_wp2_with (first | (refine store_ob rfl _ _ rfl rfl (c := y) rfl OR3 rfl ?_) | fail)
    refine bodyPost_ret (ret_ob2 rfl _ rfl (OR3.row_same _)) rfl ?_
    exact ⟨by rw [HE.out, ← HY.out, HR.out]; rfl, HF.out⟩
  · have HE : Hid (o.chErr d = 1) := hide (by unfold Ob.chErr; rw [if_neg hp])
    have HF := hide (below_row HB2.out (g := W.heap.size + 1) (by omega) (oc Ob.zero))
    rw [decide_eq_false hp]
    clear hp
    go_wp2_with (first | (refine store_ob rfl _ _ rfl rfl (c := Ob.zero) rfl OR2 rfl ?_) | fail)
    refine bodyPost_ret (ret_ob2 rfl _ rfl (OR2.row_same _)) rfl ?_
    exact ⟨by rw [HE.out]; rfl, HF.out⟩
set_option maxRecDepth 100000 in
set_option maxHeartbeats 4000000 in
theorem smApply_any (o : Ob) (d b : Int) (hd : -1 ≤ d ∧ d ≤ 1) (hb0 : b ≠ 0) (W : World) : Calls Try.prog 35 #[.func (.func 36) #[.agg (oc o)] #[], .int .i64 d, .int .i64 b] W (GivesErr (okOb (o.apErr d b) (Ob.sem o.id (o.count + d))) (o.apErr d b) W) := by
  obtain ⟨w1, hw, O, hb, hs⟩ := start_z W
  have HB := hide hb
  clear hb
  go_enter Try.func35, Try.ntmps35
  go_wp2_with fail
  refine (smChanged_any o d hd _).mono ?_
  rintro e w2 ⟨rfl, hb2⟩
  obtain ⟨y, hy⟩ : ∃ y, okOb (o.chErr d) (Ob.sem o.id (o.count + d)) = y := ⟨_, rfl⟩
  obtain ⟨r, hr⟩ : ∃ r, o.chErr d = r := ⟨_, rfl⟩
  obtain ⟨w3, hw3, m, hm, w4, hw4, OZ, OM, hb4, hs4⟩ := laid_ob y w2
  have O4 := O.below (hb2.trans (hb4.mono hb2.size)) O.lt
  have HB4 := hide (HB.out.trans ((hb2.trans (hb4.mono hb2.size)).mono HB.out.size))
  have HY := hide hy
  have HR := hide hr
  rw [hy, hr]
  have hm0 : W.heap.size < m := by have := hb2.size; omega
  clear hb2 hb4 hw hs O hy hr hd HB
  by_cases h2 : r = 2
  · have HE : Hid (o.apErr d b = b) := hide (by unfold Ob.apErr; rw [HR.out, if_pos h2])
    have HF := hide (below_row HB4.out (g := W.heap.size) (Nat.le_refl _) (oc Ob.zero))
    subst h2
    go_wp2_with (first | (refine store_ob rfl _ _ rfl rfl (c := y) rfl OZ rfl ?_; rw [hw4]) | (refine store_ob rfl _ _ rfl rfl (c := Ob.zero) rfl O4 rfl ?_) | fail)
    refine bodyPost_ret (ret_ob2 rfl _ rfl (O4.row_same _)) rfl ?_
    exact ⟨by rw [HE.out]; unfold okOb; rw [if_neg hb0]; rfl, HF.out⟩
  · have HE : Hid (o.apErr d b = r) := hide (by unfold Ob.apErr; rw [HR.out, if_neg h2])
    have HF := hide (below_row HB4.out (g := W.heap.size) (Nat.le_refl _) (oc y))
    have b2 : (r == 2) = false := by simpa using h2
    clear h2
    go_wp2_with (first | (refine store_ob rfl _ _ rfl rfl (c := y) rfl OZ rfl ?_; rw [hw4]) | (refine load_ob rfl _ rfl rfl OM ?_) | (refine store_ob rfl _ _ rfl rfl (c := y) rfl O4 rfl ?_) | fail)
    refine bodyPost_ret (ret_ob2 rfl _ rfl (O4.row_same _)) rfl ?_
    exact ⟨by rw [HE.out, ← HY.out, HR.out]; rfl, HF.out⟩
set_option maxRecDepth 100000 in
set_option maxHeartbeats 4000000 in
theorem smDown_any (o : Ob) (W : World) : Calls Try.prog 13 #[.agg (oc o)] W (GivesErr (okOb o.downErr (Ob.sem o.id (o.count - 1))) o.downErr W) := by
  obtain ⟨w1, hw, O, OR, hb, hs⟩ := start_oz W o
  have HB := hide hb
  clear hb
  go_enter Try.func13, Try.ntmps13
  go_wp2_with (first | (refine load_ob rfl _ rfl rfl O ?_) | fail)
  refine (smApply_any o (-1) 12 (by decide) (by decide) _).mono ?_
  rintro e w2 ⟨rfl, hb2⟩
  rw [apErr_down, show o.count + -1 = o.count - 1 from rfl]
  obtain ⟨y, hy⟩ : ∃ y, okOb o.downErr (Ob.sem o.id (o.count - 1)) = y := ⟨_, rfl⟩
  obtain ⟨r, hr⟩ : ∃ r, o.downErr = r := ⟨_, rfl⟩
  have OR2 := OR.below hb2 OR.lt
  have HF := hide (below_row (HB.out.trans (hb2.mono HB.out.size)) (g := W.heap.size + 1) (by omega) (oc y))
  have HY := hide hy
  have HR := hide hr
  rw [hy, hr]
  clear hb2 hw hs O OR hy hr HB
  go_wp2_with (first | (refine store_ob rfl _ _ rfl rfl (c := y) rfl OR2 rfl ?_) | fail)
  refine bodyPost_ret (ret_ob2 rfl _ rfl (OR2.row_same _)) rfl ?_
  exact ⟨by rw [← HY.out, HR.out]; rfl, HF.out⟩
set_option maxRecDepth 100000 in
set_option maxHeartbeats 4000000 in
theorem smUp_any (o : Ob) (W : World) : Calls Try.prog 15 #[.agg (oc o)] W (GivesErr (okOb o.upErr (Ob.sem o.id (o.count + 1))) o.upErr W) := by
  obtain ⟨w1, hw, O, OR, hb, hs⟩ := start_oz W o
  have HB := hide hb
  clear hb
  go_enter Try.func15, Try.ntmps15
  go_wp2_with (first | (refine load_ob rfl _ rfl rfl O ?_) | fail)
  refine (smApply_any o 1 3 (by decide) (by decide) _).mono ?_
  rintro e w2 ⟨rfl, hb2⟩
  rw [apErr_up]
  obtain ⟨y, hy⟩ : ∃ y, okOb o.upErr (Ob.sem o.id (o.count + 1)) = y := ⟨_, rfl⟩
  obtain ⟨r, hr⟩ : ∃ r, o.upErr = r := ⟨_, rfl⟩
  have OR2 := OR.below hb2 OR.lt
  have HF := hide (below_row (HB.out.trans (hb2.mono HB.out.size)) (g := W.heap.size + 1) (by omega) (oc y))
  have HY := hide hy
  have HR := hide hr
  rw [hy, hr]
  clear hb2 hw hs O OR hy hr HB
  go_wp2_with (first | (refine store_ob rfl _ _ rfl rfl (c := y) rfl OR2 rfl ?_) | fail)
  refine bodyPost_ret (ret_ob2 rfl _ rfl (OR2.row_same _)) rfl ?_
  exact ⟨by rw [← HY.out, HR.out]; rfl, HF.out⟩
end Go.Proofs.Ytbjipppkkobgbaa
