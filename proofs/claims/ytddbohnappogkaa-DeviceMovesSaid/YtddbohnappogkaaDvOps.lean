/- Layer 17: new devices, requests, of both packages (written by tools/mkdvops.py) -/
import Derived.Test.YtddbohnappogkaaDvValid
import Derived.Test.YtddbohnappogkaaDvRefV
import Derived.Test.YtddbohnappogkaaSmLike
namespace Go.Proofs.Ytddbohnappogkaa
open Go.RowKit
set_option maxRecDepth 100000 in
set_option maxHeartbeats 4000000 in
theorem dvNew_any (id : Int) (W : World) : Calls Try.prog 15 #[.int .u64 id] W (DnPost (oc (Ob.dev id 0)) W) := by
  obtain ⟨w1, hw, O, hb, hs⟩ := start_z W
  have HB := hide hb
  clear hb
  go_enter Try.func15, Try.ntmps15
  go_wp2_with fail
  refine (dvCounted_any id 0 _).mono ?_
  rintro e w2 ⟨rfl, hb2⟩
  have O2 := O.below hb2 O.lt
  have HF := hide (below_row (HB.out.trans (hb2.mono HB.out.size)) (g := W.heap.size) (Nat.le_refl _) (oc (Ob.dev id 0)))
  clear hb2 O hw hs
  go_wp2_with (first | (refine store_ob rfl _ _ rfl rfl (c := Ob.dev id 0) rfl O2 rfl ?_) | fail)
  refine bodyPost_ret (ret_ob rfl _ rfl (O2.row_same _)) rfl ?_
  exact ⟨rfl, HF.out⟩
set_option maxRecDepth 100000 in
set_option maxHeartbeats 4000000 in
theorem refDvNew_any (id : Int) (W : World) : Calls Try.prog 7 #[.int .u64 id] W (DnPost (oc (Ob.dev id 0)) W) := by
  obtain ⟨w1, hw, O, hb, hs⟩ := start_z W
  have HB := hide hb
  clear hb
  go_enter Try.func7, Try.ntmps7
  go_wp2_with (first | (refine store_ob rfl _ _ rfl rfl (c := Ob.dev id 0) rfl O rfl ?_) | fail)
  refine bodyPost_ret (ret_ob rfl _ rfl (O.row_same _)) rfl ?_
  exact ⟨rfl, below_row HB.out (Nat.le_refl _) _⟩
set_option maxRecDepth 100000 in
set_option maxHeartbeats 4000000 in
theorem dvDo_any (o : Ob) (v : Int) (W : World) : Calls Try.prog 10 #[.agg (oc o), .int .i64 v] W (DvGives (ifOk o.dvErr o.count) (okOb o.dvErr (Ob.dev o.id (IntKind.i64.wrap (o.count + v)))) o.dvErr W) := by
  obtain ⟨w1, hw, O, OR, hb, hs⟩ := start_oz W o
  have HB := hide hb
  obtain ⟨n2, hn2⟩ : ∃ n2, IntKind.i64.wrap (o.count + v) = n2 := ⟨_, rfl⟩
  rw [hn2]
  clear hb
  go_enter Try.func10, Try.ntmps10
  go_wp2_with (first | (refine load_ob rfl _ rfl rfl O ?_) | fail)
  refine (dvValid_any o _).mono ?_
  rintro e w2 ⟨rfl, hb2⟩
  replace O := O.below hb2 O.lt
  replace OR := OR.below hb2 OR.lt
  replace HB := hide (HB.out.trans (hb2.mono HB.out.size))
  clear hb2 hw hs
  by_cases hp : o.Dev
  · have HE : Hid (o.dvErr = 0) := hide (by unfold Ob.dvErr; rw [if_pos hp])
    rw [decide_eq_true hp]
    clear hp
    go_upto_region 3 with (fail)
    refine region_B (by kernel_rfl) (W.heap.size + 1) ?_
    replace O : Obl w2.drew W.heap.size 41 (oc o) := O
    replace OR : Obl w2.drew (W.heap.size + 1) 41 (oc Ob.zero) := OR
    replace HB : Hid (Below W.heap.size W w2.drew) := hide ⟨HB.out.os, HB.out.tape, HB.out.output, HB.out.size, HB.out.block⟩
    generalize w2.drew = u0 at *
    have hOl : W.heap.size < W.heap.size + 1 := by omega
    have hRl := OR.lt
    refine takeB 0 rfl (by kernel_rfl) (fun _ _ _ h => h) (by rfl) (by intro w' hg; go_simp; try with_reducible rfl) ?_
    refine takeB 1 rfl (by kernel_rfl) (fun _ _ _ h => h) (by rfl) (by intro w' hg; have k34 : w'.cell? ⟨W.heap.size, 34, none⟩ = some (.int .i64 o.count) := (O.below hg hOl).cell 34; go_simp; try with_reducible rfl) ?_
    go_simp
    refine takeB 2 rfl (by kernel_rfl) (fun _ _ _ h => h) (by rfl) (by intro w' hg; go_simp; try with_reducible rfl) ?_
    refine takeB 3 rfl (by kernel_rfl) (fun _ _ _ h => h) (by rfl) (by intro w' hg; have k0 : w'.cell? ⟨W.heap.size, 0, none⟩ = some (.int .u64 o.id) := (O.below hg hOl).cell 0; go_simp; try with_reducible rfl) ?_
    go_simp
    refine takeB 4 rfl (by kernel_rfl) (fun _ _ _ h => h) (by rfl) (by intro w' hg; go_simp; try with_reducible rfl) ?_
    refine takeB 5 rfl (by kernel_rfl) (fun _ _ _ h => h) (by rfl) (by intro w' hg; have k34 : w'.cell? ⟨W.heap.size, 34, none⟩ = some (.int .i64 o.count) := (O.below hg hOl).cell 34; go_simp; try with_reducible rfl) ?_
    go_simp
    refine takeB 6 rfl (by kernel_rfl) (fun _ _ _ h => h) (by rfl) (by intro w' hg; go_simp; try with_reducible rfl) ?_
    refine takeB 7 rfl (by kernel_rfl) (fun _ _ _ h => h) (by rfl) (by intro w' hg; go_simp; try with_reducible rfl) ?_
    go_simp
    go_simp
    refine onlyB 8 rfl (by kernel_rfl) (by rfl) ?_
    intro K hK
    go_simp
    refine (dvCounted_any o.id n2 _).mono ?_
    rintro e v1 ⟨rfl, hb1⟩
    replace O := O.below hb1 O.lt
    replace OR := OR.below hb1 OR.lt
    replace HB := hide (HB.out.trans (hb1.mono HB.out.size))
    refine hK _ _ (hb1.mono (Nat.le_of_lt hRl)) ?_
    clear hK K hb1
    go_simp
    refine takeB 9 rfl (by kernel_rfl) (fun _ _ _ h => h) (by rfl) (by intro w' hg; go_simp; try with_reducible rfl) ?_
    go_simp
    refine onlyB 10 rfl (by kernel_rfl) (by rfl) ?_
    intro K hK
    refine wp_store_dob rfl rfl (c := Ob.dev o.id n2) rfl OR rfl ?_
    refine hK _ _ (below_row (Below.refl _ _) (Nat.le_refl _) _) ?_
    clear hK K
    go_simp
    refine takeB 11 rfl (by kernel_rfl) (fun _ _ _ h => h) (by rfl) (by intro w' hg; go_simp; try with_reducible rfl) ?_
    refine doneB (by kernel_rfl) ?_
    go_simp
    go_wp2_with fail
    refine bodyPost_ret (ret_dv rfl _ rfl (OR.row_same _)) rfl ?_
    exact ⟨by rw [HE.out]; rfl, below_row HB.out (by omega) _⟩
  · have HE : Hid (o.dvErr = 1) := hide (by unfold Ob.dvErr; rw [if_neg hp])
    rw [decide_eq_false hp]
    have HF := hide (below_row HB.out (g := W.heap.size + 1) (by omega) (oc Ob.zero))
    clear hp hn2
    go_wp2_with (first | (refine store_ob rfl _ _ rfl rfl (c := Ob.zero) rfl OR rfl ?_) | fail)
    refine bodyPost_ret (ret_dv rfl _ rfl (OR.row_same _)) rfl ?_
    exact ⟨by rw [HE.out]; rfl, HF.out⟩
set_option maxRecDepth 100000 in
set_option maxHeartbeats 4000000 in
theorem refDvDo_any (o : Ob) (v : Int) (W : World) : Calls Try.prog 11 #[.agg (oc o), .int .i64 v] W (DvGives (ifOk o.dvErr o.count) (okOb o.dvErr { o with count := IntKind.i64.wrap (o.count + v) }) o.dvErr W) := by
  obtain ⟨w1, hw, O, OR, hb, hs⟩ := start_oz W o
  have HB := hide hb
  obtain ⟨n2, hn2⟩ : ∃ n2, IntKind.i64.wrap (o.count + v) = n2 := ⟨_, rfl⟩
  rw [hn2]
  clear hb
  go_enter Try.func11, Try.ntmps11
  go_wp2_with (first | (refine load_ob rfl _ rfl rfl O ?_) | fail)
  refine (refDvValid_any o _).mono ?_
  rintro e w2 ⟨rfl, hb2⟩
  replace O := O.below hb2 O.lt
  replace OR := OR.below hb2 OR.lt
  replace HB := hide (HB.out.trans (hb2.mono HB.out.size))
  clear hb2 hw hs
  by_cases hp : o.Dev
  · have HE : Hid (o.dvErr = 0) := hide (by unfold Ob.dvErr; rw [if_pos hp])
    rw [decide_eq_true hp]
    clear hp
    have k34 : w2.cell? ⟨W.heap.size, 34, none⟩ = some (.int .i64 o.count) := O.cell 34
    have z34 := O.free 34
    have O3 := O.put 34 (.int .i64 n2)
    have R3 := OR.put_other (b' := W.heap.size) (by omega) 34 (.int .i64 n2)
    have HB3 := hide (HB.out.setCell (p := ⟨W.heap.size, 34, none⟩) (Nat.le_refl _) (.int .i64 n2))
    obtain ⟨w3, hw3⟩ : ∃ w3, w2.setCell ⟨W.heap.size, 34, none⟩ (.int .i64 n2) = w3 := ⟨_, rfl⟩
    rw [hw3] at O3 R3 HB3
    replace O3 : Obl w3 W.heap.size 41 (oc { o with count := n2 }) := O3
    obtain ⟨y, hy⟩ : ∃ y, ({ o with count := n2 } : Ob) = y := ⟨_, rfl⟩
    have HY := hide hy
    rw [hy] at O3 ⊢
    clear hy HB OR O
    have O := O3
    have OR := R3
    have HB := HB3
    clear O3 R3 HB3
    go_upto_region 5 with (fail)
    clear hw3
    refine region_B (by kernel_rfl) (W.heap.size + 1) ?_
    replace O : Obl w3.drew W.heap.size 41 (oc y) := O
    replace OR : Obl w3.drew (W.heap.size + 1) 41 (oc Ob.zero) := OR
    replace HB : Hid (Below W.heap.size W w3.drew) := hide ⟨HB.out.os, HB.out.tape, HB.out.output, HB.out.size, HB.out.block⟩
    generalize w3.drew = u0 at *
    have hOl : W.heap.size < W.heap.size + 1 := by omega
    have hRl := OR.lt
    refine takeB 0 rfl (by kernel_rfl) (fun _ _ _ h => h) (by rfl) (by intro w' hg; go_simp; try with_reducible rfl) ?_
    refine takeB 1 rfl (by kernel_rfl) (fun _ _ _ h => h) (by rfl) (by intro w' hg; exact exec_load_ob rfl rfl (O.below hg hOl)) ?_
    refine takeB 2 rfl (by kernel_rfl) (fun _ _ _ h => h) (by rfl) (by intro w' hg; go_simp; try with_reducible rfl) ?_
    go_simp
    refine onlyB 3 rfl (by kernel_rfl) (by rfl) ?_
    intro K hK
    refine wp_store_dob rfl rfl (c := y) rfl OR rfl ?_
    refine hK _ _ (below_row (Below.refl _ _) (Nat.le_refl _) _) ?_
    clear hK K
    go_simp
    refine takeB 4 rfl (by kernel_rfl) (fun _ _ _ h => h) (by rfl) (by intro w' hg; go_simp; try with_reducible rfl) ?_
    refine doneB (by kernel_rfl) ?_
    go_simp
    go_wp2_with fail
    refine bodyPost_ret (ret_dv rfl _ rfl (OR.row_same _)) rfl ?_
    exact ⟨by rw [HE.out, ← HY.out]; rfl, below_row HB.out (by omega) _⟩
  · have HE : Hid (o.dvErr = 1) := hide (by unfold Ob.dvErr; rw [if_neg hp])
    rw [decide_eq_false hp]
    have HF := hide (below_row HB.out (g := W.heap.size + 1) (by omega) (oc Ob.zero))
    clear hp hn2
    go_wp2_with (first | (refine store_ob rfl _ _ rfl rfl (c := Ob.zero) rfl OR rfl ?_) | fail)
    refine bodyPost_ret (ret_dv rfl _ rfl (OR.row_same _)) rfl ?_
    exact ⟨by rw [HE.out]; rfl, HF.out⟩
/-- One answer for both. -/
def DvAns (id c n r : Int) (w : World) (e : Ending) (w' : World) : Prop := ∃ y, e = .returned (.tuple #[.int .i64 (ifOk r c), .agg (oc y), .int .i64 r]) ∧ SmLike y (ifOk r id) (ifOk r 9) (ifOk r n) ∧ Below w.heap.size w w'
theorem dvlike_ok {y : Ob} {id n : Int} (r : Int) (h : r = 0 → SmLike y id 9 n) : SmLike (okOb r y) (ifOk r id) (ifOk r 9) (ifOk r n) := by
  unfold okOb ifOk
  by_cases h0 : r = 0
  · simp only [if_pos h0]; exact h h0
  · simp only [if_neg h0]; exact like_none
theorem dvErr_0 {o : Ob} (h : o.dvErr = 0) : o.Dev := by
  by_cases hp : o.Dev
  · exact hp
  · unfold Ob.dvErr at h; rw [if_neg hp] at h; omega
theorem dvDo_ans (o : Ob) (v : Int) (W : World) : Calls Try.prog 10 #[.agg (oc o), .int .i64 v] W (DvAns o.id o.count (IntKind.i64.wrap (o.count + v)) o.dvErr W) :=
  (dvDo_any o v W).mono fun _ _ h => ⟨_, h.1, dvlike_ok _ fun _ => like_dev _ _, h.2⟩
theorem refDvDo_ans (o : Ob) (v : Int) (W : World) : Calls Try.prog 11 #[.agg (oc o), .int .i64 v] W (DvAns o.id o.count (IntKind.i64.wrap (o.count + v)) o.dvErr W) :=
  (refDvDo_any o v W).mono fun _ _ h => ⟨_, h.1, dvlike_ok _ fun h0 => like_dcount (dvErr_0 h0) _, h.2⟩
theorem dvDo_ok {id n v : Int} (hid : id ≠ 0) (W : World) : Calls Try.prog 10 #[.agg (oc (Ob.dev id n)), .int .i64 v] W (DvGives n (Ob.dev id (IntKind.i64.wrap (n + v))) 0 W) := by
  have h := dvDo_any (Ob.dev id n) v W
  rw [dev_dvErr hid] at h
  exact h
end Go.Proofs.Ytddbohnappogkaa
