/- Layer 14, the reference: contracts. -/
import Derived.Test.YtjdbljbghpmacaaSgMath
import Derived.Test.YtjdbljbghpmacaaRegionD
namespace Go.Proofs.Ytjdbljbghpmacaa
open Go.RowKit

/-- The end of a call that gives back a process with the lists that came in. -/
theorem proc_kept {W w' : World} {b y : Ob} {X : Cont} {r : Int} (hr : r = 0) (h : HoldsP W W.heap.size y X) (e : AlikeP y b) (hb : Below W.heap.size W w') : PAns w' y b r X := .inr ⟨hr, e, h.later hb⟩
set_option maxRecDepth 100000 in
set_option maxHeartbeats 8000000 in
theorem refSgRaise_any (o : Ob) (s : Int) (X : Cont) (W : World) (h : HoldsP W W.heap.size o X) : Calls Try.prog 9 #[.agg (pcell o), .int .i64 s] W (ProcErr (o.raise s) (o.raiseErr s) X W) := by
  obtain ⟨w0, hw0, P0, Q0, hb0, hs0⟩ := start_pp W o
  have HB0 := hide hb0
  have H0 := hide h
  have k0 : w0.cell? ⟨W.heap.size, 0, none⟩ = some (.int .i64 o.state) := P0.cell 0
  have k17 : w0.cell? ⟨W.heap.size, 17, none⟩ = some (.int .i64 o.pending) := P0.cell 17
  have z0 := P0.free 0
  have z17 := P0.free 17
  clear hb0 h hs0
  by_cases h1 : s < 1
  · have HE : Hid (o.raiseErr s = 2) := hide (by unfold Ob.raiseErr; rw [if_neg (by omega)])
    go_enter Try.func9, Try.ntmps9
    go_wp2_with (first | (refine store_proc rfl _ _ rfl rfl (c := Ob.zero) rfl Q0 rfl ?_) | fail)
    refine bodyPost_ret (ret_proc2 rfl _ rfl (Q0.row_same _)) rfl ?_
    exact ⟨Ob.zero, by rw [HE.out]; rfl, .inl ⟨by rw [HE.out]; decide, rfl⟩, below_row HB0.out (by omega) _⟩
  by_cases h31 : 31 < s
  · have HE : Hid (o.raiseErr s = 2) := hide (by unfold Ob.raiseErr; rw [if_neg (by omega)])
    go_enter Try.func9, Try.ntmps9
    go_wp2_with (first | (refine store_proc rfl _ _ rfl rfl (c := Ob.zero) rfl Q0 rfl ?_) | fail)
    refine bodyPost_ret (ret_proc2 rfl _ rfl (Q0.row_same _)) rfl ?_
    exact ⟨Ob.zero, by rw [HE.out]; rfl, .inl ⟨by rw [HE.out]; decide, rfl⟩, below_row HB0.out (by omega) _⟩
  have hs : 1 ≤ s ∧ s ≤ 31 := by omega
  by_cases hst : o.state = 1 ∨ o.state = 2
  case neg =>
    have HE : Hid (o.raiseErr s = 6) := hide (by unfold Ob.raiseErr; rw [if_pos hs, if_neg hst])
    have b1 : (o.state != 1) = true := by simp; omega
    have b2 : (o.state != 2) = true := by simp; omega
    clear hst
    go_enter Try.func9, Try.ntmps9
    go_wp2_with (first | (refine store_proc rfl _ _ rfl rfl (c := Ob.zero) rfl Q0 rfl ?_) | fail)
    refine bodyPost_ret (ret_proc2 rfl _ rfl (Q0.row_same _)) rfl ?_
    exact ⟨Ob.zero, by rw [HE.out]; rfl, .inl ⟨by rw [HE.out]; decide, rfl⟩, below_row HB0.out (by omega) _⟩
  have HE : Hid (o.raiseErr s = 0) := hide (by unfold Ob.raiseErr; rw [if_pos hs, if_pos hst])
  have HR := hide ((AlikeP.refl o).raise s)
  have HH := hide (H0.out.raise s)
  by_cases h9 : s = 9
  · subst h9
    by_cases hs1 : o.state = 1
    · have HY : Hid (({ o with state := 2, status := -9 } : Ob) = o.raise 9) := hide (by unfold Ob.raise; rw [if_pos rfl, if_pos hs1])
      obtain ⟨y, hy⟩ : ∃ y, ({ o with state := 2, status := -9 } : Ob) = y := ⟨_, rfl⟩
      rw [hs1] at k0
      have P2 : Obl ((w0.setCell ⟨W.heap.size, 0, none⟩ (.int .i64 2)).setCell ⟨W.heap.size, 19, none⟩ (.int .i64 (-9))) W.heap.size 34 (pcell y) := by
        have h := (P0.put 0 (.int .i64 2)).put 19 (.int .i64 (-9)); rw [← hy]; simpa [pcell, pcs] using h
      have Q2 := (Q0.put_other (b' := W.heap.size) (by omega) 0 (.int .i64 2)).put_other (b' := W.heap.size) (by omega) 19 (.int .i64 (-9))
      have HB2 := hide ((HB0.out.setCell (p := ⟨W.heap.size, 0, none⟩) (Nat.le_refl _) (.int .i64 2)).setCell (p := ⟨W.heap.size, 19, none⟩) (Nat.le_refl _) (.int .i64 (-9)))
      obtain ⟨w1, hw1⟩ : ∃ w1, w0.setCell ⟨W.heap.size, 0, none⟩ (.int .i64 2) = w1 := ⟨_, rfl⟩
      have y19 := (P0.put 0 (.int .i64 2)).free 19
      have c19 : (w0.setCell ⟨W.heap.size, 0, none⟩ (.int .i64 2)).cell? ⟨W.heap.size, 19, none⟩ = some (.int .i64 o.status) := (P0.put 0 (.int .i64 2)).cell 19
      rw [hw1] at P2 Q2 HB2 y19 c19
      obtain ⟨w2, hw2⟩ : ∃ w2, w1.setCell ⟨W.heap.size, 19, none⟩ (.int .i64 (-9)) = w2 := ⟨_, rfl⟩
      rw [hw2] at P2 Q2 HB2
      rw [hy] at HY
      clear hy hs1 HB0 P0 Q0 hst k17
      go_enter Try.func9, Try.ntmps9
      go_wp2_with (first | (refine load_proc0 rfl _ rfl rfl P2 ?_) | (refine store_proc rfl _ _ rfl rfl (c := y) rfl Q2 rfl ?_) | fail)
      refine bodyPost_ret (ret_proc2 rfl _ rfl (Q2.row_same _)) rfl ?_
      have hb := below_row HB2.out (g := W.heap.size + 1) (by omega) (pcell y)
      exact ⟨y, by rw [HE.out]; rfl, by rw [HY.out]; exact proc_kept HE.out HH.out (AlikeP.refl _) (by rw [← HY.out]; exact hb), hb⟩
    · have HY : Hid (o = o.raise 9) := hide (by unfold Ob.raise; rw [if_pos rfl, if_neg hs1])
      have hs2 : o.state = 2 := by omega
      rw [hs2] at k0
      clear hs1 hs2 hst k17
      go_enter Try.func9, Try.ntmps9
      go_wp2_with (first | (refine load_proc0 rfl _ rfl rfl P0 ?_) | (refine store_proc rfl _ _ rfl rfl (c := o) rfl Q0 rfl ?_) | fail)
      refine bodyPost_ret (ret_proc2 rfl _ rfl (Q0.row_same _)) rfl ?_
      have hb := below_row HB0.out (g := W.heap.size + 1) (by omega) (pcell o)
      exact ⟨o, by rw [HE.out]; rfl, proc_kept HE.out H0.out (by rw [← HY.out]; exact AlikeP.refl _) hb, hb⟩
  · have b9 : (s != 9) = true := by simpa using h9
    have HY : Hid (({ o with pending := sgOr o.pending s } : Ob) = o.raise s) := hide (by unfold Ob.raise; rw [if_neg h9])
    obtain ⟨y, hy⟩ : ∃ y, ({ o with pending := sgOr o.pending s } : Ob) = y := ⟨_, rfl⟩
    obtain ⟨p, hp⟩ : ∃ p, sgOr o.pending s = p := ⟨_, rfl⟩
    have P2 : Obl (w0.setCell ⟨W.heap.size, 17, none⟩ (.int .i64 p)) W.heap.size 34 (pcell y) := by
      have h := P0.put 17 (.int .i64 p); rw [← hy, hp]; simpa [pcell, pcs] using h
    have Q2 := Q0.put_other (b' := W.heap.size) (by omega) 17 (.int .i64 p)
    have HB2 := hide (HB0.out.setCell (p := ⟨W.heap.size, 17, none⟩) (Nat.le_refl _) (.int .i64 p))
    obtain ⟨w1, hw1⟩ : ∃ w1, w0.setCell ⟨W.heap.size, 17, none⟩ (.int .i64 p) = w1 := ⟨_, rfl⟩
    rw [hw1] at P2 Q2 HB2
    rw [hy] at HY
    unfold sgOr sgBit at hp
    obtain ⟨hs1, hs31⟩ := hs
    clear hy h9 HB0 P0 Q0
    rcases hst with hst | hst
    all_goals
      rw [hst] at k0
      clear hst
      go_enter Try.func9, Try.ntmps9
      go_wp2_with fail
      go_region
      go_wp2_with (first | (refine load_proc0 rfl _ rfl rfl P2.drew ?_) | (refine store_proc rfl _ _ rfl rfl (c := y) rfl Q2.drew rfl ?_) | fail)
      refine bodyPost_ret (ret_proc2 rfl _ rfl (Q2.drew.row_same _)) rfl ?_
      have hb := below_row HB2.out.drew (g := W.heap.size + 1) (by omega) (pcell y)
      exact ⟨y, by rw [HE.out]; rfl, by rw [HY.out]; exact proc_kept HE.out HH.out (AlikeP.refl _) (by rw [← HY.out]; exact hb), hb⟩
set_option maxRecDepth 100000 in
set_option maxHeartbeats 4000000 in
theorem refSgTake_any (o : Ob) (X : Cont) (W : World) (h : HoldsP W W.heap.size o X) : Calls Try.prog 12 #[.agg (pcell o)] W (NumProc o.pending o.taken X W) := by
  obtain ⟨w0, hw0, P0, Q0, hb0, hs0⟩ := start_pp W o
  have HB0 := hide hb0
  have H0 := hide h.taken
  have k17 : w0.cell? ⟨W.heap.size, 17, none⟩ = some (.int .i64 o.pending) := P0.cell 17
  have z17 := P0.free 17
  obtain ⟨y, hy⟩ : ∃ y, o.taken = y := ⟨_, rfl⟩
  have P2 : Obl (w0.setCell ⟨W.heap.size, 17, none⟩ (.int .i64 0)) W.heap.size 34 (pcell y) := by
    have h := P0.put 17 (.int .i64 0); rw [← hy]; simpa [pcell, pcs, Ob.taken] using h
  have Q2 := Q0.put_other (b' := W.heap.size) (by omega) 17 (.int .i64 0)
  have HB2 := hide (HB0.out.setCell (p := ⟨W.heap.size, 17, none⟩) (Nat.le_refl _) (.int .i64 0))
  obtain ⟨w1, hw1⟩ : ∃ w1, w0.setCell ⟨W.heap.size, 17, none⟩ (.int .i64 0) = w1 := ⟨_, rfl⟩
  rw [hw1] at P2 Q2 HB2
  have HY := hide hy
  clear hb0 h hs0 hy HB0 P0 Q0
  go_enter Try.func12, Try.ntmps12
  go_wp2_with fail
  refine region_C (by kernel_rfl) (W.heap.size + 1) [3] ?_
  replace P2 : Obl w1.drew W.heap.size 34 (pcell y) := P2
  replace Q2 : Obl w1.drew (W.heap.size + 1) 34 (pcell Ob.zero) := Q2
  replace HB2 : Hid (Below W.heap.size W w1.drew) := hide HB2.out.drew
  clear hw1 hw0 k17 z17
  generalize w1.drew = u0 at *
  refine takeX 0 rfl (by kernel_rfl) (fun _ _ _ h => h) (by rfl) (by intro w'; go_simp; try with_reducible rfl) ?_
  refine takeC 1 [1, 3] rfl (by kernel_rfl) (fun _ _ _ h => h) (by rfl) (by intro w' hg; exact exec_load_proc0 rfl rfl (P2.below hg (Nat.lt_succ_self _))) ?_
  refine takeX 2 rfl (by kernel_rfl) (fun _ _ _ h => h) (by rfl) (by intro w'; go_simp; try with_reducible rfl) ?_
  go_simp
  refine onlyC 3 rfl (by kernel_rfl) (by rfl) ?_
  intro K hK
  refine wp_store_proc rfl rfl (c := y) rfl Q2 rfl ?_
  refine hK _ _ (fun h => absurd h (by decide)) ?_
  clear hK K
  refine doneC (by kernel_rfl) ?_
  go_simp
  go_wp2_with fail
  refine bodyPost_ret (ret_tproc rfl _ rfl (Q2.row_same _)) rfl ?_
  have hb := below_row HB2.out (g := W.heap.size + 1) (by omega) (pcell y)
  exact ⟨y, rfl, by rw [← HY.out]; exact AlikeP.refl _, by rw [HY.out] at H0; exact H0.out.later hb, hb⟩
set_option maxRecDepth 100000 in
set_option maxHeartbeats 4000000 in
theorem refSgValid_any (p : Int) (hp : -9223372036854775808 ≤ p ∧ p ≤ 9223372036854775807) (W : World) : Calls Try.prog 14 #[.int .i64 p] W (BoolPost (decide (sgValid p)) W) := by
  have HV := hide (sgValid_iff hp)
  clear hp
  by_cases h0 : 0 ≤ p
  case neg =>
    have HF : Hid (decide (sgValid p) = false) := hide (decide_eq_false fun h => h0 (HV.out.1 h).1)
    go_enter Try.func14, Try.ntmps14
    go_wp2_with fail
    go_ret
    exact ⟨by rw [HF.out]; rfl, Below.refl _ _⟩
  by_cases h1 : p < 4294967296
  case neg =>
    have HF : Hid (decide (sgValid p) = false) := hide (decide_eq_false fun h => h1 (HV.out.1 h).2.1)
    go_enter Try.func14, Try.ntmps14
    go_wp2_with fail
    go_ret
    exact ⟨by rw [HF.out]; rfl, Below.refl _ _⟩
  obtain ⟨a, ha⟩ : ∃ a, bits .and .i64 p 1 = a := ⟨_, rfl⟩
  obtain ⟨b, hb⟩ : ∃ b, bits .and .i64 (p / 512) 1 = b := ⟨_, rfl⟩
  by_cases h2 : a = 0
  case neg =>
    have HF : Hid (decide (sgValid p) = false) := hide (decide_eq_false fun h => h2 (ha ▸ (HV.out.1 h).2.2.1))
    have h2' : (a == 0) = false := by simpa using h2
    clear h2
    go_enter Try.func14, Try.ntmps14
    go_wp2_with fail
    go_ret
    exact ⟨by rw [HF.out]; rfl, Below.refl _ _⟩
  have HF : Hid (decide (sgValid p) = (b == 0)) := hide (by
    rw [Bool.eq_iff_iff, decide_eq_true_iff, HV.out, ha, hb]
    simp [h0, h1, h2])
  subst h2
  go_enter Try.func14, Try.ntmps14
  go_wp2_with fail
  go_ret
  exact ⟨by rw [HF.out]; rfl, Below.refl _ _⟩
end Go.Proofs.Ytjdbljbghpmacaa
