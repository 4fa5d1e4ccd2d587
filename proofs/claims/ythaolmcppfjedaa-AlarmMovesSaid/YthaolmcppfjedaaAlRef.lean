/- Layer 15, the reference: Set, Tick: contracts. -/
import Derived.Test.YthaolmcppfjedaaSgRef
namespace Go.Proofs.Ythaolmcppfjedaa
open Go.RowKit

/-- The error of a number of ticks. -/
def alErr (n : Int) : Int := if n < 0 ∨ 1073741824 < n then 2 else 0
def Ob.armed (o : Ob) (n : Int) : Ob := { o with alarm := n }
/-- What was left, this very process, an error. -/
def SetAt (o : Ob) (n : Int) (w : World) (e : Ending) (w' : World) : Prop :=
  ((alErr n ≠ 0 ∧ e = .returned (.tuple #[.int .i64 0, .agg (pcell Ob.zero), .int .i64 (alErr n)])) ∨ (alErr n = 0 ∧ e = .returned (.tuple #[.int .i64 o.alarm, .agg (pcell (o.armed n)), .int .i64 0]))) ∧ Below w.heap.size w w'
theorem SetAt.no {o : Ob} {n : Int} {w w' : World} {e : Ending} (h : alErr n = 2) (he : e = .returned (.tuple #[.int .i64 0, .agg (pcell Ob.zero), .int .i64 2])) (hb : Below w.heap.size w w') : SetAt o n w e w' := ⟨.inl ⟨by rw [h]; decide, by rw [h]; exact he⟩, hb⟩
theorem SetAt.yes {o y : Ob} {n : Int} {w w' : World} {e : Ending} (h : alErr n = 0) (hy : o.armed n = y) (he : e = .returned (.tuple #[.int .i64 o.alarm, .agg (pcell y), .int .i64 0])) (hb : Below w.heap.size w w') : SetAt o n w e w' := by subst hy; exact ⟨.inr ⟨h, he⟩, hb⟩
set_option maxRecDepth 100000 in
set_option maxHeartbeats 4000000 in
theorem refAlSet_at (o : Ob) (n : Int) (W : World) : Calls Try.prog 9 #[.agg (pcell o), .int .i64 n] W (SetAt o n W) := by
  obtain ⟨w0, hw0, P0, Q0, hb0, hs0⟩ := start_pp W o
  have HB0 := hide hb0
  have k18 : w0.cell? ⟨W.heap.size, 18, none⟩ = some (.int .i64 o.alarm) := P0.cell 18
  have z18 := P0.free 18
  clear hb0 hs0
  by_cases h1 : n < 0
  · have HE : Hid (alErr n = 2) := hide (if_pos (.inl h1))
    go_enter Try.func9, Try.ntmps9
    go_wp2_with (first | (refine wpList_val (by rfl) (exec_build rfl rfl built_pzero) ?_) | (refine store_proc rfl _ _ rfl rfl (c := Ob.zero) rfl Q0 rfl ?_) | fail)
    refine bodyPost_ret (ret_tproc3 rfl _ rfl (Q0.row_same _)) rfl ?_
    exact SetAt.no HE.out rfl (below_row HB0.out (by omega) _)
  by_cases h2 : 1073741824 < n
  · have HE : Hid (alErr n = 2) := hide (if_pos (.inr h2))
    go_enter Try.func9, Try.ntmps9
    go_wp2_with (first | (refine wpList_val (by rfl) (exec_build rfl rfl built_pzero) ?_) | (refine store_proc rfl _ _ rfl rfl (c := Ob.zero) rfl Q0 rfl ?_) | fail)
    refine bodyPost_ret (ret_tproc3 rfl _ rfl (Q0.row_same _)) rfl ?_
    exact SetAt.no HE.out rfl (below_row HB0.out (by omega) _)
  have HE : Hid (alErr n = 0) := hide (if_neg (by omega))
  obtain ⟨y, hy⟩ : ∃ y, o.armed n = y := ⟨_, rfl⟩
  have P2 : Obl (w0.setCell ⟨W.heap.size, 18, none⟩ (.int .i64 n)) W.heap.size 34 (pcell y) := by
    have h := P0.put 18 (.int .i64 n); rw [← hy]; simpa [pcell, pcs, Ob.armed] using h
  have Q2 := Q0.put_other (b' := W.heap.size) (by omega) 18 (.int .i64 n)
  have HB2 := hide (HB0.out.setCell (p := ⟨W.heap.size, 18, none⟩) (Nat.le_refl _) (.int .i64 n))
  obtain ⟨w1, hw1⟩ : ∃ w1, w0.setCell ⟨W.heap.size, 18, none⟩ (.int .i64 n) = w1 := ⟨_, rfl⟩
  rw [hw1] at P2 Q2 HB2
  have HY := hide hy
  clear hy HB0 P0 Q0
  go_enter Try.func9, Try.ntmps9
  go_wp2_with fail
  refine region_C (by kernel_rfl) (W.heap.size + 1) [3] ?_
  replace P2 : Obl w1.drew W.heap.size 34 (pcell y) := P2
  replace Q2 : Obl w1.drew (W.heap.size + 1) 34 (pcell Ob.zero) := Q2
  replace HB2 : Hid (Below W.heap.size W w1.drew) := hide HB2.out.drew
  clear hw1 hw0 k18 z18
  generalize w1.drew = u0 at *
  refine takeX 0 rfl (by kernel_rfl) (fun _ _ _ h => h) (by rfl) (by intro w'; go_simp; try with_reducible rfl) ?_
  refine takeC 1 [1, 3, 4] rfl (by kernel_rfl) (fun _ _ _ h => h) (by rfl) (by intro w' hg; exact exec_load_proc0 rfl rfl (P2.below hg (Nat.lt_succ_self _))) ?_
  refine takeX 2 rfl (by kernel_rfl) (fun _ _ _ h => h) (by rfl) (by intro w'; go_simp; try with_reducible rfl) ?_
  go_simp
  refine onlyC 3 rfl (by kernel_rfl) (by rfl) ?_
  intro K hK
  refine wp_store_proc rfl rfl (c := y) rfl Q2 rfl ?_
  refine hK _ _ (fun h => absurd h (by decide)) ?_
  clear hK K
  refine takeX 4 rfl (by kernel_rfl) (fun _ _ _ h => h) (by rfl) (by intro w'; go_simp; try with_reducible rfl) ?_
  refine doneC (by kernel_rfl) ?_
  go_simp
  go_wp2_with fail
  refine bodyPost_ret (ret_tproc3 rfl _ rfl (Q2.row_same _)) rfl ?_
  exact SetAt.yes HE.out HY.out rfl (below_row HB2.out (g := W.heap.size + 1) (by omega) (pcell y))
/-- The process behind n ticks, and the error. -/
def Ob.ticked (o : Ob) (n : Int) : Ob := if o.alarm = 0 ∨ (o.state ≠ 1 ∧ o.state ≠ 2) then o else if n < o.alarm then o.armed (o.alarm - n) else (o.armed 0).raise 14
theorem ProcAt.of {b y : Ob} {r : Int} {w w' : World} {e : Ending} (h : r = 0) (hy : b = y) (he : e = .returned (.tuple #[.agg (pcell y), .int .i64 0])) (hb : Below w.heap.size w w') : ProcAt b r w e w' := by subst hy; subst h; exact ⟨_, he, .inr ⟨rfl, rfl⟩, hb⟩
set_option maxRecDepth 100000 in
set_option maxHeartbeats 4000000 in
theorem refAlTick_at (o : Ob) (n : Int) (W : World) (ha : -9223372036854775808 ≤ o.alarm ∧ o.alarm ≤ 9223372036854775807) : Calls Try.prog 11 #[.agg (pcell o), .int .i64 n] W (ProcAt (o.ticked n) (alErr n) W) := by
  obtain ⟨w0, hw0, P0, Q0, hb0, hs0⟩ := start_pp W o
  have HB0 := hide hb0
  have k0 : w0.cell? ⟨W.heap.size, 0, none⟩ = some (.int .i64 o.state) := P0.cell 0
  have k18 : w0.cell? ⟨W.heap.size, 18, none⟩ = some (.int .i64 o.alarm) := P0.cell 18
  have z18 := P0.free 18
  clear hb0 hs0
  by_cases h1 : n < 0
  · have HE : Hid (alErr n = 2) := hide (if_pos (.inl h1))
    go_enter Try.func11, Try.ntmps11
    go_wp2_with (first | (refine wpList_val (by rfl) (exec_build rfl rfl built_pzero) ?_) | (refine store_proc rfl _ _ rfl rfl (c := Ob.zero) rfl Q0 rfl ?_) | fail)
    refine bodyPost_ret (ret_proc2 rfl _ rfl (Q0.row_same _)) rfl ?_
    exact ⟨Ob.zero, by rw [HE.out]; rfl, .inl ⟨by rw [HE.out]; decide, rfl⟩, below_row HB0.out (by omega) _⟩
  by_cases h2 : 1073741824 < n
  · have HE : Hid (alErr n = 2) := hide (if_pos (.inr h2))
    go_enter Try.func11, Try.ntmps11
    go_wp2_with (first | (refine wpList_val (by rfl) (exec_build rfl rfl built_pzero) ?_) | (refine store_proc rfl _ _ rfl rfl (c := Ob.zero) rfl Q0 rfl ?_) | fail)
    refine bodyPost_ret (ret_proc2 rfl _ rfl (Q0.row_same _)) rfl ?_
    exact ⟨Ob.zero, by rw [HE.out]; rfl, .inl ⟨by rw [HE.out]; decide, rfl⟩, below_row HB0.out (by omega) _⟩
  have HE : Hid (alErr n = 0) := hide (if_neg (by omega))
  obtain ⟨al, hal⟩ : ∃ a, o.alarm = a := ⟨_, rfl⟩
  obtain ⟨sta, hst⟩ : ∃ a, o.state = a := ⟨_, rfl⟩
  rw [hal] at k18 ha
  rw [hst] at k0
  have HA := hide hal
  have HS := hide hst
  clear hal hst
  by_cases h0 : al = 0
  · subst h0
    have HT : Hid (o.ticked n = o) := hide (by unfold Ob.ticked; rw [if_pos (.inl HA.out)])
    go_enter Try.func11, Try.ntmps11
    go_wp2_with (first | (refine load_proc0 rfl _ rfl rfl P0 ?_) | (refine store_proc rfl _ _ rfl rfl (c := o) rfl Q0 rfl ?_) | fail)
    refine bodyPost_ret (ret_proc2 rfl _ rfl (Q0.row_same _)) rfl ?_
    exact ProcAt.of HE.out HT.out rfl (below_row HB0.out (by omega) _)
  have b0 : (al == 0) = false := by simpa using h0
  by_cases hs : sta ≠ 1 ∧ sta ≠ 2
  · have HT : Hid (o.ticked n = o) := hide (by unfold Ob.ticked; rw [if_pos (.inr (by rw [HS.out]; exact hs))])
    have b1 : (sta != 1) = true := by simp; omega
    have b2 : (sta != 2) = true := by simp; omega
    clear hs
    go_enter Try.func11, Try.ntmps11
    go_wp2_with (first | (refine load_proc0 rfl _ rfl rfl P0 ?_) | (refine store_proc rfl _ _ rfl rfl (c := o) rfl Q0 rfl ?_) | fail)
    refine bodyPost_ret (ret_proc2 rfl _ rfl (Q0.row_same _)) rfl ?_
    exact ProcAt.of HE.out HT.out rfl (below_row HB0.out (by omega) _)
  by_cases hn : n < al
  · obtain ⟨y, hy⟩ : ∃ y, o.armed (al - n) = y := ⟨_, rfl⟩
    have HT : Hid (o.ticked n = y) := hide (by unfold Ob.ticked; rw [if_neg (by rw [HA.out, HS.out]; rintro (h | h); exact h0 h; exact hs h), HA.out, if_pos hn, hy])
    have P2 : Obl (w0.setCell ⟨W.heap.size, 18, none⟩ (.int .i64 (al - n))) W.heap.size 34 (pcell y) := by
      have h := P0.put 18 (.int .i64 (al - n)); rw [← hy]; simpa [pcell, pcs, Ob.armed] using h
    have Q2 := Q0.put_other (b' := W.heap.size) (by omega) 18 (.int .i64 (al - n))
    have HB2 := hide (HB0.out.setCell (p := ⟨W.heap.size, 18, none⟩) (Nat.le_refl _) (.int .i64 (al - n)))
    obtain ⟨w1, hw1⟩ : ∃ w1, w0.setCell ⟨W.heap.size, 18, none⟩ (.int .i64 (al - n)) = w1 := ⟨_, rfl⟩
    rw [hw1] at P2 Q2 HB2
    have hss : sta = 1 ∨ sta = 2 := by omega
    clear hy HB0 P0 Q0 hs h0
    rcases hss with rfl | rfl
    all_goals
      go_enter Try.func11, Try.ntmps11
      go_wp2_with (first | (refine load_proc0 rfl _ rfl rfl P2 ?_) | (refine store_proc rfl _ _ rfl rfl (c := y) rfl Q2 rfl ?_) | fail)
      refine bodyPost_ret (ret_proc2 rfl _ rfl (Q2.row_same _)) rfl ?_
      exact ProcAt.of HE.out HT.out rfl (below_row HB2.out (by omega) _)
  · obtain ⟨y, hy⟩ : ∃ y, o.armed 0 = y := ⟨_, rfl⟩
    have HT : Hid (o.ticked n = y.raise 14) := hide (by unfold Ob.ticked; rw [if_neg (by rw [HA.out, HS.out]; rintro (h | h); exact h0 h; exact hs h), HA.out, if_neg hn, hy])
    have HR : Hid (y.raiseErr 14 = 0) := hide (by unfold Ob.raiseErr; rw [if_pos (by decide), ← hy, if_pos (show (o.armed 0).state = 1 ∨ (o.armed 0).state = 2 by show o.state = 1 ∨ o.state = 2; rw [HS.out]; omega)])
    have P2 : Obl (w0.setCell ⟨W.heap.size, 18, none⟩ (.int .i64 0)) W.heap.size 34 (pcell y) := by
      have h := P0.put 18 (.int .i64 0); rw [← hy]; simpa [pcell, pcs, Ob.armed] using h
    have Q2 := Q0.put_other (b' := W.heap.size) (by omega) 18 (.int .i64 0)
    have HB2 := hide (HB0.out.setCell (p := ⟨W.heap.size, 18, none⟩) (Nat.le_refl _) (.int .i64 0))
    obtain ⟨w1, hw1⟩ : ∃ w1, w0.setCell ⟨W.heap.size, 18, none⟩ (.int .i64 0) = w1 := ⟨_, rfl⟩
    rw [hw1] at P2 Q2 HB2
    have hss : sta = 1 ∨ sta = 2 := by omega
    clear hy HB0 P0 Q0 hs h0
    rcases hss with rfl | rfl
    all_goals
      go_enter Try.func11, Try.ntmps11
      go_wp2_with (first | (refine load_proc0 rfl _ rfl rfl P2 ?_) | fail)
      refine (refSgRaise_at y 14 _).mono ?_
      intro e w2 hp
      rw [HR.out] at hp
      obtain ⟨a, rfl, ha2, hb2⟩ := hp
      have HY2 : Hid (a = y.raise 14) := hide (ha2.elim (fun h => absurd rfl h.1) (fun h => h.2))
      have Q3 := Q2.below hb2 Q2.lt
      have HB3 := hide (HB2.out.trans (hb2.mono HB2.out.size))
      clear ha2 hb2 Q2 P2 HB2
      go_wp2_with (first | (refine store_proc rfl _ _ rfl rfl (c := a) rfl Q3 rfl ?_) | fail)
      refine bodyPost_ret (ret_proc2 rfl _ rfl (Q3.row_same _)) rfl ?_
      exact ProcAt.of HE.out (HT.out.trans HY2.out.symm) rfl (below_row HB3.out (by omega) _)
end Go.Proofs.Ythaolmcppfjedaa
