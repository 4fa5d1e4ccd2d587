/- Layer 15, package alarm: contracts (and the reference's, with lists). -/
import Derived.Test.YthaolmcppfjedaaAlRef
import Derived.Test.YthaolmcppfjedaaSgOps
import Derived.Test.YthaolmcppfjedaaAlCopy
namespace Go.Proofs.Ythaolmcppfjedaa
open Go.RowKit

def Ob.alLeft (o : Ob) (n : Int) : Int := if alErr n = 0 then o.alarm else 0
/-- What was left, a process and an error. -/
def SetErr (o : Ob) (n : Int) (X : Cont) (w : World) (e : Ending) (w' : World) : Prop := ∃ a, e = .returned (.tuple #[.int .i64 (o.alLeft n), .agg (pcell a), .int .i64 (alErr n)]) ∧ PAns w' a (o.armed n) (alErr n) X ∧ Below w.heap.size w w'
theorem SetErr.no {o : Ob} {n : Int} {X : Cont} {w w' : World} {e : Ending} (h : alErr n = 2) (he : e = .returned (.tuple #[.int .i64 0, .agg (pcell Ob.zero), .int .i64 2])) (hb : Below w.heap.size w w') : SetErr o n X w e w' :=
  ⟨Ob.zero, by rw [he, h]; unfold Ob.alLeft; rw [if_neg (by rw [h]; decide)], .inl ⟨by rw [h]; decide, rfl⟩, hb⟩
theorem SetErr.yes {o y : Ob} {n : Int} {X : Cont} {w w' : World} {e : Ending} (h : alErr n = 0) (he : e = .returned (.tuple #[.int .i64 o.alarm, .agg (pcell y), .int .i64 0])) (hp : AlikeP y (o.armed n)) (hh : HoldsP w' w'.heap.size y X) (hb : Below w.heap.size w w') : SetErr o n X w e w' :=
  ⟨y, by rw [he, h]; unfold Ob.alLeft; rw [if_pos h], .inr ⟨h, hp, hh⟩, hb⟩
theorem AlikeP.armed {a b : Ob} (h : AlikeP a b) (n : Int) : AlikeP (a.armed n) (b.armed n) := ⟨h.1, h.2, h.3, h.4, h.5, rfl, h.7⟩
theorem HoldsP.armed {w : World} {B : Nat} {o : Ob} {X : Cont} (h : HoldsP w B o X) (n : Int) : HoldsP w B (o.armed n) X := ⟨h.1, h.2, h.3, h.4, h.5⟩
theorem HoldsP.ticked {w : World} {B : Nat} {o : Ob} {X : Cont} (h : HoldsP w B o X) (n : Int) : HoldsP w B (o.ticked n) X := by
  unfold Ob.ticked
  split
  · exact h
  · split
    · exact h.armed _
    · exact (h.armed 0).raise 14
theorem AlikeP.ticked {a b : Ob} (h : AlikeP a b) (n : Int) : AlikeP (a.ticked n) (b.ticked n) := by
  unfold Ob.ticked
  rw [h.alarm, h.state]
  split
  · exact h
  · split
    · exact h.armed _
    · exact (h.armed 0).raise 14
theorem refAlSet_any (o : Ob) (n : Int) (X : Cont) (W : World) (h : HoldsP W W.heap.size o X) : Calls Try.prog 9 #[.agg (pcell o), .int .i64 n] W (SetErr o n X W) := by
  refine (refAlSet_at o n W).mono ?_
  rintro e w' ⟨he, hb⟩
  by_cases hz : alErr n = 0
  · rcases he with ⟨h1, _⟩ | ⟨h1, h2⟩
    · exact absurd hz h1
    · exact SetErr.yes h1 h2 (AlikeP.refl _) ((h.armed n).later hb) hb
  · have hz2 : alErr n = 2 := by revert hz; unfold alErr; split <;> simp
    rcases he with ⟨h1, h2⟩ | ⟨h1, _⟩
    · exact SetErr.no hz2 (by rw [h2, hz2]) hb
    · exact absurd h1 hz
theorem refAlTick_any (o : Ob) (n : Int) (X : Cont) (W : World) (ha : -9223372036854775808 ≤ o.alarm ∧ o.alarm ≤ 9223372036854775807) (h : HoldsP W W.heap.size o X) : Calls Try.prog 11 #[.agg (pcell o), .int .i64 n] W (ProcErr (o.ticked n) (alErr n) X W) :=
  (refAlTick_at o n W ha).mono fun _ _ hp => hp.err (h.ticked n)
def ExactBool (b : Bool) (w : World) (e : Ending) (w' : World) : Prop := e = .returned (.bool b) ∧ w' = w
set_option maxRecDepth 100000 in
theorem alIn_yes (n : Int) (W : World) (h0 : 0 ≤ n) (h1 : n ≤ 1073741824) : Calls Try.prog 14 #[.int .i64 n] W (ExactBool true W) := by
  go_enter Try.func14, Try.ntmps14
  go_wp2_with fail
  go_ret
  exact ⟨rfl, rfl⟩
set_option maxRecDepth 100000 in
theorem alIn_no (n : Int) (W : World) (h : n < 0 ∨ 1073741824 < n) : Calls Try.prog 14 #[.int .i64 n] W (ExactBool false W) := by
  by_cases h0 : n < 0
  · clear h
    go_enter Try.func14, Try.ntmps14
    go_wp2_with fail
    go_ret
    exact ⟨rfl, rfl⟩
  · have h1 : 1073741824 < n := by omega
    clear h
    go_enter Try.func14, Try.ntmps14
    go_wp2_with fail
    go_ret
    exact ⟨by simp; omega, rfl⟩
set_option maxRecDepth 100000 in
set_option maxHeartbeats 4000000 in
theorem alSet_any (o : Ob) (n : Int) (X : Cont) (W : World) (h : HoldsP W W.heap.size o X) (hX : X.ShortP) : Calls Try.prog 8 #[.agg (pcell o), .int .i64 n] W (SetErr o n X W) := by
  obtain ⟨w0, hw0, P0, Q0, hb0, hs0⟩ := start_pp W o
  have HB0 := hide hb0
  have H0 := hide h
  have HX := hide hX
  have HL := hide hs0
  clear hb0 h hX hs0
  by_cases hr : n < 0 ∨ 1073741824 < n
  · have HE : Hid (alErr n = 2) := hide (if_pos hr)
    have HR := hide hr
    clear hr
    go_enter Try.func8, Try.ntmps8
    go_wp2_with fail
    refine (alIn_no n _ HR.out).mono ?_
    rintro e v ⟨rfl, hv⟩
    rw [hv]
    clear hv
    go_wp2_with (first | (refine wpList_val (by rfl) (exec_build (t := 34) (vs := []) rfl rfl built_pzero) ?_) | (refine store_proc rfl _ _ rfl rfl (c := Ob.zero) rfl Q0 rfl ?_) | fail)
    refine bodyPost_ret (ret_tproc3 rfl _ rfl (Q0.row_same _)) rfl ?_
    exact SetErr.no HE.out rfl (below_row HB0.out (by omega) _)
  have HE : Hid (alErr n = 0) := hide (if_neg hr)
  have HR : Hid (0 ≤ n ∧ n ≤ 1073741824) := hide (by omega)
  clear hr
  go_enter Try.func8, Try.ntmps8
  go_wp2_with fail
  refine (alIn_yes n _ HR.out.1 HR.out.2).mono ?_
  rintro e v ⟨rfl, hv⟩
  rw [hv]
  clear hv
  go_wp2_with (first | (refine load_proc0 rfl _ rfl rfl P0 ?_) | fail)
  refine (alCopied_any o X w0 ((H0.out.below HB0.out).mono HB0.out.size) HX.out).mono ?_
  rintro e w1 ⟨c, rfl, hst1, hb1⟩
  have HT1 := hide hst1
  have HB1 := hide (HB0.out.trans (hb1.mono HB0.out.size))
  replace Q0 := Q0.below hb1 Q0.lt
  replace P0 := P0.below hb1 P0.lt
  have hg0 := hb1.size
  clear hb1 hst1 HB0
  obtain ⟨w3, hw3, g, hg, w4, hw4, OZ, OG, hb4, hs4⟩ := laid_pp (o.reproc c) w1
  have HF4 := hide (Fr.below (lo := w0.heap.size) hb4)
  have HB4 := hide (HB1.out.trans (hb4.mono HB1.out.size))
  have hgW : w0.heap.size ≤ g := by omega
  have HG := hide hgW
  replace Q0 := Q0.below hb4 Q0.lt
  replace P0 := P0.below hb4 P0.lt
  have c18 : w4.cell? ⟨g, 18, none⟩ = some (.int .i64 o.alarm) := OG.cell 18
  have z18 := OG.free 18
  have hgp : W.heap.size ≠ g := by have := HL.out; omega
  have hgq : W.heap.size + 1 ≠ g := by have := HL.out; omega
  obtain ⟨y, hy⟩ : ∃ y, (o.reproc c).armed n = y := ⟨_, rfl⟩
  have OT : Obl (w4.setCell ⟨g, 18, none⟩ (.int .i64 n)) g 34 (pcell y) := by
    have h := OG.put 18 (.int .i64 n); rw [← hy]; simpa [pcell, pcs, Ob.armed, Ob.reproc] using h
  have P5 := P0.put_other (b' := g) hgp 18 (.int .i64 n)
  have Q5 := Q0.put_other (b' := g) hgq 18 (.int .i64 n)
  have HB5 := hide (HB4.out.setCell (p := ⟨g, 18, none⟩) (by have := HL.out; show W.heap.size ≤ g; omega) (.int .i64 n))
  have HF5 := hide (HF4.out.set_above (g := g) (by omega) 18 (.int .i64 n))
  obtain ⟨w5, hw5⟩ : ∃ w5, w4.setCell ⟨g, 18, none⟩ (.int .i64 n) = w5 := ⟨_, rfl⟩
  rw [hw5] at OT P5 Q5 HB5 HF5
  have HY := hide hy
  clear hy HF4 HB4 P0 Q0
  go_wp2_with (first | (refine store_proc rfl _ _ rfl rfl (c := o.reproc c) rfl OZ rfl ?_; rw [hw4]) | fail)
  refine region_C (by kernel_rfl) w5.heap.size [4] ?_
  replace OT : Obl w5.drew g 34 (pcell y) := OT
  replace P5 : Obl w5.drew W.heap.size 34 (pcell o) := P5
  replace Q5 : Obl w5.drew (W.heap.size + 1) 34 (pcell Ob.zero) := Q5
  replace HB5 : Hid (Below W.heap.size W w5.drew) := hide HB5.out.drew
  replace HF5 : Hid (Fr w0.heap.size w1 w5.drew) := hide HF5.out
  have hP := P5.lt
  have hT := OT.lt
  have k18 : w5.drew.cell? ⟨W.heap.size, 18, none⟩ = some (.int .i64 o.alarm) := P5.cell 18
  clear OG OZ hw3 hw4 hw5 c18 z18 hb4 hs4 hg hgp hgq hgW hg0
  change Obl w5.drew g 34 (pcell y) at OT
  have hsz : w5.drew.heap.size = w5.heap.size := rfl
  rw [← hsz]
  clear hsz
  generalize w5.drew = u0 at *
  refine takeX 0 rfl (by kernel_rfl) (fun _ _ _ h => h) (by rfl) (by intro w'; go_simp; try with_reducible rfl) ?_
  refine takeC 1 [1, 3, 4, 5] rfl (by kernel_rfl) (fun _ _ _ h => h) (by rfl) (by intro w' hg; have g0 := (hg.cell (p := ⟨W.heap.size, 18, none⟩) hP).trans k18; go_simp; try with_reducible rfl) ?_
  refine takeC 2 [2, 4, 5] rfl (by kernel_rfl) (fun _ _ _ h => h) (by rfl) (by intro w' hg; exact exec_load_proc0 rfl rfl (OT.below hg hT)) ?_
  refine takeX 3 rfl (by kernel_rfl) (fun _ _ _ h => h) (by rfl) (by intro w'; go_simp; try with_reducible rfl) ?_
  go_simp
  refine onlyC 4 rfl (by kernel_rfl) (by rfl) ?_
  intro K hK
  refine wp_store_proc rfl rfl (c := y) rfl Q5 rfl ?_
  refine hK _ _ (fun h => absurd h (by decide)) ?_
  clear hK K
  refine takeX 5 rfl (by kernel_rfl) (fun _ _ _ h => h) (by rfl) (by intro w'; go_simp; try with_reducible rfl) ?_
  refine doneC (by kernel_rfl) ?_
  go_simp
  go_wp2_with fail
  refine bodyPost_ret (ret_tproc3 rfl _ rfl (Q5.row_same _)) rfl ?_
  have hh := (HT1.out _ (HF5.out.trans (Fr.row (g := W.heap.size + 1) (by have := HL.out; omega) (pcell y)))).reproc (o := o)
  exact SetErr.yes HE.out rfl (by rw [← HY.out]; exact (reproc_alike o c).armed n) (by rw [← HY.out] at hh ⊢; exact hh.armed n) (below_row HB5.out (by omega) _)
theorem ProcErr.of {b y : Ob} {r : Int} {X : Cont} {w w' : World} {e : Ending} (h : r = 0) (he : e = .returned (.tuple #[.agg (pcell y), .int .i64 0])) (ha : AlikeP y b) (hh : HoldsP w' w'.heap.size y X) (hb : Below w.heap.size w w') : ProcErr b r X w e w' := by subst h; exact ⟨y, he, .inr ⟨rfl, ha, hh⟩, hb⟩
set_option maxRecDepth 100000 in
set_option maxHeartbeats 4000000 in
theorem alTick_any (o : Ob) (n : Int) (X : Cont) (W : World) (ha : -9223372036854775808 ≤ o.alarm ∧ o.alarm ≤ 9223372036854775807) (h : HoldsP W W.heap.size o X) (hX : X.ShortP) : Calls Try.prog 10 #[.agg (pcell o), .int .i64 n] W (ProcErr (o.ticked n) (alErr n) X W) := by
  obtain ⟨w0, hw0, P0, Q0, hb0, hs0⟩ := start_pp W o
  have HB0 := hide hb0
  have H0 := hide h
  have HX := hide hX
  have HL := hide hs0
  have k0 : w0.cell? ⟨W.heap.size, 0, none⟩ = some (.int .i64 o.state) := P0.cell 0
  have k18 : w0.cell? ⟨W.heap.size, 18, none⟩ = some (.int .i64 o.alarm) := P0.cell 18
  have z18 := P0.free 18
  clear hb0 h hX hs0
  by_cases hr : n < 0 ∨ 1073741824 < n
  · have HE : Hid (alErr n = 2) := hide (if_pos hr)
    have HR := hide hr
    clear hr
    go_enter Try.func10, Try.ntmps10
    go_wp2_with fail
    refine (alIn_no n _ HR.out).mono ?_
    rintro e v ⟨rfl, hv⟩
    rw [hv]
    clear hv
    go_wp2_with (first | (refine wpList_val (by rfl) (exec_build (t := 34) (vs := []) rfl rfl built_pzero) ?_) | (refine store_proc rfl _ _ rfl rfl (c := Ob.zero) rfl Q0 rfl ?_) | fail)
    refine bodyPost_ret (ret_proc2 rfl _ rfl (Q0.row_same _)) rfl ?_
    exact ⟨Ob.zero, by rw [HE.out]; rfl, .inl ⟨by rw [HE.out]; decide, rfl⟩, below_row HB0.out (by omega) _⟩
  have HE : Hid (alErr n = 0) := hide (if_neg hr)
  have HR : Hid (0 ≤ n ∧ n ≤ 1073741824) := hide (by omega)
  have hn0 : 0 ≤ n := HR.out.1
  have hn1 : n ≤ 1073741824 := HR.out.2
  clear hr
  obtain ⟨al, hal⟩ : ∃ a, o.alarm = a := ⟨_, rfl⟩
  obtain ⟨sta, hst⟩ : ∃ a, o.state = a := ⟨_, rfl⟩
  rw [hal] at k18 ha
  rw [hst] at k0
  have HA := hide hal
  have HS := hide hst
  clear hal hst
  by_cases h0 : al = 0
  · subst h0
    have HT : Hid (o.ticked n = o) := hide (by unfold Ob.ticked; rw [if_pos (.inl HA.out)])
    go_enter Try.func10, Try.ntmps10
    go_wp2_with fail
    refine (alIn_yes n _ HR.out.1 HR.out.2).mono ?_
    rintro e v ⟨rfl, hv⟩
    rw [hv]
    clear hv
    go_wp2_with (first | (refine load_proc0 rfl _ rfl rfl P0 ?_) | fail)
    refine (alCopied_any o X w0 ((H0.out.below HB0.out).mono HB0.out.size) HX.out).mono ?_
    rintro e w1 ⟨c, rfl, hst1, hb1⟩
    have HT1 := hide hst1
    have HB1 := hide (HB0.out.trans (hb1.mono HB0.out.size))
    replace Q0 := Q0.below hb1 Q0.lt
    clear hb1 hst1
    obtain ⟨y, hy⟩ : ∃ y, o.reproc c = y := ⟨_, rfl⟩
    have HY := hide hy
    rw [hy]
    clear hy
    go_wp2_with (first | (refine store_proc rfl _ _ rfl rfl (c := y) rfl Q0 rfl ?_) | fail)
    refine bodyPost_ret (ret_proc2 rfl _ rfl (Q0.row_same _)) rfl ?_
    have hh := ((HT1.out.next (Fr.row (g := W.heap.size + 1) (by have := HL.out; omega) (pcell y))).now).reproc (o := o)
    exact ProcErr.of HE.out rfl (by rw [HT.out, ← HY.out]; exact reproc_alike o c) (by rw [← HY.out] at hh ⊢; exact hh) (below_row HB1.out (by omega) _)
  have b0 : (al == 0) = false := by simpa using h0
  by_cases hs : sta ≠ 1 ∧ sta ≠ 2
  · have HT : Hid (o.ticked n = o) := hide (by unfold Ob.ticked; rw [if_pos (.inr (by rw [HS.out]; exact hs))])
    have b1 : (sta != 1) = true := by simp; omega
    have b2 : (sta != 2) = true := by simp; omega
    clear hs
    go_enter Try.func10, Try.ntmps10
    go_wp2_with fail
    refine (alIn_yes n _ HR.out.1 HR.out.2).mono ?_
    rintro e v ⟨rfl, hv⟩
    rw [hv]
    clear hv
    go_wp2_with (first | (refine load_proc0 rfl _ rfl rfl P0 ?_) | fail)
    refine (alCopied_any o X w0 ((H0.out.below HB0.out).mono HB0.out.size) HX.out).mono ?_
    rintro e w1 ⟨c, rfl, hst1, hb1⟩
    have HT1 := hide hst1
    have HB1 := hide (HB0.out.trans (hb1.mono HB0.out.size))
    replace Q0 := Q0.below hb1 Q0.lt
    clear hb1 hst1
    obtain ⟨y, hy⟩ : ∃ y, o.reproc c = y := ⟨_, rfl⟩
    have HY := hide hy
    rw [hy]
    clear hy
    go_wp2_with (first | (refine store_proc rfl _ _ rfl rfl (c := y) rfl Q0 rfl ?_) | fail)
    refine bodyPost_ret (ret_proc2 rfl _ rfl (Q0.row_same _)) rfl ?_
    have hh := ((HT1.out.next (Fr.row (g := W.heap.size + 1) (by have := HL.out; omega) (pcell y))).now).reproc (o := o)
    exact ProcErr.of HE.out rfl (by rw [HT.out, ← HY.out]; exact reproc_alike o c) (by rw [← HY.out] at hh ⊢; exact hh) (below_row HB1.out (by omega) _)
  by_cases hn : n < al
  · obtain ⟨y, hy⟩ : ∃ y, o.armed (al - n) = y := ⟨_, rfl⟩
    have HT : Hid (o.ticked n = y) := hide (by unfold Ob.ticked; rw [if_neg (by rw [HA.out, HS.out]; rintro (h | h); exact h0 h; exact hs h), HA.out, if_pos hn, hy])
    have P2 : Obl (w0.setCell ⟨W.heap.size, 18, none⟩ (.int .i64 (al - n))) W.heap.size 34 (pcell y) := by
      have h := P0.put 18 (.int .i64 (al - n)); rw [← hy]; simpa [pcell, pcs, Ob.armed] using h
    have Q2 := Q0.put_other (b' := W.heap.size) (by omega) 18 (.int .i64 (al - n))
    have HB2 := hide (HB0.out.setCell (p := ⟨W.heap.size, 18, none⟩) (Nat.le_refl _) (.int .i64 (al - n)))
    have HH : Hid (HoldsP W W.heap.size y X) := hide (by rw [← hy]; exact H0.out.armed _)
    obtain ⟨w1, hw1⟩ : ∃ w1, w0.setCell ⟨W.heap.size, 18, none⟩ (.int .i64 (al - n)) = w1 := ⟨_, rfl⟩
    have HL2 : Hid (w1.heap.size = W.heap.size + 2) := hide (by rw [← hw1]; simpa using HL.out)
    rw [hw1] at P2 Q2 HB2
    have hss : sta = 1 ∨ sta = 2 := by omega
    clear hy HB0 P0 Q0 hs h0
    rcases hss with rfl | rfl
    all_goals
      go_enter Try.func10, Try.ntmps10
      go_wp2_with fail
      refine (alIn_yes n _ HR.out.1 HR.out.2).mono ?_
      rintro e v ⟨rfl, hv⟩
      rw [hv]
      clear hv
      go_wp2_with (first | (refine load_proc0 rfl _ rfl rfl P2 ?_) | fail)
      refine (alCopied_any y X w1 ((HH.out.below HB2.out).mono HB2.out.size) HX.out).mono ?_
      rintro e w2 ⟨c, rfl, hst1, hb1⟩
      have HT1 := hide hst1
      have HB1 := hide (HB2.out.trans (hb1.mono HB2.out.size))
      replace Q2 := Q2.below hb1 Q2.lt
      clear hb1 hst1
      obtain ⟨z, hz⟩ : ∃ z, y.reproc c = z := ⟨_, rfl⟩
      have HZ := hide hz
      rw [hz]
      clear hz
      go_wp2_with (first | (refine store_proc rfl _ _ rfl rfl (c := z) rfl Q2 rfl ?_) | fail)
      refine bodyPost_ret (ret_proc2 rfl _ rfl (Q2.row_same _)) rfl ?_
      have hh := ((HT1.out.next (Fr.row (g := W.heap.size + 1) (by have := HL2.out; omega) (pcell z))).now).reproc (o := y)
      exact ProcErr.of HE.out rfl (by rw [HT.out, ← HZ.out]; exact reproc_alike y c) (by rw [← HZ.out] at hh ⊢; exact hh) (below_row HB1.out (by omega) _)
  · obtain ⟨y, hy⟩ : ∃ y, o.armed 0 = y := ⟨_, rfl⟩
    have HT : Hid (o.ticked n = y.raise 14) := hide (by unfold Ob.ticked; rw [if_neg (by rw [HA.out, HS.out]; rintro (h | h); exact h0 h; exact hs h), HA.out, if_neg hn, hy])
    have HRE : Hid (y.raiseErr 14 = 0) := hide (by unfold Ob.raiseErr; rw [if_pos (by decide), ← hy, if_pos (show (o.armed 0).state = 1 ∨ (o.armed 0).state = 2 by show o.state = 1 ∨ o.state = 2; rw [HS.out]; omega)])
    have P2 : Obl (w0.setCell ⟨W.heap.size, 18, none⟩ (.int .i64 0)) W.heap.size 34 (pcell y) := by
      have h := P0.put 18 (.int .i64 0); rw [← hy]; simpa [pcell, pcs, Ob.armed] using h
    have Q2 := Q0.put_other (b' := W.heap.size) (by omega) 18 (.int .i64 0)
    have HB2 := hide (HB0.out.setCell (p := ⟨W.heap.size, 18, none⟩) (Nat.le_refl _) (.int .i64 0))
    have HH : Hid (HoldsP W W.heap.size y X) := hide (by rw [← hy]; exact H0.out.armed _)
    obtain ⟨w1, hw1⟩ : ∃ w1, w0.setCell ⟨W.heap.size, 18, none⟩ (.int .i64 0) = w1 := ⟨_, rfl⟩
    have HL2 : Hid (w1.heap.size = W.heap.size + 2) := hide (by rw [← hw1]; simpa using HL.out)
    rw [hw1] at P2 Q2 HB2
    have hss : sta = 1 ∨ sta = 2 := by omega
    clear hy HB0 P0 Q0 hs h0
    rcases hss with rfl | rfl
    all_goals
      go_enter Try.func10, Try.ntmps10
      go_wp2_with fail
      refine (alIn_yes n _ HR.out.1 HR.out.2).mono ?_
      rintro e v ⟨rfl, hv⟩
      rw [hv]
      clear hv
      go_wp2_with (first | (refine load_proc0 rfl _ rfl rfl P2 ?_) | fail)
      refine (sgRaise_own y 14 X w1 ((HH.out.below HB2.out).mono HB2.out.size) HX.out).mono ?_
      rintro e w2 ⟨a, rfl, ha2, hb2⟩
      rw [HRE.out] at ha2 ⊢
      obtain ⟨c, hc, hst1⟩ := (ha2.resolve_left fun h => h.1 rfl).2
      have HC := hide hc
      have HT1 := hide hst1
      have HB1 := hide (HB2.out.trans (hb2.mono HB2.out.size))
      replace Q2 := Q2.below hb2 Q2.lt
      clear hb2 hst1 hc ha2
      go_wp2_with (first | (refine store_proc rfl _ _ rfl rfl (c := a) rfl Q2 rfl ?_) | fail)
      refine bodyPost_ret (ret_proc2 rfl _ rfl (Q2.row_same _)) rfl ?_
      have hh := ((HT1.out.next (Fr.row (g := W.heap.size + 1) (by have := HL2.out; omega) (pcell a))).now).reproc (o := y)
      exact ProcErr.of HE.out rfl (by rw [HT.out, ← HC.out]; exact (reproc_alike y c).raise 14) (by rw [← HC.out] at hh ⊢; exact hh.raise 14) (below_row HB1.out (by omega) _)
end Go.Proofs.Ythaolmcppfjedaa
