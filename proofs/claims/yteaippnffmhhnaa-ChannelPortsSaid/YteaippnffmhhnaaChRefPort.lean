/- The reference of ports: Call and Accept: contracts (written by tools/mkchrefport.py). -/
import Derived.Test.YteaippnffmhhnaaChRefV
import Derived.Test.YteaippnffmhhnaaChPort
namespace Go.Proofs.Yteaippnffmhhnaa
open Go.RowKit

/-- The port with another backlog comes back. -/
def RfCall (o : Ob) (I : List Int) (w : World) (e : Ending) (w' : World) : Prop := ∃ s : Sl, e = .returned (.tuple #[.agg (oc { o with backlog := s }), .int .i64 0]) ∧ New64 w.heap.size w' s I ∧ Below w.heap.size w w'
def RfAcc (o : Ob) (x : Int) (I : List Int) (w : World) (e : Ending) (w' : World) : Prop := ∃ s : Sl, e = .returned (.tuple #[.int .u64 x, .agg (oc { o with backlog := s }), .int .i64 0]) ∧ New64 w.heap.size w' s I ∧ Below w.heap.size w w'
set_option maxRecDepth 100000 in
set_option maxHeartbeats 4000000 in
theorem refCall_no (o : Ob) (c : Int) (I : List Int) (W : World) (hc : o.callErr I c ≠ 0) (hI : Nums .u64 W W.heap.size o.backlog.A o.backlog.n I) (hcap : o.backlog.n ≤ o.backlog.c) (hmax : o.backlog.n ≤ 9223372036854775807) : Calls Try.prog 14 #[.agg (oc o), .int .u64 c] W (PageNo (o.callErr I c) W) := by
  have HC := hide hc
  clear hc
  obtain ⟨w1, hw, O, OR, hb, hs⟩ := start_oz W o
  have HB := hide hb
  have HI := hide (hI.below hb)
  have HCap := hide hcap
  clear hb hI hcap
  go_enter Try.func14, Try.ntmps14
  go_wp2_with (first | (refine load_ob rfl _ rfl rfl O ?_) | fail)
  refine (refValidPort_any o _ I (HI.out.mono HB.out.size) HCap.out hmax).mono ?_
  rintro e w2 ⟨rfl, hb2⟩
  have O2 := O.below hb2 O.lt
  have OR2 := OR.below hb2 OR.lt
  have HB2 := hide (HB.out.trans (hb2.mono HB.out.size))
  have hs2 := hb2.size
  have HI2 := hide (HI.out.belowLe hb2 (show W.heap.size ≤ w1.heap.size by omega))
  have k2 : w2.cell? ⟨W.heap.size, 2, none⟩ = some (.int .i64 o.refs) := O2.cell 2
  have k29 : w2.cell? ⟨W.heap.size, 29, none⟩ = some (.slice o.backlog.A o.backlog.n o.backlog.c) := O2.cell 29
  clear hb2 hw O OR HI HB
  by_cases hp : o.Port I
  · have HP := hide hp
    rw [decide_eq_true hp]
    clear hp
    by_cases h0 : c = 0
    · have HE : Hid (o.callErr I c = 1) := hide (by unfold Ob.callErr; rw [if_neg (fun h => h.2.1 h0)])
      subst h0
      go_wp2_with (first | (refine store_ob rfl _ _ rfl rfl (c := Ob.zero) rfl OR2 rfl ?_) | fail)
      refine bodyPost_ret (ret_ob2 rfl _ rfl (OR2.row_same _)) rfl ?_
      exact ⟨by rw [HE.out]; rfl, below_row HB2.out (by omega) _⟩
    · have b0 : (c == 0) = false := by simpa using h0
      by_cases hm : c ∈ I
      · have HE : Hid (o.callErr I c = 1) := hide (by unfold Ob.callErr; rw [if_neg (fun h => h.2.2 hm)])
        have HM := hide hm
        clear h0 hm
        go_wp2_with (first | (go_at_call 33; refine (has64_any _ _ _ I c _ (HI2.out.mono HB2.out.size) hmax).mono ?_; rintro e w3 ⟨rfl, rfl⟩; rw [decide_eq_true HM.out]) | (refine store_ob rfl _ _ rfl rfl (c := Ob.zero) rfl OR2 rfl ?_) | fail)
        refine bodyPost_ret (ret_ob2 rfl _ rfl (OR2.row_same _)) rfl ?_
        exact ⟨by rw [HE.out]; rfl, below_row HB2.out (by omega) _⟩
      · have HM := hide hm
        have HG : Hid (o.Port I ∧ c ≠ 0 ∧ c ∉ I) := hide ⟨HP.out, h0, hm⟩
        clear h0 hm
        by_cases hr : o.refs = 0
        · have HE : Hid (o.callErr I c = 13) := hide (by unfold Ob.callErr; rw [if_pos HG.out, if_pos hr])
          rw [hr] at k2
          clear hr
          go_wp2_with (first | (go_at_call 33; refine (has64_any _ _ _ I c _ (HI2.out.mono HB2.out.size) hmax).mono ?_; rintro e w3 ⟨rfl, rfl⟩; rw [decide_eq_false HM.out]) | (refine store_ob rfl _ _ rfl rfl (c := Ob.zero) rfl OR2 rfl ?_) | fail)
          refine bodyPost_ret (ret_ob2 rfl _ rfl (OR2.row_same _)) rfl ?_
          exact ⟨by rw [HE.out]; rfl, below_row HB2.out (by omega) _⟩
        · have br : (o.refs == 0) = false := by simpa using hr
          have h8 : 8 ≤ o.backlog.n := by
            by_cases h : 8 ≤ o.backlog.n
            · exact h
            · exact absurd (by unfold Ob.callErr; rw [if_pos HG.out, if_neg hr, if_neg h]) HC.out
          have HE : Hid (o.callErr I c = 9) := hide (by unfold Ob.callErr; rw [if_pos HG.out, if_neg hr, if_pos h8])
          have h8' : (8 : Int) ≤ (o.backlog.n : Int) := by omega
          clear hr h8
          go_wp2_with (first | (go_at_call 33; refine (has64_any _ _ _ I c _ (HI2.out.mono HB2.out.size) hmax).mono ?_; rintro e w3 ⟨rfl, rfl⟩; rw [decide_eq_false HM.out]) | (refine store_ob rfl _ _ rfl rfl (c := Ob.zero) rfl OR2 rfl ?_) | fail)
          refine bodyPost_ret (ret_ob2 rfl _ rfl (OR2.row_same _)) rfl ?_
          exact ⟨by rw [HE.out]; rfl, below_row HB2.out (by omega) _⟩
  · have HE : Hid (o.callErr I c = 1) := hide (by unfold Ob.callErr; rw [if_neg (fun h => hp h.1)])
    rw [decide_eq_false hp]
    clear hp
    go_wp2_with (first | (refine store_ob rfl _ _ rfl rfl (c := Ob.zero) rfl OR2 rfl ?_) | fail)
    refine bodyPost_ret (ret_ob2 rfl _ rfl (OR2.row_same _)) rfl ?_
    exact ⟨by rw [HE.out]; rfl, below_row HB2.out (by omega) _⟩
set_option maxRecDepth 100000 in
set_option maxHeartbeats 4000000 in
theorem refCall_ok (o : Ob) (c : Int) (I : List Int) (W : World) (hp : o.Port I) (h0 : c ≠ 0) (hm : c ∉ I) (hr : o.refs ≠ 0) (h8 : o.backlog.n < 8) (hI : Nums .u64 W W.heap.size o.backlog.A o.backlog.n I) (hcap : o.backlog.n ≤ o.backlog.c) (hmax : o.backlog.n ≤ 9223372036854775807) : Calls Try.prog 14 #[.agg (oc o), .int .u64 c] W (RfCall o (I ++ [c]) W) := by
  have HP := hide hp
  have HM := hide hm
  have b0 : (c == 0) = false := by simpa using h0
  have br : (o.refs == 0) = false := by simpa using hr
  have h8' : ¬ (8 : Int) ≤ (o.backlog.n : Int) := by omega
  clear hp h0 hm hr
  obtain ⟨w1, hw, O, OR, hb, hs⟩ := start_oz W o
  have HB := hide hb
  have HI := hide (hI.below hb)
  have HCap := hide hcap
  clear hb hI hcap
  go_enter Try.func14, Try.ntmps14
  go_wp2_with (first | (refine load_ob rfl _ rfl rfl O ?_) | fail)
  refine (refValidPort_any o _ I (HI.out.mono HB.out.size) HCap.out hmax).mono ?_
  rintro e w2 ⟨rfl, hb2⟩
  have O2 := O.below hb2 O.lt
  have OR2 := OR.below hb2 OR.lt
  have HB2 := hide (HB.out.trans (hb2.mono HB.out.size))
  have hs2 := hb2.size
  have HI2 := hide (HI.out.belowLe hb2 (show W.heap.size ≤ w1.heap.size by omega))
  have k2 : w2.cell? ⟨W.heap.size, 2, none⟩ = some (.int .i64 o.refs) := O2.cell 2
  have k29 : w2.cell? ⟨W.heap.size, 29, none⟩ = some (.slice o.backlog.A o.backlog.n o.backlog.c) := O2.cell 29
  clear hb2 hw O OR HI HB
  rw [decide_eq_true HP.out]
  have hsz : W.heap.size + 2 ≤ w2.heap.size := by omega
  have HI3 := hide (HI2.out.mono HB2.out.size)
  go_wp2_with (first
    | (go_at_call 33; refine (has64_any _ _ _ I c _ (HI2.out.mono HB2.out.size) hmax).mono ?_; rintro e w2 ⟨rfl, rfl⟩; rw [decide_eq_false HM.out])
    | (at_builtin; refine wpList_append_rd rfl _ _ _ rfl idTy (A := none) (n := 0) (c := 0) (xs := []) (base := w2.heap.size) rfl own_none (S := o.backlog.A) (m := o.backlog.n) (d := o.backlog.c) (news := nv .u64 I) rfl HI3.out.2 (nv_one _ _) (by unfold maxLen; omega) (by omega) (Nat.le_refl _) ?_; intro A3 c3 w3 hown3 hg3 _; rw [Nat.zero_add, List.nil_append] at hown3; rw [Nat.zero_add]; have hb3 := below_none hg3; have O3 := O2.below hb3 O2.lt; have OR3 := OR2.below hb3 OR2.lt; have HB3 := hide (HB2.out.trans (hb3.mono HB2.out.size)); have HO3 := hide hown3; have hs3 := hb3.size; clear hown3 hg3 hb3 HB2 HI2 HI3 k29 k2 O2 OR2)
    | (at_builtin; refine wpList_append_rd rfl _ _ _ rfl idTy (base := w2.heap.size) rfl (HO3.out.alloc (.cells #[.int .u64 c] 22)) rfl (Row.new w3 (.int .u64 c) 22) (by simp [Value.oneCell']) (by unfold maxLen; omega) (by omega) (by simp; omega) ?_; intro A4 c4 w4 hown4 hg4 _; rw [nv_snoc] at hown4; have hb4 := (Below.refl w2.heap.size w3).alloc hs3 (.cells #[.int .u64 c] 22); have hb4 := below_own hb4 (HO3.out.alloc (.cells #[.int .u64 c] 22)) hg4 (by simp; omega); have O4 := O3.below hb4 (show W.heap.size < w2.heap.size by omega); have OR4 := OR3.below hb4 (show W.heap.size + 1 < w2.heap.size by omega); have z4 := O4.free 29; have k4 : w4.cell? ⟨W.heap.size, 29, none⟩ = some (.slice o.backlog.A o.backlog.n o.backlog.c) := O4.cell 29; have HB4 := hide (HB3.out.trans (hb4.mono (by omega))); have HO5 := hide (own_keep hown4 (keep_put (m := W.heap.size) (by omega) 29 (.slice A4 (o.backlog.n + 1) c4))); have O5 : Obl (w4.setCell ⟨W.heap.size, 29, none⟩ (.slice A4 (o.backlog.n + 1) c4)) W.heap.size 41 (oc { o with backlog := ⟨A4, o.backlog.n + 1, c4⟩ }) := O4.put 29 (.slice A4 (o.backlog.n + 1) c4); have OR5 := OR4.put_other (b' := W.heap.size) (by omega) 29 (.slice A4 (o.backlog.n + 1) c4); have HB5 := hide (HB4.out.setCell (p := ⟨W.heap.size, 29, none⟩) (Nat.le_refl _) (.slice A4 (o.backlog.n + 1) c4)); obtain ⟨w5, hw5⟩ : ∃ w5, w4.setCell ⟨W.heap.size, 29, none⟩ (.slice A4 (o.backlog.n + 1) c4) = w5 := ⟨_, rfl⟩; rw [hw5] at HO5 O5 OR5 HB5; clear hown4 hg4 hb4 O3 OR3 HB3 HO3 O4 OR4 HB4)
    | (refine load_ob rfl _ rfl rfl O5 ?_)
    | (refine store_ob rfl _ _ rfl rfl (c := { o with backlog := ⟨A4, o.backlog.n + 1, c4⟩ }) rfl OR5 rfl ?_)
    | fail)
  refine bodyPost_ret (ret_ob2 rfl _ rfl (OR5.row_same _)) rfl ?_
  exact ⟨⟨A4, o.backlog.n + 1, c4⟩, rfl, ((New64.own (own_weaken HO5.out (show W.heap.size + 1 + 1 ≤ w2.heap.size by omega))).row _).mono (by omega), below_row HB5.out (by omega) _⟩
set_option maxRecDepth 100000 in
set_option maxHeartbeats 4000000 in
theorem refAccept_no (o : Ob) (I : List Int) (W : World) (hc : o.accErr I ≠ 0) (hI : Nums .u64 W W.heap.size o.backlog.A o.backlog.n I) (hcap : o.backlog.n ≤ o.backlog.c) (hmax : o.backlog.n ≤ 9223372036854775807) : Calls Try.prog 17 #[.agg (oc o)] W (AccNo (o.accErr I) W) := by
  have HC := hide hc
  clear hc
  obtain ⟨w1, hw, O, OR, hb, hs⟩ := start_oz W o
  have HB := hide hb
  have HI := hide (hI.below hb)
  have HCap := hide hcap
  clear hb hI hcap
  go_enter Try.func17, Try.ntmps17
  go_wp2_with (first | (refine load_ob rfl _ rfl rfl O ?_) | fail)
  refine (refValidPort_any o _ I (HI.out.mono HB.out.size) HCap.out hmax).mono ?_
  rintro e w2 ⟨rfl, hb2⟩
  have O2 := O.below hb2 O.lt
  have OR2 := OR.below hb2 OR.lt
  have HB2 := hide (HB.out.trans (hb2.mono HB.out.size))
  have hs2 := hb2.size
  have HI2 := hide (HI.out.belowLe hb2 (show W.heap.size ≤ w1.heap.size by omega))
  have k2 : w2.cell? ⟨W.heap.size, 2, none⟩ = some (.int .i64 o.refs) := O2.cell 2
  have k29 : w2.cell? ⟨W.heap.size, 29, none⟩ = some (.slice o.backlog.A o.backlog.n o.backlog.c) := O2.cell 29
  clear hb2 hw O OR HI HB
  by_cases hp : o.Port I
  · rw [decide_eq_true hp]
    have hn : o.backlog.n = 0 := by
      by_cases h : o.backlog.n = 0
      · exact h
      · exact absurd (by unfold Ob.accErr; rw [if_pos hp, if_neg h]) HC.out
    have HE : Hid (o.accErr I = 12) := hide (by unfold Ob.accErr; rw [if_pos hp, if_pos hn])
    rw [hn] at k29
    clear hp hn
    go_wp2_with (first | (refine store_ob rfl _ _ rfl rfl (c := Ob.zero) rfl OR2 rfl ?_) | fail)
    refine bodyPost_ret (ret_tob rfl _ rfl rfl (OR2.row_same _)) rfl ?_
    exact ⟨by rw [HE.out]; rfl, below_row HB2.out (by omega) _⟩
  · have HE : Hid (o.accErr I = 1) := hide (by unfold Ob.accErr; rw [if_neg hp])
    rw [decide_eq_false hp]
    clear hp
    go_wp2_with (first | (refine store_ob rfl _ _ rfl rfl (c := Ob.zero) rfl OR2 rfl ?_) | fail)
    refine bodyPost_ret (ret_tob rfl _ rfl rfl (OR2.row_same _)) rfl ?_
    exact ⟨by rw [HE.out]; rfl, below_row HB2.out (by omega) _⟩
set_option maxRecDepth 100000 in
set_option maxHeartbeats 4000000 in
theorem refAccept_ok (o : Ob) (x : Int) (I : List Int) (W : World) (hp : o.Port (x :: I)) (hI : Nums .u64 W W.heap.size o.backlog.A o.backlog.n (x :: I)) (hcap : o.backlog.n ≤ o.backlog.c) (hmax : o.backlog.n ≤ 9223372036854775807) : Calls Try.prog 17 #[.agg (oc o)] W (RfAcc o x I W) := by
  have HP := hide hp
  obtain ⟨p, hn⟩ : ∃ p, o.backlog.n = p + 1 := ⟨I.length, by have := hI.len; simpa using this.symm⟩
  have hp8 : p < 8 := by have := hp.2.2.2.1; omega
  clear hp
  obtain ⟨w1, hw, O, OR, hb, hs⟩ := start_oz W o
  have HB := hide hb
  have HI := hide (hI.below hb)
  have HCap := hide hcap
  clear hb hI hcap
  go_enter Try.func17, Try.ntmps17
  go_wp2_with (first | (refine load_ob rfl _ rfl rfl O ?_) | fail)
  refine (refValidPort_any o _ (x :: I) (HI.out.mono HB.out.size) HCap.out hmax).mono ?_
  rintro e w2 ⟨rfl, hb2⟩
  have O2 := O.below hb2 O.lt
  have OR2 := OR.below hb2 OR.lt
  have HB2 := hide (HB.out.trans (hb2.mono HB.out.size))
  have hs2 := hb2.size
  have HI2 := hide (HI.out.belowLe hb2 (show W.heap.size ≤ w1.heap.size by omega))
  have k2 : w2.cell? ⟨W.heap.size, 2, none⟩ = some (.int .i64 o.refs) := O2.cell 2
  have k29 : w2.cell? ⟨W.heap.size, 29, none⟩ = some (.slice o.backlog.A o.backlog.n o.backlog.c) := O2.cell 29
  clear hb2 hw O OR HI HB
  rw [decide_eq_true HP.out]
  obtain ⟨A, hA⟩ : ∃ A, o.backlog.A = A := ⟨_, rfl⟩
  rw [hA, hn] at HI2 k29
  obtain ⟨b, f, hl, rfl, hlt, hc0⟩ := HI2.out.at_ (i := 0) (by omega)
  rw [Nat.add_zero] at hc0
  replace hc0 : w2.cell? ⟨b, f, none⟩ = some (.int .u64 x) := hc0
  have hcap' : p + 1 ≤ o.backlog.c := by have := HCap.out; omega
  obtain ⟨AR, hAR⟩ : ∃ AR : Option Addr, (if o.backlog.c = 1 then some (⟨b, f, none⟩ : Addr) else some (⟨b, f + 1, none⟩ : Addr)) = AR := ⟨_, rfl⟩
  have hT := HI2.out.next hcap'
  rw [hAR] at hT
  have HT := hide ((show Nums .u64 w2 W.heap.size AR p I from hT).mono HB2.out.size)
  have h1p : (1 : Int) ≤ (p : Int) + 1 := by omega
  have hpp : ¬ (p : Int) + 1 = 0 := by omega
  have hpb : ((p : Int) + 1 == 0) = false := by simpa using hpp
  have hp0 : (0 : Int) < (p : Int) + 1 := by omega
  have hpc : (p : Int) + 1 ≤ (o.backlog.c : Int) := by omega
  have hcW : (0 : Int) < (o.backlog.c : Int) := by omega
  clear hT hl
  have hsz : W.heap.size + 2 ≤ w2.heap.size := by omega
  go_wp2_with (first
    | (at_builtin; refine wpList_append_rd rfl _ _ _ rfl idTy (A := none) (n := 0) (c := 0) (xs := []) (base := w2.heap.size) rfl own_none (S := AR) (m := p) (d := o.backlog.c - 1) (news := nv .u64 I) rfl HT.out.2 (nv_one _ _) (by unfold maxLen; omega) (by omega) (Nat.le_refl _) ?_; intro A3 c3 w3 hown3 hg3 _; rw [Nat.zero_add, List.nil_append] at hown3; rw [Nat.zero_add]; have hb3 := below_none hg3; have O3 := O2.below hb3 O2.lt; have OR3 := OR2.below hb3 OR2.lt; have HB3 := hide (HB2.out.trans (hb3.mono HB2.out.size)); have z3 := O3.free 29; have k3 : w3.cell? ⟨W.heap.size, 29, none⟩ = some (.slice (some ⟨b, f, none⟩) (p + 1) o.backlog.c) := (by rw [← hA, ← hn]; exact O3.cell 29); have HO4 := hide (own_keep hown3 (keep_put (m := W.heap.size) (by omega) 29 (.slice A3 p c3))); have O4 := O3.put 29 (.slice A3 p c3); have OR4 := OR3.put_other (b' := W.heap.size) (by omega) 29 (.slice A3 p c3); have HB4 := hide (HB3.out.setCell (p := ⟨W.heap.size, 29, none⟩) (Nat.le_refl _) (.slice A3 p c3)); replace O4 : Obl (w3.setCell ⟨W.heap.size, 29, none⟩ (.slice A3 p c3)) W.heap.size 41 (oc { o with backlog := ⟨A3, p, c3⟩ }) := O4; obtain ⟨w4, hw4⟩ : ∃ w4, w3.setCell ⟨W.heap.size, 29, none⟩ (.slice A3 p c3) = w4 := ⟨_, rfl⟩; rw [hw4] at HO4 O4 OR4 HB4; clear hown3 hg3 hb3 O3 OR3 HB3 k29 k2 HI2 HT O2 OR2 HB2)
    | fail)
  clear hA hn
  refine region_B (by kernel_rfl) (W.heap.size + 1) ?_
  replace O4 : Obl w4.drew W.heap.size 41 (oc { o with backlog := ⟨A3, p, c3⟩ }) := O4
  replace OR4 : Obl w4.drew (W.heap.size + 1) 41 (oc Ob.zero) := OR4
  replace HB4 : Hid (Below W.heap.size W w4.drew) := hide ⟨HB4.out.os, HB4.out.tape, HB4.out.output, HB4.out.size, HB4.out.block⟩
  replace HO4 : Hid (w4.drew.ownsRow w2.heap.size 22 1 (.slice A3 p c3) p (nv .u64 I)) := HO4
  generalize w4.drew = u0 at *
  refine takeB 0 rfl (by kernel_rfl) (fun _ _ _ h => h) (by rfl) (by intro w' hg; go_simp; try with_reducible rfl) ?_
  refine takeB 1 rfl (by kernel_rfl) (fun _ _ _ h => h) (by rfl) (by intro w' hg; exact exec_load_ob rfl rfl (O4.below hg (Nat.lt_succ_self _))) ?_
  refine takeB 2 rfl (by kernel_rfl) (fun _ _ _ h => h) (by rfl) (by intro w' hg; go_simp; try with_reducible rfl) ?_
  go_simp
  refine onlyB 3 rfl (by kernel_rfl) (by rfl) ?_
  intro K hK
  refine wp_store_ch rfl rfl (c := { o with backlog := ⟨A3, p, c3⟩ }) rfl OR4 rfl ?_
  refine hK _ _ (below_row (Below.refl _ _) (Nat.le_refl _) _) ?_
  clear hK K
  have OR5 := OR4.row_same (oc { o with backlog := ⟨A3, p, c3⟩ })
  have HO5 := hide ((New64.own (own_weaken HO4.out (show W.heap.size + 1 + 1 ≤ w2.heap.size by omega))).row (oc { o with backlog := ⟨A3, p, c3⟩ }))
  have HF5 := hide (below_row HB4.out (g := W.heap.size + 1) (by omega) (oc { o with backlog := ⟨A3, p, c3⟩ }))
  obtain ⟨u5, hu5⟩ : ∃ u5, u0.setRow (W.heap.size + 1) (oc { o with backlog := ⟨A3, p, c3⟩ }) = u5 := ⟨_, rfl⟩
  rw [hu5] at OR5 HO5 HF5 ⊢
  refine takeB 4 rfl (by kernel_rfl) (fun _ _ _ h => h) (by rfl) (by intro w' hg; go_simp; try with_reducible rfl) ?_
  refine doneB (by kernel_rfl) ?_
  go_simp
  go_wp2_with fail
  refine bodyPost_ret (ret_tob rfl _ rfl rfl OR5) rfl ?_
  exact ⟨⟨A3, p, c3⟩, rfl, HO5.out.mono (by omega), HF5.out⟩
end Go.Proofs.Yteaippnffmhhnaa
