/- Layer 12, package channel: Call and Accept: contracts (written by tools/mkchport.py). -/
import Derived.Test.YteaippnffmhhnaaChOps
import Derived.Test.YteaippnffmhhnaaConcat
import Derived.Test.YteaippnffmhhnaaRegionD
namespace Go.Proofs.Yteaippnffmhhnaa
open Go.RowKit

theorem Nums.keep_above {k : IntKind} {w : World} {B n m : Nat} {A : Option Addr} {l : List Int} {cells : Array Value} (h : Nums k w B A n l) (ha : Above (m + 1) A) : Nums k (w.setRow m cells) B A n l := by
  refine ⟨h.1, h.2.1, h.2.2.1, fun hx => ?_⟩
  obtain ⟨b, o, e, hb, hc⟩ := h.2.2.2 hx
  have hne : b ≠ m := by have := ha _ e; simp only at this; omega
  refine ⟨b, o, e, hb, fun j u hu => ?_⟩
  rw [← hc j u hu]
  unfold World.cell?
  simp only [setRow_other w m cells hne]
/-- Identifiers of the call's own, in a slice that knows its capacity. -/
def New64 (B : Nat) (w : World) (s : Sl) (I : List Int) : Prop := Nums .u64 w w.heap.size s.A s.n I ∧ Above B s.A ∧ s.n ≤ s.c
theorem New64.below {B : Nat} {w w' : World} {s : Sl} {I : List Int} (h : New64 B w s I) (hb : Below w.heap.size w w') : New64 B w' s I := ⟨(h.1.below hb).mono hb.size, h.2.1, h.2.2⟩
theorem New64.row {m : Nat} {w : World} {s : Sl} {I : List Int} (h : New64 (m + 1) w s I) (cells : Array Value) : New64 (m + 1) (w.setRow m cells) s I := ⟨by rw [setRow_size]; exact h.1.keep_above h.2.1, h.2.1, h.2.2⟩
theorem New64.put {m : Nat} {w : World} {s : Sl} {I : List Int} (h : New64 (m + 1) w s I) (i : Nat) (v : Value) : New64 (m + 1) (w.setCell ⟨m, i, none⟩ v) s I := by
  refine ⟨?_, h.2.1, h.2.2⟩
  rw [World.size_setCell]
  refine ⟨h.1.1, h.1.2.1, h.1.2.2.1, fun hx => ?_⟩
  obtain ⟨b, o, e, hb, hc⟩ := h.1.2.2.2 hx
  have hne : b ≠ m := by have := h.2.1 _ e; simp only at this; omega
  refine ⟨b, o, e, hb, fun j u hu => ?_⟩
  rw [← hc j u hu]
  exact World.cell?_setCell_other _ _ _ _ (fun e => hne (by cases e; rfl))
theorem New64.mono {B B' : Nat} {w : World} {s : Sl} {I : List Int} (h : New64 B w s I) (hB : B' ≤ B) : New64 B' w s I := ⟨h.1, h.2.1.mono hB, h.2.2⟩
theorem New64.own {B n c : Nat} {w : World} {A : Option Addr} {e : TypeId} {I : List Int} (h : w.ownsRow B e 1 (.slice A n c) n (nv .u64 I)) : New64 B w ⟨A, n, c⟩ I := ⟨Nums.of_own h, above_own h, own_cap h⟩
/-- The port with this backlog comes back. -/
def CallOk (id r : Int) (I : List Int) (w : World) (e : Ending) (w' : World) : Prop := ∃ s : Sl, e = .returned (.tuple #[.agg (oc (Ob.port id r s)), .int .i64 0]) ∧ New64 w.heap.size w' s I ∧ Below w.heap.size w w'
def AccNo (r : Int) (w : World) (e : Ending) (w' : World) : Prop := e = .returned (.tuple #[.int .u64 0, .agg (oc Ob.zero), .int .i64 r]) ∧ Below w.heap.size w w'
def AccOk (id r x : Int) (I : List Int) (w : World) (e : Ending) (w' : World) : Prop := ∃ s : Sl, e = .returned (.tuple #[.int .u64 x, .agg (oc (Ob.port id r s)), .int .i64 0]) ∧ New64 w.heap.size w' s I ∧ Below w.heap.size w w'
/-- A slice of one identifier, of two lists of them, written out. -/
theorem run_one64 (w : World) (x : Int) : (Instr.buildSlice 23 1 #[(0, .int .u64 x)]).run Try.prog w = .ok (.slice (some ⟨w.heap.size, 0, none⟩) 1 1) (w.alloc (.cells #[.int .u64 x] 22)) := by kernel_rfl
theorem run_two64 (w : World) (A B : Option Addr) (n c m d : Nat) : (Instr.buildSlice 95 2 #[(0, .slice A n c), (1, .slice B m d)]).run Try.prog w = .ok (.slice (some ⟨w.heap.size, 0, none⟩) 2 2) (w.alloc (.cells #[.slice A n c, .slice B m d] 23)) := by kernel_rfl
theorem exec_one64 {o : Oper} {act : Act} {w : World} {x : Operand} (ho : o.op = .buildSlice 23 1 #[(0, x)]) {v : Int} (hx : act.eval x = .int .u64 v) :
    (execOp act.eval o).run Try.prog w = .ok (.value (.slice (some ⟨w.heap.size, 0, none⟩) 1 1)) (w.alloc (.cells #[.int .u64 v] 22)) := by
  have hr := run_one64 w v
  unfold execOp
  simp only [ho, hx, List.map_toArray, List.map_cons, List.map_nil, Sem.run_bind, hr, Result.andThen_ok, Sem.run_pure]
theorem exec_two64 {o : Oper} {act : Act} {w : World} {x y : Operand} (ho : o.op = .buildSlice 95 2 #[(0, x), (1, y)]) {A B : Option Addr} {n c m d : Nat} (hx : act.eval x = .slice A n c) (hy : act.eval y = .slice B m d) :
    (execOp act.eval o).run Try.prog w = .ok (.value (.slice (some ⟨w.heap.size, 0, none⟩) 2 2)) (w.alloc (.cells #[.slice A n c, .slice B m d] 23)) := by
  have hr := run_two64 w A B n c m d
  unfold execOp
  simp only [ho, hx, hy, List.map_toArray, List.map_cons, List.map_nil, Sem.run_bind, hr, Result.andThen_ok, Sem.run_pure]
set_option maxRecDepth 100000 in
set_option maxHeartbeats 4000000 in
theorem chCall_no (o : Ob) (c : Int) (I : List Int) (W : World) (hc : o.callErr I c ≠ 0) (hI : Nums .u64 W W.heap.size o.backlog.A o.backlog.n I) (hcap : o.backlog.n ≤ o.backlog.c) (hmax : o.backlog.n ≤ 9223372036854775807) : Calls Try.prog 13 #[.agg (oc o), .int .u64 c] W (PageNo (o.callErr I c) W) := by
  have HC := hide hc
  clear hc
  obtain ⟨w1, hw, O, OR, hb, hs⟩ := start_oz W o
  have HB := hide hb
  have HI := hide (hI.below hb)
  have HCap := hide hcap
  clear hb hI hcap
  go_enter Try.func13, Try.ntmps13
  go_wp2_with (first | (refine load_ob rfl _ rfl rfl O ?_) | fail)
  refine (chValidPort_any o _ I (HI.out.mono HB.out.size) HCap.out).mono ?_
  rintro e w2 ⟨rfl, hb2⟩
  have O2 := O.below hb2 O.lt
  have OR2 := OR.below hb2 OR.lt
  have HB2 := hide (HB.out.trans (hb2.mono HB.out.size))
  have hs2 := hb2.size
  have HI2 := hide (HI.out.belowLe hb2 (show W.heap.size ≤ w1.heap.size by omega))
  have k2 : w2.cell? ⟨W.heap.size, 2, none⟩ = some (.int .i64 o.refs) := O2.cell 2
  have k29 : w2.cell? ⟨W.heap.size, 29, none⟩ = some (.slice o.backlog.A o.backlog.n o.backlog.c) := O2.cell 29
  clear hb2 hw O OR HI HB
  by_cases hp : o.Port I
  · have HP := hide hp
    rw [decide_eq_true hp]
    clear hp
    by_cases h0 : c = 0
    · have HE : Hid (o.callErr I c = 1) := hide (by unfold Ob.callErr; rw [if_neg (fun h => h.2.1 h0)])
      subst h0
      go_wp2_with (first | (refine store_ob rfl _ _ rfl rfl (c := Ob.zero) rfl OR2 rfl ?_) | fail)
      refine bodyPost_ret (ret_ob2 rfl _ rfl (OR2.row_same _)) rfl ?_
      exact ⟨by rw [HE.out]; rfl, below_row HB2.out (by omega) _⟩
    · have b0 : (c == 0) = false := by simpa using h0
      by_cases hm : c ∈ I
      · have HE : Hid (o.callErr I c = 1) := hide (by unfold Ob.callErr; rw [if_neg (fun h => h.2.2 hm)])
        have HM := hide hm
        clear h0 hm
        go_wp2_with (first | (go_at_call 44; refine (contains64_any _ _ _ I c _ (HI2.out.mono HB2.out.size) hmax).mono ?_; rintro e w3 ⟨rfl, rfl⟩; rw [decide_eq_true HM.out]) | (refine store_ob rfl _ _ rfl rfl (c := Ob.zero) rfl OR2 rfl ?_) | fail)
        refine bodyPost_ret (ret_ob2 rfl _ rfl (OR2.row_same _)) rfl ?_
        exact ⟨by rw [HE.out]; rfl, below_row HB2.out (by omega) _⟩
      · have HM := hide hm
        have HG : Hid (o.Port I ∧ c ≠ 0 ∧ c ∉ I) := hide ⟨HP.out, h0, hm⟩
        clear h0 hm
        by_cases hr : o.refs = 0
        · have HE : Hid (o.callErr I c = 13) := hide (by unfold Ob.callErr; rw [if_pos HG.out, if_pos hr])
          rw [hr] at k2
          clear hr
          go_wp2_with (first | (go_at_call 44; refine (contains64_any _ _ _ I c _ (HI2.out.mono HB2.out.size) hmax).mono ?_; rintro e w3 ⟨rfl, rfl⟩; rw [decide_eq_false HM.out]) | (refine store_ob rfl _ _ rfl rfl (c := Ob.zero) rfl OR2 rfl ?_) | fail)
          refine bodyPost_ret (ret_ob2 rfl _ rfl (OR2.row_same _)) rfl ?_
          exact ⟨by rw [HE.out]; rfl, below_row HB2.out (by omega) _⟩
        · have br : (o.refs == 0) = false := by simpa using hr
          have h8 : 8 ≤ o.backlog.n := by
            by_cases h : 8 ≤ o.backlog.n
            · exact h
            · exact absurd (by unfold Ob.callErr; rw [if_pos HG.out, if_neg hr, if_neg h]) HC.out
          have HE : Hid (o.callErr I c = 9) := hide (by unfold Ob.callErr; rw [if_pos HG.out, if_neg hr, if_pos h8])
          have h8' : (8 : Int) ≤ (o.backlog.n : Int) := by omega
          clear hr h8
          go_wp2_with (first | (go_at_call 44; refine (contains64_any _ _ _ I c _ (HI2.out.mono HB2.out.size) hmax).mono ?_; rintro e w3 ⟨rfl, rfl⟩; rw [decide_eq_false HM.out]) | (refine store_ob rfl _ _ rfl rfl (c := Ob.zero) rfl OR2 rfl ?_) | fail)
          refine bodyPost_ret (ret_ob2 rfl _ rfl (OR2.row_same _)) rfl ?_
          exact ⟨by rw [HE.out]; rfl, below_row HB2.out (by omega) _⟩
  · have HE : Hid (o.callErr I c = 1) := hide (by unfold Ob.callErr; rw [if_neg (fun h => hp h.1)])
    rw [decide_eq_false hp]
    clear hp
    go_wp2_with (first | (refine store_ob rfl _ _ rfl rfl (c := Ob.zero) rfl OR2 rfl ?_) | fail)
    refine bodyPost_ret (ret_ob2 rfl _ rfl (OR2.row_same _)) rfl ?_
    exact ⟨by rw [HE.out]; rfl, below_row HB2.out (by omega) _⟩
set_option maxRecDepth 100000 in
set_option maxHeartbeats 4000000 in
theorem chCall_ok (o : Ob) (c : Int) (I : List Int) (W : World) (hp : o.Port I) (h0 : c ≠ 0) (hm : c ∉ I) (hr : o.refs ≠ 0) (h8 : o.backlog.n < 8) (hI : Nums .u64 W W.heap.size o.backlog.A o.backlog.n I) (hcap : o.backlog.n ≤ o.backlog.c) (hmax : o.backlog.n ≤ 9223372036854775807) : Calls Try.prog 13 #[.agg (oc o), .int .u64 c] W (CallOk o.id o.refs (I ++ [c]) W) := by
  have HP := hide hp
  have HM := hide hm
  have b0 : (c == 0) = false := by simpa using h0
  have br : (o.refs == 0) = false := by simpa using hr
  have h8' : ¬ (8 : Int) ≤ (o.backlog.n : Int) := by omega
  clear hp h0 hm hr
  obtain ⟨w1, hw, O, OR, hb, hs⟩ := start_oz W o
  have HB := hide hb
  have HI := hide (hI.below hb)
  have HCap := hide hcap
  clear hb hI hcap
  go_enter Try.func13, Try.ntmps13
  go_wp2_with (first | (refine load_ob rfl _ rfl rfl O ?_) | fail)
  refine (chValidPort_any o _ I (HI.out.mono HB.out.size) HCap.out).mono ?_
  rintro e w2 ⟨rfl, hb2⟩
  have O2 := O.below hb2 O.lt
  have OR2 := OR.below hb2 OR.lt
  have HB2 := hide (HB.out.trans (hb2.mono HB.out.size))
  have hs2 := hb2.size
  have HI2 := hide (HI.out.belowLe hb2 (show W.heap.size ≤ w1.heap.size by omega))
  have k2 : w2.cell? ⟨W.heap.size, 2, none⟩ = some (.int .i64 o.refs) := O2.cell 2
  have k29 : w2.cell? ⟨W.heap.size, 29, none⟩ = some (.slice o.backlog.A o.backlog.n o.backlog.c) := O2.cell 29
  clear hb2 hw O OR HI HB
  rw [decide_eq_true HP.out]
  go_wp2_with (first | (go_at_call 44; refine (contains64_any _ _ _ I c _ (HI2.out.mono HB2.out.size) hmax).mono ?_; rintro e w2 ⟨rfl, rfl⟩; rw [decide_eq_false HM.out]) | fail)
  refine region_B (by kernel_rfl) (W.heap.size + 1) ?_
  replace O2 : Obl w2.drew W.heap.size 41 (oc o) := O2
  replace OR2 : Obl w2.drew (W.heap.size + 1) 41 (oc Ob.zero) := OR2
  replace HB2 : Hid (Below W.heap.size W w2.drew) := hide ⟨HB2.out.os, HB2.out.tape, HB2.out.output, HB2.out.size, HB2.out.block⟩
  replace HI2 : Hid (Nums .u64 w2.drew w2.drew.heap.size o.backlog.A o.backlog.n I) := hide (HI2.out.mono HB2.out.size)
  replace k29 : w2.drew.cell? ⟨W.heap.size, 29, none⟩ = some (.slice o.backlog.A o.backlog.n o.backlog.c) := k29
  clear k2
  generalize w2.drew = u0 at *
  have hR0 := OR2.lt
  refine takeB 0 rfl (by kernel_rfl) (fun _ _ _ h => h) (by rfl) (by intro w' hg; exact exec_load_ob rfl rfl (O2.below hg (Nat.lt_succ_self _))) ?_
  refine takeB 1 rfl (by kernel_rfl) (fun _ _ _ h => h) (by rfl) (by intro w' hg; go_simp; try with_reducible rfl) ?_
  refine takeB 2 rfl (by kernel_rfl) (fun _ _ _ h => h) (by rfl) (by intro w' hg; have g0 := (hg.cell (p := ⟨W.heap.size, 29, none⟩) (Nat.lt_succ_self _)).trans k29; go_simp; try with_reducible rfl) ?_
  refine takeB 3 rfl (by kernel_rfl) (fun _ _ _ h => h) (by rfl) (by intro w' hg; go_simp; try with_reducible rfl) ?_
  go_simp
  refine onlyB 4 rfl (by kernel_rfl) (by rfl) ?_
  intro K hK
  refine wp_yield (exec_one64 rfl rfl) ?_
  have hb3 := (Below.refl u0.heap.size u0).alloc (Nat.le_refl _) (.cells #[.int .u64 c] 22)
  have HX3 : Hid (Nums .u64 (u0.alloc (.cells #[.int .u64 c] 22)) (u0.heap.size + 1) (some ⟨u0.heap.size, 0, none⟩) 1 [c]) := hide ⟨rfl, Row.new u0 (.int .u64 c) 22⟩
  refine hK _ _ (hb3.mono (by omega)) ?_
  clear hK K
  replace OR2 := OR2.below hb3 hR0
  have HB3 := hide (HB2.out.trans (hb3.mono HB2.out.size))
  have HI3 := hide ((HI2.out.below hb3).mono hb3.size)
  have hs3 : u0.heap.size + 1 ≤ (u0.alloc (.cells #[.int .u64 c] 22)).heap.size := by simp
  clear hb3 HI2 HB2 k29 O2
  generalize u0.alloc (.cells #[.int .u64 c] 22) = u1 at *
  generalize u0.heap.size = g1 at *
  go_simp
  refine onlyB 5 rfl (by kernel_rfl) (by rfl) ?_
  intro K hK
  refine wp_yield (exec_two64 rfl rfl rfl) ?_
  have hb4 := (Below.refl u1.heap.size u1).alloc (Nat.le_refl _) (.cells #[.slice o.backlog.A o.backlog.n o.backlog.c, .slice (some ⟨g1, 0, none⟩) 1 1] 23)
  have O4 := Obl.make u1 23 #[.slice o.backlog.A o.backlog.n o.backlog.c, .slice (some ⟨g1, 0, none⟩) 1 1]
  refine hK _ _ (hb4.mono (by omega)) ?_
  clear hK K
  replace OR2 := OR2.below hb4 (by omega)
  have HB4 := hide (HB3.out.trans (hb4.mono HB3.out.size))
  have HI4 := hide ((HI3.out.below hb4).mono hb4.size)
  have HX4 := hide ((HX3.out.belowLe hb4 (by omega)).mono (show g1 + 1 ≤ (u1.alloc (.cells #[.slice o.backlog.A o.backlog.n o.backlog.c, .slice (some ⟨g1, 0, none⟩) 1 1] 23)).heap.size by simp; omega))
  have HO4 := hide O4
  have hs4 : u1.heap.size + 1 ≤ (u1.alloc (.cells #[.slice o.backlog.A o.backlog.n o.backlog.c, .slice (some ⟨g1, 0, none⟩) 1 1] 23)).heap.size := by simp
  clear hb4 HI3 HB3 HX3 O4
  generalize u1.alloc (.cells #[.slice o.backlog.A o.backlog.n o.backlog.c, .slice (some ⟨g1, 0, none⟩) 1 1] 23) = u2 at *
  generalize u1.heap.size = g2 at *
  go_simp
  refine onlyB 6 rfl (by kernel_rfl) (by rfl) ?_
  intro K hK
  go_simp
  have hR2 := OR2.lt
  refine (concat64_any g2 o.backlog.A (some ⟨g1, 0, none⟩) o.backlog.n o.backlog.c 1 I c _ HO4.out HI4.out HX4.out (by omega)).mono ?_
  rintro e u3 ⟨A3, c3, rfl, hown, hb5⟩
  refine hK _ _ (hb5.mono (by omega)) ?_
  clear hK K
  replace OR2 := OR2.below hb5 OR2.lt
  have HB5 := hide (HB4.out.trans (hb5.mono HB4.out.size))
  have HN5 := hide ((New64.own hown).mono (show W.heap.size + 2 ≤ u2.heap.size by omega))
  clear hb5 hown HB4 HI4 HX4 HO4
  go_simp
  refine onlyB 7 rfl (by kernel_rfl) (by rfl) ?_
  intro K hK
  go_simp
  refine (chBack_any o A3 (o.backlog.n + 1) c3 _).mono ?_
  rintro e u4 ⟨rfl, hb6⟩
  have hR3 := OR2.lt
  refine hK _ _ (hb6.mono (by omega)) ?_
  clear hK K
  replace OR2 := OR2.below hb6 OR2.lt
  have HB6 := hide (HB5.out.trans (hb6.mono HB5.out.size))
  have HN6 := hide (HN5.out.below hb6)
  clear hb6 HB5 HN5
  go_simp
  refine onlyB 8 rfl (by kernel_rfl) (by rfl) ?_
  intro K hK
  refine wp_store_ch rfl rfl (c := Ob.port o.id o.refs ⟨A3, o.backlog.n + 1, c3⟩) rfl OR2 rfl ?_
  refine hK _ _ (below_row (Below.refl _ _) (Nat.le_refl _) _) ?_
  clear hK K
  have OR7 := OR2.row_same (oc (Ob.port o.id o.refs ⟨A3, o.backlog.n + 1, c3⟩))
  have HN7 := hide (HN6.out.row (oc (Ob.port o.id o.refs ⟨A3, o.backlog.n + 1, c3⟩)))
  have HB7 := hide (below_row HB6.out (g := W.heap.size + 1) (by omega) (oc (Ob.port o.id o.refs ⟨A3, o.backlog.n + 1, c3⟩)))
  obtain ⟨u5, hu5⟩ : ∃ u5, u4.setRow (W.heap.size + 1) (oc (Ob.port o.id o.refs ⟨A3, o.backlog.n + 1, c3⟩)) = u5 := ⟨_, rfl⟩
  rw [hu5] at OR7 HN7 HB7 ⊢
  refine takeB 9 rfl (by kernel_rfl) (fun _ _ _ h => h) (by rfl) (by intro w' hg; go_simp; try with_reducible rfl) ?_
  refine doneB (by kernel_rfl) ?_
  go_simp
  go_wp2_with fail
  refine bodyPost_ret (ret_ob2 rfl _ rfl OR7) rfl ?_
  exact ⟨⟨A3, o.backlog.n + 1, c3⟩, rfl, HN7.out.mono (by omega), HB7.out⟩
set_option maxRecDepth 100000 in
set_option maxHeartbeats 4000000 in
theorem chAccept_no (o : Ob) (I : List Int) (W : World) (hc : o.accErr I ≠ 0) (hI : Nums .u64 W W.heap.size o.backlog.A o.backlog.n I) (hcap : o.backlog.n ≤ o.backlog.c) : Calls Try.prog 16 #[.agg (oc o)] W (AccNo (o.accErr I) W) := by
  have HC := hide hc
  clear hc
  obtain ⟨w1, hw, O, OR, hb, hs⟩ := start_oz W o
  have HB := hide hb
  have HI := hide (hI.below hb)
  have HCap := hide hcap
  clear hb hI hcap
  go_enter Try.func16, Try.ntmps16
  go_wp2_with (first | (refine load_ob rfl _ rfl rfl O ?_) | fail)
  refine (chValidPort_any o _ I (HI.out.mono HB.out.size) HCap.out).mono ?_
  rintro e w2 ⟨rfl, hb2⟩
  have O2 := O.below hb2 O.lt
  have OR2 := OR.below hb2 OR.lt
  have HB2 := hide (HB.out.trans (hb2.mono HB.out.size))
  have hs2 := hb2.size
  have HI2 := hide (HI.out.belowLe hb2 (show W.heap.size ≤ w1.heap.size by omega))
  have k2 : w2.cell? ⟨W.heap.size, 2, none⟩ = some (.int .i64 o.refs) := O2.cell 2
  have k29 : w2.cell? ⟨W.heap.size, 29, none⟩ = some (.slice o.backlog.A o.backlog.n o.backlog.c) := O2.cell 29
  clear hb2 hw O OR HI HB
  by_cases hp : o.Port I
  · rw [decide_eq_true hp]
    have hn : o.backlog.n = 0 := by
      by_cases h : o.backlog.n = 0
      · exact h
      · exact absurd (by unfold Ob.accErr; rw [if_pos hp, if_neg h]) HC.out
    have HE : Hid (o.accErr I = 12) := hide (by unfold Ob.accErr; rw [if_pos hp, if_pos hn])
    rw [hn] at k29
    clear hp hn
    go_wp2_with (first | (refine store_ob rfl _ _ rfl rfl (c := Ob.zero) rfl OR2 rfl ?_) | fail)
    refine bodyPost_ret (ret_tob rfl _ rfl rfl (OR2.row_same _)) rfl ?_
    exact ⟨by rw [HE.out]; rfl, below_row HB2.out (by omega) _⟩
  · have HE : Hid (o.accErr I = 1) := hide (by unfold Ob.accErr; rw [if_neg hp])
    rw [decide_eq_false hp]
    clear hp
    go_wp2_with (first | (refine store_ob rfl _ _ rfl rfl (c := Ob.zero) rfl OR2 rfl ?_) | fail)
    refine bodyPost_ret (ret_tob rfl _ rfl rfl (OR2.row_same _)) rfl ?_
    exact ⟨by rw [HE.out]; rfl, below_row HB2.out (by omega) _⟩
set_option maxRecDepth 100000 in
set_option maxHeartbeats 4000000 in
theorem chAccept_ok (o : Ob) (x : Int) (I : List Int) (W : World) (hp : o.Port (x :: I)) (hI : Nums .u64 W W.heap.size o.backlog.A o.backlog.n (x :: I)) (hcap : o.backlog.n ≤ o.backlog.c) : Calls Try.prog 16 #[.agg (oc o)] W (AccOk o.id o.refs x I W) := by
  have HP := hide hp
  obtain ⟨p, hn⟩ : ∃ p, o.backlog.n = p + 1 := ⟨I.length, by have := hI.len; simpa using this.symm⟩
  have hp8 : p < 8 := by have := hp.2.2.2.1; omega
  clear hp
  obtain ⟨w1, hw, O, OR, hb, hs⟩ := start_oz W o
  have HB := hide hb
  have HI := hide (hI.below hb)
  have HCap := hide hcap
  clear hb hI hcap
  go_enter Try.func16, Try.ntmps16
  go_wp2_with (first | (refine load_ob rfl _ rfl rfl O ?_) | fail)
  refine (chValidPort_any o _ (x :: I) (HI.out.mono HB.out.size) HCap.out).mono ?_
  rintro e w2 ⟨rfl, hb2⟩
  have O2 := O.below hb2 O.lt
  have OR2 := OR.below hb2 OR.lt
  have HB2 := hide (HB.out.trans (hb2.mono HB.out.size))
  have hs2 := hb2.size
  have HI2 := hide (HI.out.belowLe hb2 (show W.heap.size ≤ w1.heap.size by omega))
  have k2 : w2.cell? ⟨W.heap.size, 2, none⟩ = some (.int .i64 o.refs) := O2.cell 2
  have k29 : w2.cell? ⟨W.heap.size, 29, none⟩ = some (.slice o.backlog.A o.backlog.n o.backlog.c) := O2.cell 29
  clear hb2 hw O OR HI HB
  rw [decide_eq_true HP.out]
  obtain ⟨A, hA⟩ : ∃ A, o.backlog.A = A := ⟨_, rfl⟩
  rw [hA, hn] at HI2 k29
  obtain ⟨b, f, hl, rfl, hlt, hc0⟩ := HI2.out.at_ (i := 0) (by omega)
  rw [Nat.add_zero] at hc0
  replace hc0 : w2.cell? ⟨b, f, none⟩ = some (.int .u64 x) := hc0
  have hcap' : p + 1 ≤ o.backlog.c := by have := HCap.out; omega
  obtain ⟨AR, hAR⟩ : ∃ AR : Option Addr, (if o.backlog.c = 1 then some (⟨b, f, none⟩ : Addr) else some (⟨b, f + 1, none⟩ : Addr)) = AR := ⟨_, rfl⟩
  have hT := HI2.out.next hcap'
  rw [hAR] at hT
  have HT := hide ((show Nums .u64 w2 W.heap.size AR p I from hT).mono HB2.out.size)
  have h1p : (1 : Int) ≤ (p : Int) + 1 := by omega
  have hpp : ¬ (p : Int) + 1 = 0 := by omega
  have hpb : ((p : Int) + 1 == 0) = false := by simpa using hpp
  have hp0 : (0 : Int) < (p : Int) + 1 := by omega
  have hpc : (p : Int) + 1 ≤ (o.backlog.c : Int) := by omega
  have hcW : (0 : Int) < (o.backlog.c : Int) := by omega
  clear hT hA hn hl
  go_wp2_with fail
  refine region_B (by kernel_rfl) (W.heap.size + 1) ?_
  replace O2 : Obl w2.drew W.heap.size 41 (oc o) := O2
  replace OR2 : Obl w2.drew (W.heap.size + 1) 41 (oc Ob.zero) := OR2
  replace HB2 : Hid (Below W.heap.size W w2.drew) := hide ⟨HB2.out.os, HB2.out.tape, HB2.out.output, HB2.out.size, HB2.out.block⟩
  replace hc0 : w2.drew.cell? ⟨b, f, none⟩ = some (.int .u64 x) := hc0
  replace HT : Hid (Nums .u64 w2.drew w2.drew.heap.size AR p I) := HT
  clear HI2
  replace k29 : w2.drew.cell? ⟨W.heap.size, 29, none⟩ = some (.slice (some ⟨b, f, none⟩) (p + 1) o.backlog.c) := k29
  clear k2
  generalize w2.drew = u0 at *
  have hR0 := OR2.lt
  refine takeB 0 rfl (by kernel_rfl) (fun _ _ _ h => h) (by rfl) (by intro w' hg; go_simp; try with_reducible rfl) ?_
  refine takeB 1 rfl (by kernel_rfl) (fun _ _ _ h => h) (by rfl) (by intro w' hg; have g0 := (hg.cell (p := ⟨W.heap.size, 29, none⟩) (Nat.lt_succ_self _)).trans k29; go_simp; try with_reducible rfl) ?_
  refine takeB 2 rfl (by kernel_rfl) (fun _ _ _ h => h) (by rfl) (by intro w' hg; go_simp; try with_reducible rfl) ?_
  refine takeB 3 rfl (by kernel_rfl) (fun _ _ _ h => h) (by rfl) (by intro w' hg; have g0 := (hg.cell (p := ⟨b, f, none⟩) (by show b < W.heap.size + 1; omega)).trans hc0; go_simp; try with_reducible rfl) ?_
  refine takeB 4 rfl (by kernel_rfl) (fun _ _ _ h => h) (by rfl) (by intro w' hg; exact exec_load_ob rfl rfl (O2.below hg (Nat.lt_succ_self _))) ?_
  refine takeB 5 rfl (by kernel_rfl) (fun _ _ _ h => h) (by rfl) (by intro w' hg; go_simp; try with_reducible rfl) ?_
  refine takeB 6 rfl (by kernel_rfl) (fun _ _ _ h => h) (by rfl) (by intro w' hg; have g0 := (hg.cell (p := ⟨W.heap.size, 29, none⟩) (Nat.lt_succ_self _)).trans k29; go_simp; try with_reducible rfl) ?_
  refine takeB 7 rfl (by kernel_rfl) (fun _ _ _ h => h) (by rfl) (by intro w' hg; go_simp; try with_reducible rfl) ?_
  go_simp
  refine onlyB 8 rfl (by kernel_rfl) (by rfl) ?_
  intro K hK
  refine wp_append_rd _ _ _ rfl idTy (A := none) (n := 0) (c := 0) (xs := []) (base := u0.heap.size) rfl own_none (S := AR) (m := p) (d := o.backlog.c - 1) (news := nv .u64 I) rfl HT.out.2 (nv_one _ _) (by unfold maxLen; omega) (by omega) (Nat.le_refl _) ?_
  intro A3 c3 u1 hown hg3 _
  rw [Nat.zero_add, List.nil_append] at hown
  rw [Nat.zero_add]
  have hb3 := below_none hg3
  refine hK _ _ (hb3.mono (by omega)) ?_
  clear hK K
  replace OR2 := OR2.below hb3 hR0
  have HB5 := hide (HB2.out.trans (hb3.mono HB2.out.size))
  have HN5 := hide ((New64.own hown).mono (show W.heap.size + 2 ≤ u0.heap.size by omega))
  clear hb3 hown hg3 HB2 HT k29 hc0 O2
  go_simp
  refine onlyB 9 rfl (by kernel_rfl) (by rfl) ?_
  intro K hK
  go_simp
  refine (chBack_any o A3 p c3 _).mono ?_
  rintro e u4 ⟨rfl, hb6⟩
  have hR3 := OR2.lt
  refine hK _ _ (hb6.mono (by omega)) ?_
  clear hK K
  replace OR2 := OR2.below hb6 OR2.lt
  have HB6 := hide (HB5.out.trans (hb6.mono HB5.out.size))
  have HN6 := hide (HN5.out.below hb6)
  clear hb6 HB5 HN5
  refine takeB 10 rfl (by kernel_rfl) (fun _ _ _ h => h) (by rfl) (by intro w' hg; go_simp; try with_reducible rfl) ?_
  go_simp
  refine onlyB 11 rfl (by kernel_rfl) (by rfl) ?_
  intro K hK
  refine wp_store_ch rfl rfl (c := Ob.port o.id o.refs ⟨A3, p, c3⟩) rfl OR2 rfl ?_
  refine hK _ _ (below_row (Below.refl _ _) (Nat.le_refl _) _) ?_
  clear hK K
  have OR7 := OR2.row_same (oc (Ob.port o.id o.refs ⟨A3, p, c3⟩))
  have HN7 := hide (HN6.out.row (oc (Ob.port o.id o.refs ⟨A3, p, c3⟩)))
  have HB7 := hide (below_row HB6.out (g := W.heap.size + 1) (by omega) (oc (Ob.port o.id o.refs ⟨A3, p, c3⟩)))
  obtain ⟨u5, hu5⟩ : ∃ u5, u4.setRow (W.heap.size + 1) (oc (Ob.port o.id o.refs ⟨A3, p, c3⟩)) = u5 := ⟨_, rfl⟩
  rw [hu5] at OR7 HN7 HB7 ⊢
  refine takeB 12 rfl (by kernel_rfl) (fun _ _ _ h => h) (by rfl) (by intro w' hg; go_simp; try with_reducible rfl) ?_
  refine doneB (by kernel_rfl) ?_
  go_simp
  go_wp2_with fail
  refine bodyPost_ret (ret_tob rfl _ rfl rfl OR7) rfl ?_
  exact ⟨⟨A3, p, c3⟩, rfl, HN7.out.mono (by omega), HB7.out⟩
end Go.Proofs.Yteaippnffmhhnaa
