/- Layer 12, package channel: which objects are channels and ports (written by tools/mkchvalid.py) -/
import Derived.Test.YteaippnffmhhnaaChBare
import Derived.Test.YteaippnffmhhnaaChIds
import Derived.Test.YteaippnffmhhnaaQMem
namespace Go.Proofs.Yteaippnffmhhnaa
open Go.RowKit
/-- How often something can be referred to. -/
def IsCount (n : Int) : Prop := 0 ≤ n ∧ n ≤ 1073741824
instance (n : Int) : Decidable (IsCount n) := by unfold IsCount; infer_instance
def Ob.ChQueues (o : Ob) : Prop := o.q0.n ≤ 64 ∧ o.q1.n ≤ 64
instance (o : Ob) : Decidable o.ChQueues := by unfold Ob.ChQueues; infer_instance
set_option maxRecDepth 100000 in
set_option maxHeartbeats 4000000 in
theorem chCount_any (n : Int) (W : World) : Calls Try.prog 49 #[.int .i64 n] W (BoolPost (decide (IsCount n)) W) := by
  by_cases h0 : 0 ≤ n
  · have H0 := hide h0
    go_enter Try.func49, Try.ntmps49
    go_wp2
    go_ret
    exact ⟨ret_bool (by have := H0.out; simp [IsCount, this]), Below.refl _ _⟩
  · have H0 := hide h0
    go_enter Try.func49, Try.ntmps49
    go_wp2
    go_ret
    exact ⟨ret_bool (decide_eq_false (fun hh : IsCount n => by have := H0.out; have := hh.1; omega)).symm, Below.refl _ _⟩
set_option maxRecDepth 100000 in
set_option maxHeartbeats 4000000 in
/-- The ends. -/
theorem chEnds_any (o : Ob) (W : World) : Calls Try.prog 59 #[.agg (nv .i64 [o.e0, o.e1]).toArray] W (BoolPost (decide (o.ChEnds)) W) := by
  obtain ⟨w1, hw, O, hb⟩ : ∃ w1, W.alloc (.cells (nv .i64 [o.e0, o.e1]).toArray 38) = w1 ∧ Obl w1 W.heap.size 38 (nv .i64 [o.e0, o.e1]).toArray ∧ Below W.heap.size W w1 := ⟨_, rfl, Obl.make W _ _, (Below.refl _ _).alloc (Nat.le_refl _) _⟩
  have HB := hide hb
  have HO := hide O
  clear hb O
  have k0 : w1.cell? ⟨W.heap.size, 0, none⟩ = some (.int .i64 o.e0) := HO.out.cell 0
  have k1 : w1.cell? ⟨W.heap.size, 1, none⟩ = some (.int .i64 o.e1) := HO.out.cell 1
  go_enter Try.func59, Try.ntmps59
  try dsimp only [List.append]
  go_upto_region 1 with (fail)
  clear hw
  refine wp_region_lit ?_
  refine wpList_val rfl (by go_simp; try with_reducible rfl) ?_
  refine wpList_val rfl (by go_simp; try with_reducible rfl) ?_
  refine wpList_plain rfl fun K hK => ?_
  go_simp
  refine (chCount_any o.e0 _).mono ?_
  rintro e v2 ⟨rfl, hb2⟩
  refine hK _ _ ?_
  clear hK K
  replace HO := hide (HO.out.below hb2 HO.out.lt)
  replace HB := hide (HB.out.trans (hb2.mono HB.out.size))
  clear hb2 k0 k1
  have k0 : v2.cell? ⟨W.heap.size, 0, none⟩ = some (.int .i64 o.e0) := HO.out.cell 0
  have k1 : v2.cell? ⟨W.heap.size, 1, none⟩ = some (.int .i64 o.e1) := HO.out.cell 1
  refine wpList_val rfl (by go_simp; try with_reducible rfl) ?_
  go_simp
  generalize hd0 : decide (IsCount o.e0) = d0
  have HD0 := hide hd0
  clear hd0
  refine wpList_if 3 d0 rfl (by kernel_rfl) (by intro hg; go_simp; try with_reducible rfl) ?_
  intro u7 hu7
  refine wpList_if 3 d0 rfl (by kernel_rfl) (by intro hg; obtain rfl := hu7 hg; go_simp; try with_reducible rfl) ?_
  intro u8 hu8
  refine wpList_ifcall (decide (IsCount o.e1)) 3 d0 rfl (by kernel_rfl) (by intro hg K hK; obtain rfl := hu8 hg; go_simp; refine (chCount_any o.e1 _).mono ?_; rintro e w' ⟨rfl, hb⟩; refine hK _ w' ?_ hb; first | rfl | go_simp) ?_
  intro u9 v6 hu9 hb6
  replace HO := hide (HO.out.below hb6 HO.out.lt)
  replace HB := hide (HB.out.trans (hb6.mono HB.out.size))
  clear hb6 k0 k1
  have k0 : v6.cell? ⟨W.heap.size, 0, none⟩ = some (.int .i64 o.e0) := HO.out.cell 0
  have k1 : v6.cell? ⟨W.heap.size, 1, none⟩ = some (.int .i64 o.e1) := HO.out.cell 1
  refine wpList_pickd d0 _ rfl rfl (by go_simp; try with_reducible rfl) (by intro hg; obtain rfl := hu9 hg; go_simp; try with_reducible rfl) (by go_simp; try with_reducible rfl) ?_
  intro d10 hd10
  have HD10 := hide hd10
  clear hd10 hu7 hu8 hu9
  refine wpList_val rfl (by go_simp; try with_reducible rfl) ?_
  go_simp
  refine wpList_if 8 d10 rfl (by kernel_rfl) (by intro hg; exact exec_load_row rfl rfl HO.out rfl Try.underlying38 endsSize) ?_
  intro u12 hu12
  refine wpList_if 8 d10 rfl (by kernel_rfl) (by intro hg; exact exec_build rfl (vs := []) (by simp) built_ends) ?_
  intro u13 hu13
  refine wpList_if 8 d10 rfl (by kernel_rfl) (by intro hg; obtain rfl := hu12 hg; obtain rfl := hu13 hg; exact exec_neq_ends (L := [o.e0, o.e1]) (M := [0, 0]) rfl rfl rfl rfl rfl) ?_
  intro u14 hu14
  refine wpList_pickd d10 _ rfl rfl (by go_simp; try with_reducible rfl) (by intro hg; obtain rfl := hu14 hg; go_simp; try with_reducible rfl) (by go_simp; try with_reducible rfl) ?_
  intro d15 hd15
  have HD15 := hide hd15
  clear hd15 hu12 hu13 hu14
  refine wpList_val rfl (by go_simp; try with_reducible rfl) ?_
  refine wpList_nil ?_
  go_simp
  go_wp2_with fail
  go_ret
  refine ⟨ret_bool ?_, HB.out⟩
  rw [← HD15.out, ← HD10.out]
  rw [← HD0.out]
  rw [Bool.eq_iff_iff]
  simp only [decide_eq_true_eq]
  simp only [Bool.and_eq_true, Bool.or_eq_true, Bool.not_eq_true', decide_eq_true_eq, decide_eq_false_iff_not]
  simp only [Ob.ChEnds, IsCount, ne_eq]
  omega
set_option maxRecDepth 100000 in
set_option maxHeartbeats 4000000 in
/-- The queues. -/
theorem chQueues_any (o : Ob) (W : World) : Calls Try.prog 60 #[.agg #[.slice o.q0.A o.q0.n o.q0.c, .slice o.q1.A o.q1.n o.q1.c]] W (BoolPost (decide o.ChQueues) W) := by
  obtain ⟨w1, hw, O, hb⟩ : ∃ w1, W.alloc (.cells #[.slice o.q0.A o.q0.n o.q0.c, .slice o.q1.A o.q1.n o.q1.c] 37) = w1 ∧ Obl w1 W.heap.size 37 #[.slice o.q0.A o.q0.n o.q0.c, .slice o.q1.A o.q1.n o.q1.c] ∧ Below W.heap.size W w1 := ⟨_, rfl, Obl.make W _ _, (Below.refl _ _).alloc (Nat.le_refl _) _⟩
  have HB := hide hb
  have HO := hide O
  clear hb O
  have k0 : w1.cell? ⟨W.heap.size, 0, none⟩ = some (.slice o.q0.A o.q0.n o.q0.c) := HO.out.cell 0
  have k1 : w1.cell? ⟨W.heap.size, 1, none⟩ = some (.slice o.q1.A o.q1.n o.q1.c) := HO.out.cell 1
  go_enter Try.func60, Try.ntmps60
  try dsimp only [List.append]
  go_upto_region 1 with (fail)
  clear hw
  refine wp_region_lit ?_
  refine wpList_val rfl (by go_simp; try with_reducible rfl) ?_
  refine wpList_val rfl (by go_simp; try with_reducible rfl) ?_
  refine wpList_val rfl (by go_simp; try with_reducible rfl) ?_
  refine wpList_val rfl (by go_simp; try with_reducible rfl) ?_
  refine wpList_val rfl (by go_simp; try with_reducible rfl) ?_
  go_simp
  generalize hd0 : decide ((o.q0.n : Int) ≤ 64) = d0
  have HD0 := hide hd0
  clear hd0
  refine wpList_if 4 d0 rfl (by kernel_rfl) (by intro hg; go_simp; try with_reducible rfl) ?_
  intro u8 hu8
  refine wpList_if 4 d0 rfl (by kernel_rfl) (by intro hg; obtain rfl := hu8 hg; go_simp; try with_reducible rfl) ?_
  intro u9 hu9
  refine wpList_if 4 d0 rfl (by kernel_rfl) (by intro hg; obtain rfl := hu9 hg; go_simp; try with_reducible rfl) ?_
  intro u10 hu10
  refine wpList_if 4 d0 rfl (by kernel_rfl) (by intro hg; obtain rfl := hu10 hg; go_simp; try with_reducible rfl) ?_
  intro u11 hu11
  refine wpList_pickd d0 _ rfl rfl (by go_simp; try with_reducible rfl) (by intro hg; obtain rfl := hu11 hg; go_simp; try with_reducible rfl) (by go_simp; try with_reducible rfl) ?_
  intro d12 hd12
  have HD12 := hide hd12
  clear hd12 hu8 hu9 hu10 hu11
  refine wpList_val rfl (by go_simp; try with_reducible rfl) ?_
  refine wpList_nil ?_
  go_simp
  go_wp2_with fail
  go_ret
  refine ⟨ret_bool ?_, HB.out⟩
  rw [← HD12.out]
  rw [← HD0.out]
  rw [Bool.eq_iff_iff]
  simp only [decide_eq_true_eq, Bool.and_eq_true]
  simp only [Ob.ChQueues]
  omega
set_option maxRecDepth 100000 in
set_option maxHeartbeats 4000000 in
/--  -/
theorem chValid_any (o : Ob) (W : World) : Calls Try.prog 27 #[.agg (oc o)] W (BoolPost (decide (o.Chan)) W) := by
  obtain ⟨w1, hw, O, OR, hb, hs⟩ := start_oz W o
  have O0 := Obl.make W 41 (oc o)
  have HB := hide (below_row hb (g := W.heap.size + 1) (by omega) (oc o))
  have O2 := O.row_other (g := W.heap.size + 1) (by omega) (oc o)
  have R2 := OR.row_same (oc o)
  obtain ⟨w2, hw2⟩ : ∃ w2, w1.setRow (W.heap.size + 1) (oc o) = w2 := ⟨_, rfl⟩
  rw [hw2] at HB O2 R2
  have z32 := R2.free 32
  have y32 := R2.cell 32
  have O3 := O2.put_other (b' := W.heap.size + 1) (by omega) 32 (.int .i64 0)
  replace HB := hide (HB.out.setCell (p := ⟨W.heap.size + 1, 32, none⟩) (by simp only; omega) (.int .i64 0))
  have R3 := R2.put 32 (.int .i64 0)
  obtain ⟨w3, hw3⟩ : ∃ w3, w2.setCell ⟨W.heap.size + 1, 32, none⟩ (.int .i64 0) = w3 := ⟨_, rfl⟩
  rw [hw3] at HB O3 R3
  have z33 := R3.free 33
  have y33 := R3.cell 33
  have O4 := O3.put_other (b' := W.heap.size + 1) (by omega) 33 (.int .i64 0)
  replace HB := hide (HB.out.setCell (p := ⟨W.heap.size + 1, 33, none⟩) (by simp only; omega) (.int .i64 0))
  have R4 := R3.put 33 (.int .i64 0)
  obtain ⟨w4, hw4⟩ : ∃ w4, w3.setCell ⟨W.heap.size + 1, 33, none⟩ (.int .i64 0) = w4 := ⟨_, rfl⟩
  rw [hw4] at HB O4 R4
  have z30 := R4.free 30
  have y30 := R4.cell 30
  have O5 := O4.put_other (b' := W.heap.size + 1) (by omega) 30 (.slice none 0 0)
  replace HB := hide (HB.out.setCell (p := ⟨W.heap.size + 1, 30, none⟩) (by simp only; omega) (.slice none 0 0))
  have R5 := R4.put 30 (.slice none 0 0)
  obtain ⟨w5, hw5⟩ : ∃ w5, w4.setCell ⟨W.heap.size + 1, 30, none⟩ (.slice none 0 0) = w5 := ⟨_, rfl⟩
  rw [hw5] at HB O5 R5
  have z31 := R5.free 31
  have y31 := R5.cell 31
  have O6 := O5.put_other (b' := W.heap.size + 1) (by omega) 31 (.slice none 0 0)
  replace HB := hide (HB.out.setCell (p := ⟨W.heap.size + 1, 31, none⟩) (by simp only; omega) (.slice none 0 0))
  have R6 := R5.put 31 (.slice none 0 0)
  obtain ⟨w6, hw6⟩ : ∃ w6, w5.setCell ⟨W.heap.size + 1, 31, none⟩ (.slice none 0 0) = w6 := ⟨_, rfl⟩
  rw [hw6] at HB O6 R6
  have HO := hide O6
  have HR : Hid (Obl w6 (W.heap.size + 1) 41 (oc o.unchan)) := hide R6
  clear hb hs
  go_enter Try.func27, Try.ntmps27
  try dsimp only [List.append]
  go_upto_region 3 with (first | (refine load_ob rfl _ rfl rfl O0 ?_) | (refine store_ob rfl _ _ rfl rfl (c := o) rfl OR rfl ?_; rw [hw2]) | (refine store_two rfl _ _ rfl endsSize rfl (u := .int .i64 0) (v := .int .i64 0) rfl rfl rfl R2 (show (34 : Nat) ≤ 36 by decide) (k1 := 33) rfl ?_; rw [hw3, hw4]) | (refine store_two rfl _ _ rfl qSize rfl (u := .slice none 0 0) (v := .slice none 0 0) rfl rfl rfl R4 (show (32 : Nat) ≤ 36 by decide) (k1 := 31) rfl ?_; rw [hw5, hw6]) | (refine wpList_val (by rfl) (exec_build rfl (vs := []) (by simp) built_ends) ?_) | (refine wpList_val (by rfl) (exec_build rfl (vs := []) (by simp) built_noqs) ?_) | fail)
  clear O0 O OR hw hw2 O2 R2 O3 R3 O4 R4 O5 R5 O6 R6 hw3 z32 y32 hw4 z33 y33 hw5 z30 y30 hw6 z31 y31
  have k0 : w6.cell? ⟨W.heap.size, 0, none⟩ = some (.int .u64 o.id) := HO.out.cell 0
  have k1 : w6.cell? ⟨W.heap.size, 1, none⟩ = some (.int .i64 o.kind) := HO.out.cell 1
  refine wp_region_lit ?_
  refine wpList_val rfl (by go_simp; try with_reducible rfl) ?_
  refine wpList_val rfl (by go_simp; try with_reducible rfl) ?_
  refine wpList_val rfl (by go_simp; try with_reducible rfl) ?_
  refine wpList_val rfl (by go_simp; try with_reducible rfl) ?_
  go_simp
  generalize hd0 : (o.kind == 7) = d0
  have HD0 := hide hd0
  clear hd0
  refine wpList_if 3 d0 rfl (by kernel_rfl) (by intro hg; go_simp; try with_reducible rfl) ?_
  intro u13 hu13
  refine wpList_if 3 d0 rfl (by kernel_rfl) (by intro hg; obtain rfl := hu13 hg; go_simp; try with_reducible rfl) ?_
  intro u14 hu14
  refine wpList_if 3 d0 rfl (by kernel_rfl) (by intro hg; obtain rfl := hu14 hg; go_simp; try with_reducible rfl) ?_
  intro u15 hu15
  refine wpList_pickd d0 _ rfl rfl (by go_simp; try with_reducible rfl) (by intro hg; obtain rfl := hu15 hg; go_simp; try with_reducible rfl) (by go_simp; try with_reducible rfl) ?_
  intro d16 hd16
  have HD16 := hide hd16
  clear hd16 hu13 hu14 hu15
  refine wpList_val rfl (by go_simp; try with_reducible rfl) ?_
  go_simp
  refine wpList_if 8 d16 rfl (by kernel_rfl) (by intro hg; go_simp; try with_reducible rfl) ?_
  intro u18 hu18
  refine wpList_if 8 d16 rfl (by kernel_rfl) (by intro hg; obtain rfl := hu18 hg; exact exec_load_ends rfl rfl HO.out) ?_
  intro u19 hu19
  refine wpList_ifcall (decide (o.ChEnds)) 8 d16 rfl (by kernel_rfl) (by intro hg K hK; obtain rfl := hu19 hg; go_simp; refine (chEnds_any o _).mono ?_; rintro e w' ⟨rfl, hb⟩; refine hK _ w' ?_ hb; first | rfl | go_simp) ?_
  intro u20 v11 hu20 hb11
  replace HO := hide (HO.out.below hb11 HO.out.lt)
  replace HB := hide (HB.out.trans (hb11.mono HB.out.size))
  replace HR := hide (HR.out.below hb11 HR.out.lt)
  clear hb11 k0 k1
  have k0 : v11.cell? ⟨W.heap.size, 0, none⟩ = some (.int .u64 o.id) := HO.out.cell 0
  have k1 : v11.cell? ⟨W.heap.size, 1, none⟩ = some (.int .i64 o.kind) := HO.out.cell 1
  refine wpList_pickd d16 _ rfl rfl (by go_simp; try with_reducible rfl) (by intro hg; obtain rfl := hu20 hg; go_simp; try with_reducible rfl) (by go_simp; try with_reducible rfl) ?_
  intro d21 hd21
  have HD21 := hide hd21
  clear hd21 hu18 hu19 hu20
  refine wpList_val rfl (by go_simp; try with_reducible rfl) ?_
  go_simp
  refine wpList_if 13 d21 rfl (by kernel_rfl) (by intro hg; go_simp; try with_reducible rfl) ?_
  intro u23 hu23
  refine wpList_if 13 d21 rfl (by kernel_rfl) (by intro hg; obtain rfl := hu23 hg; exact exec_load_qs rfl rfl HO.out) ?_
  intro u24 hu24
  refine wpList_ifcall (decide (o.ChQueues)) 13 d21 rfl (by kernel_rfl) (by intro hg K hK; obtain rfl := hu24 hg; go_simp; refine (chQueues_any o _).mono ?_; rintro e w' ⟨rfl, hb⟩; refine hK _ w' ?_ hb; first | rfl | go_simp) ?_
  intro u25 v16 hu25 hb16
  replace HO := hide (HO.out.below hb16 HO.out.lt)
  replace HB := hide (HB.out.trans (hb16.mono HB.out.size))
  replace HR := hide (HR.out.below hb16 HR.out.lt)
  clear hb16 k0 k1
  have k0 : v16.cell? ⟨W.heap.size, 0, none⟩ = some (.int .u64 o.id) := HO.out.cell 0
  have k1 : v16.cell? ⟨W.heap.size, 1, none⟩ = some (.int .i64 o.kind) := HO.out.cell 1
  refine wpList_pickd d21 _ rfl rfl (by go_simp; try with_reducible rfl) (by intro hg; obtain rfl := hu25 hg; go_simp; try with_reducible rfl) (by go_simp; try with_reducible rfl) ?_
  intro d26 hd26
  have HD26 := hide hd26
  clear hd26 hu23 hu24 hu25
  refine wpList_val rfl (by go_simp; try with_reducible rfl) ?_
  go_simp
  refine wpList_if 18 d26 rfl (by kernel_rfl) (by intro hg; exact exec_load_ob rfl rfl HR.out) ?_
  intro u28 hu28
  refine wpList_ifcall (decide (o.unchan.Clear)) 18 d26 rfl (by kernel_rfl) (by intro hg K hK; obtain rfl := hu28 hg; go_simp; refine (chBare_any o.unchan _).mono ?_; rintro e w' ⟨rfl, hb⟩; refine hK _ w' ?_ hb; first | rfl | go_simp) ?_
  intro u29 v20 hu29 hb20
  replace HO := hide (HO.out.below hb20 HO.out.lt)
  replace HB := hide (HB.out.trans (hb20.mono HB.out.size))
  replace HR := hide (HR.out.below hb20 HR.out.lt)
  clear hb20 k0 k1
  have k0 : v20.cell? ⟨W.heap.size, 0, none⟩ = some (.int .u64 o.id) := HO.out.cell 0
  have k1 : v20.cell? ⟨W.heap.size, 1, none⟩ = some (.int .i64 o.kind) := HO.out.cell 1
  refine wpList_pickd d26 _ rfl rfl (by go_simp; try with_reducible rfl) (by intro hg; obtain rfl := hu29 hg; go_simp; try with_reducible rfl) (by go_simp; try with_reducible rfl) ?_
  intro d30 hd30
  have HD30 := hide hd30
  clear hd30 hu28 hu29
  refine wpList_val rfl (by go_simp; try with_reducible rfl) ?_
  refine wpList_nil ?_
  go_simp
  go_wp2_with fail
  go_ret
  refine ⟨ret_bool ?_, HB.out⟩
  rw [← HD30.out, ← HD26.out, ← HD21.out, ← HD16.out]
  rw [← HD0.out]
  rw [Bool.eq_iff_iff]
  simp only [decide_eq_true_eq, Bool.and_eq_true, beq_iff_eq, bne_iff_ne]
  rw [unchan_clear]
  simp only [Ob.Chan, Ob.ChQueues, and_assoc]
set_option maxRecDepth 100000 in
set_option maxHeartbeats 4000000 in
/--  -/
theorem chValidPort_any (o : Ob) (W : World) (I : List Int) (h : Nums .u64 W W.heap.size o.backlog.A o.backlog.n I) (hc : o.backlog.n ≤ o.backlog.c) : Calls Try.prog 18 #[.agg (oc o)] W (BoolPost (decide (o.Port I)) W) := by
  have HC := hide hc
  have HI := hide h
  clear h hc
  obtain ⟨w1, hw, O, OR, hb, hs⟩ := start_oz W o
  have O0 := Obl.make W 41 (oc o)
  have HB := hide (below_row hb (g := W.heap.size + 1) (by omega) (oc o))
  have O2 := O.row_other (g := W.heap.size + 1) (by omega) (oc o)
  have R2 := OR.row_same (oc o)
  obtain ⟨w2, hw2⟩ : ∃ w2, w1.setRow (W.heap.size + 1) (oc o) = w2 := ⟨_, rfl⟩
  rw [hw2] at HB O2 R2
  have z2 := R2.free 2
  have y2 := R2.cell 2
  have O3 := O2.put_other (b' := W.heap.size + 1) (by omega) 2 (.int .i64 0)
  replace HB := hide (HB.out.setCell (p := ⟨W.heap.size + 1, 2, none⟩) (by simp only; omega) (.int .i64 0))
  have R3 := R2.put 2 (.int .i64 0)
  obtain ⟨w3, hw3⟩ : ∃ w3, w2.setCell ⟨W.heap.size + 1, 2, none⟩ (.int .i64 0) = w3 := ⟨_, rfl⟩
  rw [hw3] at HB O3 R3
  have z29 := R3.free 29
  have y29 := R3.cell 29
  have O4 := O3.put_other (b' := W.heap.size + 1) (by omega) 29 (.slice none 0 0)
  replace HB := hide (HB.out.setCell (p := ⟨W.heap.size + 1, 29, none⟩) (by simp only; omega) (.slice none 0 0))
  have R4 := R3.put 29 (.slice none 0 0)
  obtain ⟨w4, hw4⟩ : ∃ w4, w3.setCell ⟨W.heap.size + 1, 29, none⟩ (.slice none 0 0) = w4 := ⟨_, rfl⟩
  rw [hw4] at HB O4 R4
  have HO := hide O4
  have HR : Hid (Obl w4 (W.heap.size + 1) 41 (oc o.unport)) := hide R4
  clear hb hs
  go_enter Try.func18, Try.ntmps18
  try dsimp only [List.append]
  go_upto_region 3 with (first | (refine load_ob rfl _ rfl rfl O0 ?_) | (refine store_ob rfl _ _ rfl rfl (c := o) rfl OR rfl ?_; rw [hw2]) | fail)
  clear O0 O OR hw hw2 O2 R2 O3 R3 O4 R4 hw3 z2 y2 hw4 z29 y29
  have k0 : w4.cell? ⟨W.heap.size, 0, none⟩ = some (.int .u64 o.id) := HO.out.cell 0
  have k1 : w4.cell? ⟨W.heap.size, 1, none⟩ = some (.int .i64 o.kind) := HO.out.cell 1
  have k2 : w4.cell? ⟨W.heap.size, 2, none⟩ = some (.int .i64 o.refs) := HO.out.cell 2
  have k29 : w4.cell? ⟨W.heap.size, 29, none⟩ = some (.slice o.backlog.A o.backlog.n o.backlog.c) := HO.out.cell 29
  replace HI := hide ((HI.out.below HB.out).mono HB.out.size)
  refine wp_region_lit ?_
  refine wpList_val rfl (by go_simp; try with_reducible rfl) ?_
  refine wpList_val rfl (by go_simp; try with_reducible rfl) ?_
  refine wpList_val rfl (by go_simp; try with_reducible rfl) ?_
  refine wpList_val rfl (by go_simp; try with_reducible rfl) ?_
  go_simp
  generalize hd0 : (o.kind == 6) = d0
  have HD0 := hide hd0
  clear hd0
  refine wpList_if 3 d0 rfl (by kernel_rfl) (by intro hg; go_simp; try with_reducible rfl) ?_
  intro u11 hu11
  refine wpList_if 3 d0 rfl (by kernel_rfl) (by intro hg; obtain rfl := hu11 hg; go_simp; try with_reducible rfl) ?_
  intro u12 hu12
  refine wpList_if 3 d0 rfl (by kernel_rfl) (by intro hg; obtain rfl := hu12 hg; go_simp; try with_reducible rfl) ?_
  intro u13 hu13
  refine wpList_pickd d0 _ rfl rfl (by go_simp; try with_reducible rfl) (by intro hg; obtain rfl := hu13 hg; go_simp; try with_reducible rfl) (by go_simp; try with_reducible rfl) ?_
  intro d14 hd14
  have HD14 := hide hd14
  clear hd14 hu11 hu12 hu13
  refine wpList_val rfl (by go_simp; try with_reducible rfl) ?_
  go_simp
  refine wpList_if 8 d14 rfl (by kernel_rfl) (by intro hg; go_simp; try with_reducible rfl) ?_
  intro u16 hu16
  refine wpList_if 8 d14 rfl (by kernel_rfl) (by intro hg; obtain rfl := hu16 hg; go_simp; try with_reducible rfl) ?_
  intro u17 hu17
  refine wpList_ifcall (decide (IsCount o.refs)) 8 d14 rfl (by kernel_rfl) (by intro hg K hK; obtain rfl := hu17 hg; go_simp; refine (chCount_any o.refs _).mono ?_; rintro e w' ⟨rfl, hb⟩; refine hK _ w' ?_ hb; first | rfl | go_simp) ?_
  intro u18 v11 hu18 hb11
  replace HO := hide (HO.out.below hb11 HO.out.lt)
  replace HB := hide (HB.out.trans (hb11.mono HB.out.size))
  replace HR := hide (HR.out.below hb11 HR.out.lt)
  replace HI := hide ((HI.out.below hb11).mono hb11.size)
  clear hb11 k0 k1 k2 k29
  have k0 : v11.cell? ⟨W.heap.size, 0, none⟩ = some (.int .u64 o.id) := HO.out.cell 0
  have k1 : v11.cell? ⟨W.heap.size, 1, none⟩ = some (.int .i64 o.kind) := HO.out.cell 1
  have k2 : v11.cell? ⟨W.heap.size, 2, none⟩ = some (.int .i64 o.refs) := HO.out.cell 2
  have k29 : v11.cell? ⟨W.heap.size, 29, none⟩ = some (.slice o.backlog.A o.backlog.n o.backlog.c) := HO.out.cell 29
  refine wpList_pickd d14 _ rfl rfl (by go_simp; try with_reducible rfl) (by intro hg; obtain rfl := hu18 hg; go_simp; try with_reducible rfl) (by go_simp; try with_reducible rfl) ?_
  intro d19 hd19
  have HD19 := hide hd19
  clear hd19 hu16 hu17 hu18
  refine wpList_val rfl (by go_simp; try with_reducible rfl) ?_
  go_simp
  refine wpList_if 13 d19 rfl (by kernel_rfl) (by intro hg; go_simp; try with_reducible rfl) ?_
  intro u21 hu21
  refine wpList_if 13 d19 rfl (by kernel_rfl) (by intro hg; obtain rfl := hu21 hg; go_simp; try with_reducible rfl) ?_
  intro u22 hu22
  refine wpList_ifcall (decide (Few o.backlog.n I)) 13 d19 rfl (by kernel_rfl) (by intro hg K hK; obtain rfl := hu22 hg; go_simp; refine (chBacklog_any o.backlog.A o.backlog.n o.backlog.c I _ HI.out HC.out).mono ?_; rintro e w' ⟨rfl, hb⟩; refine hK _ w' ?_ hb; first | rfl | go_simp) ?_
  intro u23 v16 hu23 hb16
  replace HO := hide (HO.out.below hb16 HO.out.lt)
  replace HB := hide (HB.out.trans (hb16.mono HB.out.size))
  replace HR := hide (HR.out.below hb16 HR.out.lt)
  replace HI := hide ((HI.out.below hb16).mono hb16.size)
  clear hb16 k0 k1 k2 k29
  have k0 : v16.cell? ⟨W.heap.size, 0, none⟩ = some (.int .u64 o.id) := HO.out.cell 0
  have k1 : v16.cell? ⟨W.heap.size, 1, none⟩ = some (.int .i64 o.kind) := HO.out.cell 1
  have k2 : v16.cell? ⟨W.heap.size, 2, none⟩ = some (.int .i64 o.refs) := HO.out.cell 2
  have k29 : v16.cell? ⟨W.heap.size, 29, none⟩ = some (.slice o.backlog.A o.backlog.n o.backlog.c) := HO.out.cell 29
  refine wpList_pickd d19 _ rfl rfl (by go_simp; try with_reducible rfl) (by intro hg; obtain rfl := hu23 hg; go_simp; try with_reducible rfl) (by go_simp; try with_reducible rfl) ?_
  intro d24 hd24
  have HD24 := hide hd24
  clear hd24 hu21 hu22 hu23
  refine wpList_val rfl (by go_simp; try with_reducible rfl) ?_
  go_simp
  refine wpList_if 18 d24 rfl (by kernel_rfl) (by intro hg; exact exec_load_ob rfl rfl HR.out) ?_
  intro u26 hu26
  refine wpList_ifcall (decide (o.unport.Clear)) 18 d24 rfl (by kernel_rfl) (by intro hg K hK; obtain rfl := hu26 hg; go_simp; refine (chBare_any o.unport _).mono ?_; rintro e w' ⟨rfl, hb⟩; refine hK _ w' ?_ hb; first | rfl | go_simp) ?_
  intro u27 v20 hu27 hb20
  replace HO := hide (HO.out.below hb20 HO.out.lt)
  replace HB := hide (HB.out.trans (hb20.mono HB.out.size))
  replace HR := hide (HR.out.below hb20 HR.out.lt)
  replace HI := hide ((HI.out.below hb20).mono hb20.size)
  clear hb20 k0 k1 k2 k29
  have k0 : v20.cell? ⟨W.heap.size, 0, none⟩ = some (.int .u64 o.id) := HO.out.cell 0
  have k1 : v20.cell? ⟨W.heap.size, 1, none⟩ = some (.int .i64 o.kind) := HO.out.cell 1
  have k2 : v20.cell? ⟨W.heap.size, 2, none⟩ = some (.int .i64 o.refs) := HO.out.cell 2
  have k29 : v20.cell? ⟨W.heap.size, 29, none⟩ = some (.slice o.backlog.A o.backlog.n o.backlog.c) := HO.out.cell 29
  refine wpList_pickd d24 _ rfl rfl (by go_simp; try with_reducible rfl) (by intro hg; obtain rfl := hu27 hg; go_simp; try with_reducible rfl) (by go_simp; try with_reducible rfl) ?_
  intro d28 hd28
  have HD28 := hide hd28
  clear hd28 hu26 hu27
  refine wpList_val rfl (by go_simp; try with_reducible rfl) ?_
  refine wpList_nil ?_
  go_simp
  go_wp2_with fail
  go_ret
  refine ⟨ret_bool ?_, HB.out⟩
  rw [← HD28.out, ← HD24.out, ← HD19.out, ← HD14.out]
  rw [← HD0.out]
  rw [Bool.eq_iff_iff]
  simp only [decide_eq_true_eq, Bool.and_eq_true, beq_iff_eq, bne_iff_ne]
  rw [unport_clear, port_iff]
  simp only [IsCount, and_assoc]
end Go.Proofs.Yteaippnffmhhnaa
