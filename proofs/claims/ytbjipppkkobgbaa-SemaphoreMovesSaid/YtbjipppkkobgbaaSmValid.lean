/- Layer 13, package semaphore: which objects are semaphores (written by tools/mksmvalid.py) -/
import Derived.Test.YtbjipppkkobgbaaSmMath
import Derived.Deep.CutRange
namespace Go.Proofs.Ytbjipppkkobgbaa
open Go.RowKit
set_option maxRecDepth 100000 in
set_option maxHeartbeats 4000000 in
/-- No program. -/
theorem smNoProg_any (o : Ob) (W : World) : Calls Try.prog 60 #[.agg #[.slice o.code.A o.code.n o.code.c, .slice o.strs.A o.strs.n o.strs.c, .int .i64 o.ppages]] W (BoolPost (decide o.NoProg) W) := by
  obtain ⟨w1, hw, O, hb⟩ : ∃ w1, W.alloc (.cells #[.slice o.code.A o.code.n o.code.c, .slice o.strs.A o.strs.n o.strs.c, .int .i64 o.ppages] 27) = w1 ∧ Obl w1 W.heap.size 27 #[.slice o.code.A o.code.n o.code.c, .slice o.strs.A o.strs.n o.strs.c, .int .i64 o.ppages] ∧ Below W.heap.size W w1 := ⟨_, rfl, Obl.make W _ _, (Below.refl _ _).alloc (Nat.le_refl _) _⟩
  have HB := hide hb
  have HO := hide O
  clear hb O
  have k0 : w1.cell? ⟨W.heap.size, 0, none⟩ = some (.slice o.code.A o.code.n o.code.c) := HO.out.cell 0
  have k1 : w1.cell? ⟨W.heap.size, 1, none⟩ = some (.slice o.strs.A o.strs.n o.strs.c) := HO.out.cell 1
  have k2 : w1.cell? ⟨W.heap.size, 2, none⟩ = some (.int .i64 o.ppages) := HO.out.cell 2
  go_enter Try.func60, Try.ntmps60
  try dsimp only [List.append]
  go_upto_region 1 with (fail)
  clear hw
  refine wp_region_lit ?_
  refine wpList_val rfl (by go_simp; try with_reducible rfl) ?_
  refine wpList_val rfl (by go_simp; try with_reducible rfl) ?_
  refine wpList_val rfl (by go_simp; try with_reducible rfl) ?_
  refine wpList_val rfl (by go_simp; try with_reducible rfl) ?_
  refine wpList_val rfl (by go_simp; try with_reducible rfl) ?_
  go_simp
  generalize hd0 : ((o.code.n : Int) == 0) = d0
  have HD0 := hide hd0
  clear hd0
  refine wpList_if 4 d0 rfl (by kernel_rfl) (by intro hg; go_simp; try with_reducible rfl) ?_
  intro u8 hu8
  refine wpList_if 4 d0 rfl (by kernel_rfl) (by intro hg; obtain rfl := hu8 hg; go_simp; try with_reducible rfl) ?_
  intro u9 hu9
  refine wpList_if 4 d0 rfl (by kernel_rfl) (by intro hg; obtain rfl := hu9 hg; go_simp; try with_reducible rfl) ?_
  intro u10 hu10
  refine wpList_if 4 d0 rfl (by kernel_rfl) (by intro hg; obtain rfl := hu10 hg; go_simp; try with_reducible rfl) ?_
  intro u11 hu11
  refine wpList_pickd d0 _ rfl rfl (by go_simp; try with_reducible rfl) (by intro hg; obtain rfl := hu11 hg; go_simp; try with_reducible rfl) (by go_simp; try with_reducible rfl) ?_
  intro d12 hd12
  have HD12 := hide hd12
  clear hd12 hu8 hu9 hu10 hu11
  refine wpList_val rfl (by go_simp; try with_reducible rfl) ?_
  go_simp
  refine wpList_if 10 d12 rfl (by kernel_rfl) (by intro hg; go_simp; try with_reducible rfl) ?_
  intro u14 hu14
  refine wpList_if 10 d12 rfl (by kernel_rfl) (by intro hg; obtain rfl := hu14 hg; go_simp; try with_reducible rfl) ?_
  intro u15 hu15
  refine wpList_if 10 d12 rfl (by kernel_rfl) (by intro hg; obtain rfl := hu15 hg; go_simp; try with_reducible rfl) ?_
  intro u16 hu16
  refine wpList_pickd d12 _ rfl rfl (by go_simp; try with_reducible rfl) (by intro hg; obtain rfl := hu16 hg; go_simp; try with_reducible rfl) (by go_simp; try with_reducible rfl) ?_
  intro d17 hd17
  have HD17 := hide hd17
  clear hd17 hu14 hu15 hu16
  refine wpList_val rfl (by go_simp; try with_reducible rfl) ?_
  refine wpList_nil ?_
  go_simp
  go_wp2_with fail
  go_ret
  refine ⟨ret_bool ?_, HB.out⟩
  rw [← HD17.out, ← HD12.out]
  rw [← HD0.out]
  rw [Bool.eq_iff_iff]
  simp only [decide_eq_true_eq]
  simp [Ob.NoProg, and_assoc]
set_option maxRecDepth 100000 in
set_option maxHeartbeats 4000000 in
/-- Nothing of a process. -/
theorem smNoProc_any (o : Ob) (W : World) : Calls Try.prog 54 #[.agg (pcell o)] W (BoolPost (decide o.NoProc) W) := by
  obtain ⟨w1, hw, O, hb⟩ : ∃ w1, W.alloc (.cells (pcell o) 34) = w1 ∧ Obl w1 W.heap.size 34 (pcell o) ∧ Below W.heap.size W w1 := ⟨_, rfl, Obl.make W _ _, (Below.refl _ _).alloc (Nat.le_refl _) _⟩
  have HB := hide hb
  have HO := hide O
  clear hb O
  have k0 : w1.cell? ⟨W.heap.size, 0, none⟩ = some (.int .i64 o.state) := HO.out.cell 0
  have k1 : w1.cell? ⟨W.heap.size, 1, none⟩ = some (.int .u64 o.parent) := HO.out.cell 1
  have k2 : w1.cell? ⟨W.heap.size, 2, none⟩ = some (.slice o.children.A o.children.n o.children.c) := HO.out.cell 2
  have k3 : w1.cell? ⟨W.heap.size, 3, none⟩ = some (.slice o.code.A o.code.n o.code.c) := HO.out.cell 3
  have k4 : w1.cell? ⟨W.heap.size, 4, none⟩ = some (.slice o.strs.A o.strs.n o.strs.c) := HO.out.cell 4
  have k5 : w1.cell? ⟨W.heap.size, 5, none⟩ = some (.int .i64 o.ppages) := HO.out.cell 5
  have k15 : w1.cell? ⟨W.heap.size, 15, none⟩ = some (.slice o.pages.A o.pages.n o.pages.c) := HO.out.cell 15
  have k16 : w1.cell? ⟨W.heap.size, 16, none⟩ = some (.slice o.table.A o.table.n o.table.c) := HO.out.cell 16
  have k17 : w1.cell? ⟨W.heap.size, 17, none⟩ = some (.int .i64 o.pending) := HO.out.cell 17
  have k18 : w1.cell? ⟨W.heap.size, 18, none⟩ = some (.int .i64 o.alarm) := HO.out.cell 18
  have k19 : w1.cell? ⟨W.heap.size, 19, none⟩ = some (.int .i64 o.status) := HO.out.cell 19
  go_enter Try.func54, Try.ntmps54
  try dsimp only [List.append]
  go_upto_region 1 with (fail)
  clear hw
  refine wp_region_lit ?_
  refine wpList_val rfl (by go_simp; try with_reducible rfl) ?_
  refine wpList_val rfl (by go_simp; try with_reducible rfl) ?_
  refine wpList_val rfl (by go_simp; try with_reducible rfl) ?_
  refine wpList_val rfl (by go_simp; try with_reducible rfl) ?_
  go_simp
  generalize hd0 : (o.state == 0) = d0
  have HD0 := hide hd0
  clear hd0
  refine wpList_if 3 d0 rfl (by kernel_rfl) (by intro hg; go_simp; try with_reducible rfl) ?_
  intro u7 hu7
  refine wpList_if 3 d0 rfl (by kernel_rfl) (by intro hg; obtain rfl := hu7 hg; go_simp; try with_reducible rfl) ?_
  intro u8 hu8
  refine wpList_if 3 d0 rfl (by kernel_rfl) (by intro hg; obtain rfl := hu8 hg; go_simp; try with_reducible rfl) ?_
  intro u9 hu9
  refine wpList_pickd d0 _ rfl rfl (by go_simp; try with_reducible rfl) (by intro hg; obtain rfl := hu9 hg; go_simp; try with_reducible rfl) (by go_simp; try with_reducible rfl) ?_
  intro d10 hd10
  have HD10 := hide hd10
  clear hd10 hu7 hu8 hu9
  refine wpList_val rfl (by go_simp; try with_reducible rfl) ?_
  go_simp
  refine wpList_if 8 d10 rfl (by kernel_rfl) (by intro hg; go_simp; try with_reducible rfl) ?_
  intro u12 hu12
  refine wpList_if 8 d10 rfl (by kernel_rfl) (by intro hg; obtain rfl := hu12 hg; go_simp; try with_reducible rfl) ?_
  intro u13 hu13
  refine wpList_if 8 d10 rfl (by kernel_rfl) (by intro hg; obtain rfl := hu13 hg; go_simp; try with_reducible rfl) ?_
  intro u14 hu14
  refine wpList_if 8 d10 rfl (by kernel_rfl) (by intro hg; obtain rfl := hu14 hg; go_simp; try with_reducible rfl) ?_
  intro u15 hu15
  refine wpList_pickd d10 _ rfl rfl (by go_simp; try with_reducible rfl) (by intro hg; obtain rfl := hu15 hg; go_simp; try with_reducible rfl) (by go_simp; try with_reducible rfl) ?_
  intro d16 hd16
  have HD16 := hide hd16
  clear hd16 hu12 hu13 hu14 hu15
  refine wpList_val rfl (by go_simp; try with_reducible rfl) ?_
  go_simp
  refine wpList_if 14 d16 rfl (by kernel_rfl) (by intro hg; go_simp; try with_reducible rfl) ?_
  intro u18 hu18
  refine wpList_if 14 d16 rfl (by kernel_rfl) (by intro hg; obtain rfl := hu18 hg; exact exec_load_prog rfl rfl HO.out) ?_
  intro u19 hu19
  refine wpList_ifcall (decide (o.NoProg)) 14 d16 rfl (by kernel_rfl) (by intro hg K hK; obtain rfl := hu19 hg; go_simp; refine (smNoProg_any o _).mono ?_; rintro e w' ⟨rfl, hb⟩; refine hK _ w' ?_ hb; first | rfl | go_simp) ?_
  intro u20 v17 hu20 hb17
  replace HO := hide (HO.out.below hb17 HO.out.lt)
  replace HB := hide (HB.out.trans (hb17.mono HB.out.size))
  clear hb17 k0 k1 k2 k3 k4 k5 k15 k16 k17 k18 k19
  have k0 : v17.cell? ⟨W.heap.size, 0, none⟩ = some (.int .i64 o.state) := HO.out.cell 0
  have k1 : v17.cell? ⟨W.heap.size, 1, none⟩ = some (.int .u64 o.parent) := HO.out.cell 1
  have k2 : v17.cell? ⟨W.heap.size, 2, none⟩ = some (.slice o.children.A o.children.n o.children.c) := HO.out.cell 2
  have k3 : v17.cell? ⟨W.heap.size, 3, none⟩ = some (.slice o.code.A o.code.n o.code.c) := HO.out.cell 3
  have k4 : v17.cell? ⟨W.heap.size, 4, none⟩ = some (.slice o.strs.A o.strs.n o.strs.c) := HO.out.cell 4
  have k5 : v17.cell? ⟨W.heap.size, 5, none⟩ = some (.int .i64 o.ppages) := HO.out.cell 5
  have k15 : v17.cell? ⟨W.heap.size, 15, none⟩ = some (.slice o.pages.A o.pages.n o.pages.c) := HO.out.cell 15
  have k16 : v17.cell? ⟨W.heap.size, 16, none⟩ = some (.slice o.table.A o.table.n o.table.c) := HO.out.cell 16
  have k17 : v17.cell? ⟨W.heap.size, 17, none⟩ = some (.int .i64 o.pending) := HO.out.cell 17
  have k18 : v17.cell? ⟨W.heap.size, 18, none⟩ = some (.int .i64 o.alarm) := HO.out.cell 18
  have k19 : v17.cell? ⟨W.heap.size, 19, none⟩ = some (.int .i64 o.status) := HO.out.cell 19
  refine wpList_pickd d16 _ rfl rfl (by go_simp; try with_reducible rfl) (by intro hg; obtain rfl := hu20 hg; go_simp; try with_reducible rfl) (by go_simp; try with_reducible rfl) ?_
  intro d21 hd21
  have HD21 := hide hd21
  clear hd21 hu18 hu19 hu20
  refine wpList_val rfl (by go_simp; try with_reducible rfl) ?_
  go_simp
  refine wpList_if 19 d21 rfl (by kernel_rfl) (by intro hg; go_simp; try with_reducible rfl) ?_
  intro u23 hu23
  refine wpList_if 19 d21 rfl (by kernel_rfl) (by intro hg; obtain rfl := hu23 hg; exact exec_load_pcpu rfl rfl HO.out) ?_
  intro u24 hu24
  refine wpList_if 19 d21 rfl (by kernel_rfl) (by intro hg; exact exec_build rfl (vs := []) (by simp) built_nocpu) ?_
  intro u25 hu25
  refine wpList_if 19 d21 rfl (by kernel_rfl) (by intro hg; obtain rfl := hu24 hg; obtain rfl := hu25 hg; exact exec_eql_cpu rfl rfl rfl (x := o.cpu) (y := Ob.noCpu) rfl rfl) ?_
  intro u26 hu26
  refine wpList_pickd d21 _ rfl rfl (by go_simp; try with_reducible rfl) (by intro hg; obtain rfl := hu26 hg; go_simp; try with_reducible rfl) (by go_simp; try with_reducible rfl) ?_
  intro d27 hd27
  have HD27 := hide hd27
  clear hd27 hu23 hu24 hu25 hu26
  refine wpList_val rfl (by go_simp; try with_reducible rfl) ?_
  go_simp
  refine wpList_if 25 d27 rfl (by kernel_rfl) (by intro hg; go_simp; try with_reducible rfl) ?_
  intro u29 hu29
  refine wpList_if 25 d27 rfl (by kernel_rfl) (by intro hg; obtain rfl := hu29 hg; go_simp; try with_reducible rfl) ?_
  intro u30 hu30
  refine wpList_if 25 d27 rfl (by kernel_rfl) (by intro hg; obtain rfl := hu30 hg; go_simp; try with_reducible rfl) ?_
  intro u31 hu31
  refine wpList_if 25 d27 rfl (by kernel_rfl) (by intro hg; obtain rfl := hu31 hg; go_simp; try with_reducible rfl) ?_
  intro u32 hu32
  refine wpList_pickd d27 _ rfl rfl (by go_simp; try with_reducible rfl) (by intro hg; obtain rfl := hu32 hg; go_simp; try with_reducible rfl) (by go_simp; try with_reducible rfl) ?_
  intro d33 hd33
  have HD33 := hide hd33
  clear hd33 hu29 hu30 hu31 hu32
  refine wpList_val rfl (by go_simp; try with_reducible rfl) ?_
  go_simp
  refine wpList_if 31 d33 rfl (by kernel_rfl) (by intro hg; go_simp; try with_reducible rfl) ?_
  intro u35 hu35
  refine wpList_if 31 d33 rfl (by kernel_rfl) (by intro hg; obtain rfl := hu35 hg; go_simp; try with_reducible rfl) ?_
  intro u36 hu36
  refine wpList_if 31 d33 rfl (by kernel_rfl) (by intro hg; obtain rfl := hu36 hg; go_simp; try with_reducible rfl) ?_
  intro u37 hu37
  refine wpList_if 31 d33 rfl (by kernel_rfl) (by intro hg; obtain rfl := hu37 hg; go_simp; try with_reducible rfl) ?_
  intro u38 hu38
  refine wpList_pickd d33 _ rfl rfl (by go_simp; try with_reducible rfl) (by intro hg; obtain rfl := hu38 hg; go_simp; try with_reducible rfl) (by go_simp; try with_reducible rfl) ?_
  intro d39 hd39
  have HD39 := hide hd39
  clear hd39 hu35 hu36 hu37 hu38
  refine wpList_val rfl (by go_simp; try with_reducible rfl) ?_
  go_simp
  refine wpList_if 37 d39 rfl (by kernel_rfl) (by intro hg; go_simp; try with_reducible rfl) ?_
  intro u41 hu41
  refine wpList_if 37 d39 rfl (by kernel_rfl) (by intro hg; obtain rfl := hu41 hg; go_simp; try with_reducible rfl) ?_
  intro u42 hu42
  refine wpList_if 37 d39 rfl (by kernel_rfl) (by intro hg; obtain rfl := hu42 hg; go_simp; try with_reducible rfl) ?_
  intro u43 hu43
  refine wpList_pickd d39 _ rfl rfl (by go_simp; try with_reducible rfl) (by intro hg; obtain rfl := hu43 hg; go_simp; try with_reducible rfl) (by go_simp; try with_reducible rfl) ?_
  intro d44 hd44
  have HD44 := hide hd44
  clear hd44 hu41 hu42 hu43
  refine wpList_val rfl (by go_simp; try with_reducible rfl) ?_
  go_simp
  refine wpList_if 42 d44 rfl (by kernel_rfl) (by intro hg; go_simp; try with_reducible rfl) ?_
  intro u46 hu46
  refine wpList_if 42 d44 rfl (by kernel_rfl) (by intro hg; obtain rfl := hu46 hg; go_simp; try with_reducible rfl) ?_
  intro u47 hu47
  refine wpList_if 42 d44 rfl (by kernel_rfl) (by intro hg; obtain rfl := hu47 hg; go_simp; try with_reducible rfl) ?_
  intro u48 hu48
  refine wpList_pickd d44 _ rfl rfl (by go_simp; try with_reducible rfl) (by intro hg; obtain rfl := hu48 hg; go_simp; try with_reducible rfl) (by go_simp; try with_reducible rfl) ?_
  intro d49 hd49
  have HD49 := hide hd49
  clear hd49 hu46 hu47 hu48
  refine wpList_val rfl (by go_simp; try with_reducible rfl) ?_
  go_simp
  refine wpList_if 47 d49 rfl (by kernel_rfl) (by intro hg; go_simp; try with_reducible rfl) ?_
  intro u51 hu51
  refine wpList_if 47 d49 rfl (by kernel_rfl) (by intro hg; obtain rfl := hu51 hg; go_simp; try with_reducible rfl) ?_
  intro u52 hu52
  refine wpList_if 47 d49 rfl (by kernel_rfl) (by intro hg; obtain rfl := hu52 hg; go_simp; try with_reducible rfl) ?_
  intro u53 hu53
  refine wpList_pickd d49 _ rfl rfl (by go_simp; try with_reducible rfl) (by intro hg; obtain rfl := hu53 hg; go_simp; try with_reducible rfl) (by go_simp; try with_reducible rfl) ?_
  intro d54 hd54
  have HD54 := hide hd54
  clear hd54 hu51 hu52 hu53
  refine wpList_val rfl (by go_simp; try with_reducible rfl) ?_
  refine wpList_nil ?_
  go_simp
  go_wp2_with fail
  go_ret
  refine ⟨ret_bool ?_, HB.out⟩
  rw [← HD54.out, ← HD49.out, ← HD44.out, ← HD39.out, ← HD33.out, ← HD27.out, ← HD21.out, ← HD16.out, ← HD10.out]
  rw [← HD0.out]
  rw [Bool.eq_iff_iff]
  simp only [decide_eq_true_eq]
  simp only [Ob.NoProc]
  simp [and_assoc]
set_option maxRecDepth 100000 in
set_option maxHeartbeats 4000000 in
/-- No number. -/
theorem smNumbers_any (o : Ob) (W : World) : Calls Try.prog 52 #[.agg (oc o)] W (BoolPost (decide o.SmNumbers) W) := by
  obtain ⟨w1, hw, O, hb⟩ : ∃ w1, W.alloc (.cells (oc o) 41) = w1 ∧ Obl w1 W.heap.size 41 (oc o) ∧ Below W.heap.size W w1 := ⟨_, rfl, Obl.make W _ _, (Below.refl _ _).alloc (Nat.le_refl _) _⟩
  have HB := hide hb
  have HO := hide O
  clear hb O
  have k2 : w1.cell? ⟨W.heap.size, 2, none⟩ = some (.int .i64 o.refs) := HO.out.cell 2
  have k25 : w1.cell? ⟨W.heap.size, 25, none⟩ = some (.int .i64 o.offset) := HO.out.cell 25
  have k26 : w1.cell? ⟨W.heap.size, 26, none⟩ = some (.int .u64 o.target) := HO.out.cell 26
  have k27 : w1.cell? ⟨W.heap.size, 27, none⟩ = some (.int .i64 o.readers) := HO.out.cell 27
  have k28 : w1.cell? ⟨W.heap.size, 28, none⟩ = some (.int .i64 o.writers) := HO.out.cell 28
  go_enter Try.func52, Try.ntmps52
  try dsimp only [List.append]
  go_upto_region 1 with (fail)
  clear hw
  refine wp_region_lit ?_
  refine wpList_val rfl (by go_simp; try with_reducible rfl) ?_
  refine wpList_val rfl (by go_simp; try with_reducible rfl) ?_
  refine wpList_val rfl (by go_simp; try with_reducible rfl) ?_
  refine wpList_val rfl (by go_simp; try with_reducible rfl) ?_
  go_simp
  generalize hd0 : (o.refs == 0) = d0
  have HD0 := hide hd0
  clear hd0
  refine wpList_if 3 d0 rfl (by kernel_rfl) (by intro hg; go_simp; try with_reducible rfl) ?_
  intro u7 hu7
  refine wpList_if 3 d0 rfl (by kernel_rfl) (by intro hg; obtain rfl := hu7 hg; go_simp; try with_reducible rfl) ?_
  intro u8 hu8
  refine wpList_if 3 d0 rfl (by kernel_rfl) (by intro hg; obtain rfl := hu8 hg; go_simp; try with_reducible rfl) ?_
  intro u9 hu9
  refine wpList_pickd d0 _ rfl rfl (by go_simp; try with_reducible rfl) (by intro hg; obtain rfl := hu9 hg; go_simp; try with_reducible rfl) (by go_simp; try with_reducible rfl) ?_
  intro d10 hd10
  have HD10 := hide hd10
  clear hd10 hu7 hu8 hu9
  refine wpList_val rfl (by go_simp; try with_reducible rfl) ?_
  go_simp
  refine wpList_if 8 d10 rfl (by kernel_rfl) (by intro hg; go_simp; try with_reducible rfl) ?_
  intro u12 hu12
  refine wpList_if 8 d10 rfl (by kernel_rfl) (by intro hg; obtain rfl := hu12 hg; go_simp; try with_reducible rfl) ?_
  intro u13 hu13
  refine wpList_if 8 d10 rfl (by kernel_rfl) (by intro hg; obtain rfl := hu13 hg; go_simp; try with_reducible rfl) ?_
  intro u14 hu14
  refine wpList_pickd d10 _ rfl rfl (by go_simp; try with_reducible rfl) (by intro hg; obtain rfl := hu14 hg; go_simp; try with_reducible rfl) (by go_simp; try with_reducible rfl) ?_
  intro d15 hd15
  have HD15 := hide hd15
  clear hd15 hu12 hu13 hu14
  refine wpList_val rfl (by go_simp; try with_reducible rfl) ?_
  go_simp
  refine wpList_if 13 d15 rfl (by kernel_rfl) (by intro hg; go_simp; try with_reducible rfl) ?_
  intro u17 hu17
  refine wpList_if 13 d15 rfl (by kernel_rfl) (by intro hg; obtain rfl := hu17 hg; go_simp; try with_reducible rfl) ?_
  intro u18 hu18
  refine wpList_if 13 d15 rfl (by kernel_rfl) (by intro hg; obtain rfl := hu18 hg; go_simp; try with_reducible rfl) ?_
  intro u19 hu19
  refine wpList_pickd d15 _ rfl rfl (by go_simp; try with_reducible rfl) (by intro hg; obtain rfl := hu19 hg; go_simp; try with_reducible rfl) (by go_simp; try with_reducible rfl) ?_
  intro d20 hd20
  have HD20 := hide hd20
  clear hd20 hu17 hu18 hu19
  refine wpList_val rfl (by go_simp; try with_reducible rfl) ?_
  go_simp
  refine wpList_if 18 d20 rfl (by kernel_rfl) (by intro hg; go_simp; try with_reducible rfl) ?_
  intro u22 hu22
  refine wpList_if 18 d20 rfl (by kernel_rfl) (by intro hg; obtain rfl := hu22 hg; go_simp; try with_reducible rfl) ?_
  intro u23 hu23
  refine wpList_if 18 d20 rfl (by kernel_rfl) (by intro hg; obtain rfl := hu23 hg; go_simp; try with_reducible rfl) ?_
  intro u24 hu24
  refine wpList_pickd d20 _ rfl rfl (by go_simp; try with_reducible rfl) (by intro hg; obtain rfl := hu24 hg; go_simp; try with_reducible rfl) (by go_simp; try with_reducible rfl) ?_
  intro d25 hd25
  have HD25 := hide hd25
  clear hd25 hu22 hu23 hu24
  refine wpList_val rfl (by go_simp; try with_reducible rfl) ?_
  go_simp
  refine wpList_if 23 d25 rfl (by kernel_rfl) (by intro hg; go_simp; try with_reducible rfl) ?_
  intro u27 hu27
  refine wpList_if 23 d25 rfl (by kernel_rfl) (by intro hg; obtain rfl := hu27 hg; exact exec_load_ends rfl rfl HO.out) ?_
  intro u28 hu28
  refine wpList_if 23 d25 rfl (by kernel_rfl) (by intro hg; exact exec_build rfl (vs := []) (by simp) built_ends) ?_
  intro u29 hu29
  refine wpList_if 23 d25 rfl (by kernel_rfl) (by intro hg; obtain rfl := hu28 hg; obtain rfl := hu29 hg; exact exec_eql_ends (L := [o.e0, o.e1]) (M := [0, 0]) rfl rfl rfl rfl rfl) ?_
  intro u30 hu30
  refine wpList_pickd d25 _ rfl rfl (by go_simp; try with_reducible rfl) (by intro hg; obtain rfl := hu30 hg; go_simp; try with_reducible rfl) (by go_simp; try with_reducible rfl) ?_
  intro d31 hd31
  have HD31 := hide hd31
  clear hd31 hu27 hu28 hu29 hu30
  refine wpList_val rfl (by go_simp; try with_reducible rfl) ?_
  refine wpList_nil ?_
  go_simp
  go_wp2_with fail
  go_ret
  refine ⟨ret_bool ?_, HB.out⟩
  rw [← HD31.out, ← HD25.out, ← HD20.out, ← HD15.out, ← HD10.out]
  rw [← HD0.out]
  rw [Bool.eq_iff_iff]
  simp only [decide_eq_true_eq]
  simp [Ob.SmNumbers, and_assoc]
set_option maxRecDepth 100000 in
set_option maxHeartbeats 4000000 in
/-- No list. -/
theorem smLists_any (o : Ob) (W : World) : Calls Try.prog 53 #[.agg (oc o)] W (BoolPost (decide o.Listless) W) := by
  obtain ⟨w1, hw, O, hb⟩ : ∃ w1, W.alloc (.cells (oc o) 41) = w1 ∧ Obl w1 W.heap.size 41 (oc o) ∧ Below W.heap.size W w1 := ⟨_, rfl, Obl.make W _ _, (Below.refl _ _).alloc (Nat.le_refl _) _⟩
  have HB := hide hb
  have HO := hide O
  clear hb O
  have k23 : w1.cell? ⟨W.heap.size, 23, none⟩ = some (.slice o.words.A o.words.n o.words.c) := HO.out.cell 23
  have k24 : w1.cell? ⟨W.heap.size, 24, none⟩ = some (.slice o.data.A o.data.n o.data.c) := HO.out.cell 24
  have k29 : w1.cell? ⟨W.heap.size, 29, none⟩ = some (.slice o.backlog.A o.backlog.n o.backlog.c) := HO.out.cell 29
  have k35 : w1.cell? ⟨W.heap.size, 35, none⟩ = some (.slice o.names.A o.names.n o.names.c) := HO.out.cell 35
  have k30 : w1.cell? ⟨W.heap.size, 30, none⟩ = some (.slice o.q0.A o.q0.n o.q0.c) := HO.out.cell 30
  have k31 : w1.cell? ⟨W.heap.size, 31, none⟩ = some (.slice o.q1.A o.q1.n o.q1.c) := HO.out.cell 31
  go_enter Try.func53, Try.ntmps53
  try dsimp only [List.append]
  go_upto_region 1 with (fail)
  clear hw
  refine wp_region_lit ?_
  refine wpList_val rfl (by go_simp; try with_reducible rfl) ?_
  refine wpList_val rfl (by go_simp; try with_reducible rfl) ?_
  refine wpList_val rfl (by go_simp; try with_reducible rfl) ?_
  refine wpList_val rfl (by go_simp; try with_reducible rfl) ?_
  refine wpList_val rfl (by go_simp; try with_reducible rfl) ?_
  go_simp
  generalize hd0 : ((o.words.n : Int) == 0) = d0
  have HD0 := hide hd0
  clear hd0
  refine wpList_if 4 d0 rfl (by kernel_rfl) (by intro hg; go_simp; try with_reducible rfl) ?_
  intro u8 hu8
  refine wpList_if 4 d0 rfl (by kernel_rfl) (by intro hg; obtain rfl := hu8 hg; go_simp; try with_reducible rfl) ?_
  intro u9 hu9
  refine wpList_if 4 d0 rfl (by kernel_rfl) (by intro hg; obtain rfl := hu9 hg; go_simp; try with_reducible rfl) ?_
  intro u10 hu10
  refine wpList_if 4 d0 rfl (by kernel_rfl) (by intro hg; obtain rfl := hu10 hg; go_simp; try with_reducible rfl) ?_
  intro u11 hu11
  refine wpList_pickd d0 _ rfl rfl (by go_simp; try with_reducible rfl) (by intro hg; obtain rfl := hu11 hg; go_simp; try with_reducible rfl) (by go_simp; try with_reducible rfl) ?_
  intro d12 hd12
  have HD12 := hide hd12
  clear hd12 hu8 hu9 hu10 hu11
  refine wpList_val rfl (by go_simp; try with_reducible rfl) ?_
  go_simp
  refine wpList_if 10 d12 rfl (by kernel_rfl) (by intro hg; go_simp; try with_reducible rfl) ?_
  intro u14 hu14
  refine wpList_if 10 d12 rfl (by kernel_rfl) (by intro hg; obtain rfl := hu14 hg; go_simp; try with_reducible rfl) ?_
  intro u15 hu15
  refine wpList_if 10 d12 rfl (by kernel_rfl) (by intro hg; obtain rfl := hu15 hg; go_simp; try with_reducible rfl) ?_
  intro u16 hu16
  refine wpList_if 10 d12 rfl (by kernel_rfl) (by intro hg; obtain rfl := hu16 hg; go_simp; try with_reducible rfl) ?_
  intro u17 hu17
  refine wpList_pickd d12 _ rfl rfl (by go_simp; try with_reducible rfl) (by intro hg; obtain rfl := hu17 hg; go_simp; try with_reducible rfl) (by go_simp; try with_reducible rfl) ?_
  intro d18 hd18
  have HD18 := hide hd18
  clear hd18 hu14 hu15 hu16 hu17
  refine wpList_val rfl (by go_simp; try with_reducible rfl) ?_
  go_simp
  refine wpList_if 16 d18 rfl (by kernel_rfl) (by intro hg; go_simp; try with_reducible rfl) ?_
  intro u20 hu20
  refine wpList_if 16 d18 rfl (by kernel_rfl) (by intro hg; obtain rfl := hu20 hg; go_simp; try with_reducible rfl) ?_
  intro u21 hu21
  refine wpList_if 16 d18 rfl (by kernel_rfl) (by intro hg; obtain rfl := hu21 hg; go_simp; try with_reducible rfl) ?_
  intro u22 hu22
  refine wpList_if 16 d18 rfl (by kernel_rfl) (by intro hg; obtain rfl := hu22 hg; go_simp; try with_reducible rfl) ?_
  intro u23 hu23
  refine wpList_pickd d18 _ rfl rfl (by go_simp; try with_reducible rfl) (by intro hg; obtain rfl := hu23 hg; go_simp; try with_reducible rfl) (by go_simp; try with_reducible rfl) ?_
  intro d24 hd24
  have HD24 := hide hd24
  clear hd24 hu20 hu21 hu22 hu23
  refine wpList_val rfl (by go_simp; try with_reducible rfl) ?_
  go_simp
  refine wpList_if 22 d24 rfl (by kernel_rfl) (by intro hg; go_simp; try with_reducible rfl) ?_
  intro u26 hu26
  refine wpList_if 22 d24 rfl (by kernel_rfl) (by intro hg; obtain rfl := hu26 hg; go_simp; try with_reducible rfl) ?_
  intro u27 hu27
  refine wpList_if 22 d24 rfl (by kernel_rfl) (by intro hg; obtain rfl := hu27 hg; go_simp; try with_reducible rfl) ?_
  intro u28 hu28
  refine wpList_if 22 d24 rfl (by kernel_rfl) (by intro hg; obtain rfl := hu28 hg; go_simp; try with_reducible rfl) ?_
  intro u29 hu29
  refine wpList_if 22 d24 rfl (by kernel_rfl) (by intro hg; obtain rfl := hu29 hg; go_simp; try with_reducible rfl) ?_
  intro u30 hu30
  refine wpList_pickd d24 _ rfl rfl (by go_simp; try with_reducible rfl) (by intro hg; obtain rfl := hu30 hg; go_simp; try with_reducible rfl) (by go_simp; try with_reducible rfl) ?_
  intro d31 hd31
  have HD31 := hide hd31
  clear hd31 hu26 hu27 hu28 hu29 hu30
  refine wpList_val rfl (by go_simp; try with_reducible rfl) ?_
  go_simp
  refine wpList_if 29 d31 rfl (by kernel_rfl) (by intro hg; go_simp; try with_reducible rfl) ?_
  intro u33 hu33
  refine wpList_if 29 d31 rfl (by kernel_rfl) (by intro hg; obtain rfl := hu33 hg; go_simp; try with_reducible rfl) ?_
  intro u34 hu34
  refine wpList_if 29 d31 rfl (by kernel_rfl) (by intro hg; obtain rfl := hu34 hg; go_simp; try with_reducible rfl) ?_
  intro u35 hu35
  refine wpList_if 29 d31 rfl (by kernel_rfl) (by intro hg; obtain rfl := hu35 hg; go_simp; try with_reducible rfl) ?_
  intro u36 hu36
  refine wpList_if 29 d31 rfl (by kernel_rfl) (by intro hg; obtain rfl := hu36 hg; go_simp; try with_reducible rfl) ?_
  intro u37 hu37
  refine wpList_pickd d31 _ rfl rfl (by go_simp; try with_reducible rfl) (by intro hg; obtain rfl := hu37 hg; go_simp; try with_reducible rfl) (by go_simp; try with_reducible rfl) ?_
  intro d38 hd38
  have HD38 := hide hd38
  clear hd38 hu33 hu34 hu35 hu36 hu37
  refine wpList_val rfl (by go_simp; try with_reducible rfl) ?_
  refine wpList_nil ?_
  go_simp
  go_wp2_with fail
  go_ret
  refine ⟨ret_bool ?_, HB.out⟩
  rw [← HD38.out, ← HD31.out, ← HD24.out, ← HD18.out, ← HD12.out]
  rw [← HD0.out]
  rw [Bool.eq_iff_iff]
  simp only [decide_eq_true_eq]
  simp [Ob.Listless, Ob.Contents]
  omega
set_option maxRecDepth 100000 in
set_option maxHeartbeats 4000000 in
/-- Nothing that a semaphore does not use. -/
theorem smBare_any (o : Ob) (W : World) : Calls Try.prog 37 #[.agg (oc o)] W (BoolPost (decide (o.SmOthers)) W) := by
  obtain ⟨w1, hw, O, hb⟩ : ∃ w1, W.alloc (.cells (oc o) 41) = w1 ∧ Obl w1 W.heap.size 41 (oc o) ∧ Below W.heap.size W w1 := ⟨_, rfl, Obl.make W _ _, (Below.refl _ _).alloc (Nat.le_refl _) _⟩
  have HB := hide hb
  have HO := hide O
  clear hb O
  go_enter Try.func37, Try.ntmps37
  try dsimp only [List.append]
  go_upto_region 1 with (fail)
  clear hw
  refine wp_region_lit ?_
  refine wpList_val rfl (by exact exec_load_ob rfl rfl HO.out) ?_
  refine wpList_plain rfl fun K hK => ?_
  go_simp
  refine (smNumbers_any o _).mono ?_
  rintro e v1 ⟨rfl, hb1⟩
  refine hK _ _ ?_
  clear hK K
  replace HO := hide (HO.out.below hb1 HO.out.lt)
  replace HB := hide (HB.out.trans (hb1.mono HB.out.size))
  clear hb1
  refine wpList_val rfl (by go_simp; try with_reducible rfl) ?_
  go_simp
  generalize hd0 : decide o.SmNumbers = d0
  have HD0 := hide hd0
  clear hd0
  refine wpList_if 2 d0 rfl (by kernel_rfl) (by intro hg; exact exec_load_ob rfl rfl HO.out) ?_
  intro u6 hu6
  refine wpList_ifcall (decide (o.Listless)) 2 d0 rfl (by kernel_rfl) (by intro hg K hK; obtain rfl := hu6 hg; go_simp; refine (smLists_any o _).mono ?_; rintro e w' ⟨rfl, hb⟩; refine hK _ w' ?_ hb; first | rfl | go_simp) ?_
  intro u7 v4 hu7 hb4
  replace HO := hide (HO.out.below hb4 HO.out.lt)
  replace HB := hide (HB.out.trans (hb4.mono HB.out.size))
  clear hb4
  refine wpList_pickd d0 _ rfl rfl (by go_simp; try with_reducible rfl) (by intro hg; obtain rfl := hu7 hg; go_simp; try with_reducible rfl) (by go_simp; try with_reducible rfl) ?_
  intro d8 hd8
  have HD8 := hide hd8
  clear hd8 hu6 hu7
  refine wpList_val rfl (by go_simp; try with_reducible rfl) ?_
  go_simp
  refine wpList_if 6 d8 rfl (by kernel_rfl) (by intro hg; go_simp; try with_reducible rfl) ?_
  intro u10 hu10
  refine wpList_if 6 d8 rfl (by kernel_rfl) (by intro hg; obtain rfl := hu10 hg; exact exec_load_proc rfl rfl HO.out) ?_
  intro u11 hu11
  refine wpList_ifcall (decide (o.NoProc)) 6 d8 rfl (by kernel_rfl) (by intro hg K hK; obtain rfl := hu11 hg; go_simp; refine (smNoProc_any o _).mono ?_; rintro e w' ⟨rfl, hb⟩; refine hK _ w' ?_ hb; first | rfl | go_simp) ?_
  intro u12 v9 hu12 hb9
  replace HO := hide (HO.out.below hb9 HO.out.lt)
  replace HB := hide (HB.out.trans (hb9.mono HB.out.size))
  clear hb9
  refine wpList_pickd d8 _ rfl rfl (by go_simp; try with_reducible rfl) (by intro hg; obtain rfl := hu12 hg; go_simp; try with_reducible rfl) (by go_simp; try with_reducible rfl) ?_
  intro d13 hd13
  have HD13 := hide hd13
  clear hd13 hu10 hu11 hu12
  refine wpList_val rfl (by go_simp; try with_reducible rfl) ?_
  refine wpList_nil ?_
  go_simp
  go_wp2_with fail
  go_ret
  refine ⟨ret_bool ?_, HB.out⟩
  rw [← HD13.out, ← HD8.out]
  rw [← HD0.out]
  rw [Bool.eq_iff_iff]
  simp only [Bool.and_eq_true, decide_eq_true_eq]
  simp only [Ob.SmOthers, and_assoc]
set_option maxRecDepth 100000 in
set_option maxHeartbeats 4000000 in
theorem smCount_any (n : Int) (W : World) : Calls Try.prog 20 #[.int .i64 n] W (BoolPost (decide (SmCount n)) W) := by
  by_cases h0 : 0 ≤ n
  · have H0 := hide h0
    go_enter Try.func20, Try.ntmps20
    go_wp2
    go_ret
    exact ⟨ret_bool (by have := H0.out; simp [SmCount, this]), Below.refl _ _⟩
  · have H0 := hide h0
    go_enter Try.func20, Try.ntmps20
    go_wp2
    go_ret
    exact ⟨ret_bool (decide_eq_false (fun hh : SmCount n => by have := H0.out; have := hh.1; omega)).symm, Below.refl _ _⟩
set_option maxRecDepth 100000 in
set_option maxHeartbeats 4000000 in
/-- A semaphore. -/
theorem smValid_any (o : Ob) (W : World) : Calls Try.prog 17 #[.agg (oc o)] W (BoolPost (decide (o.Sem)) W) := by
  obtain ⟨w1, hw, O, hb⟩ : ∃ w1, W.alloc (.cells (oc o) 41) = w1 ∧ Obl w1 W.heap.size 41 (oc o) ∧ Below W.heap.size W w1 := ⟨_, rfl, Obl.make W _ _, (Below.refl _ _).alloc (Nat.le_refl _) _⟩
  have HB := hide hb
  have HO := hide O
  clear hb O
  have k0 : w1.cell? ⟨W.heap.size, 0, none⟩ = some (.int .u64 o.id) := HO.out.cell 0
  have k1 : w1.cell? ⟨W.heap.size, 1, none⟩ = some (.int .i64 o.kind) := HO.out.cell 1
  have k34 : w1.cell? ⟨W.heap.size, 34, none⟩ = some (.int .i64 o.count) := HO.out.cell 34
  go_enter Try.func17, Try.ntmps17
  try dsimp only [List.append]
  go_upto_region 1 with (fail)
  clear hw
  refine wp_region_lit ?_
  refine wpList_val rfl (by go_simp; try with_reducible rfl) ?_
  refine wpList_val rfl (by go_simp; try with_reducible rfl) ?_
  refine wpList_val rfl (by go_simp; try with_reducible rfl) ?_
  refine wpList_val rfl (by go_simp; try with_reducible rfl) ?_
  go_simp
  generalize hd0 : (o.kind == 8) = d0
  have HD0 := hide hd0
  clear hd0
  refine wpList_if 3 d0 rfl (by kernel_rfl) (by intro hg; go_simp; try with_reducible rfl) ?_
  intro u7 hu7
  refine wpList_if 3 d0 rfl (by kernel_rfl) (by intro hg; obtain rfl := hu7 hg; go_simp; try with_reducible rfl) ?_
  intro u8 hu8
  refine wpList_if 3 d0 rfl (by kernel_rfl) (by intro hg; obtain rfl := hu8 hg; go_simp; try with_reducible rfl) ?_
  intro u9 hu9
  refine wpList_pickd d0 _ rfl rfl (by go_simp; try with_reducible rfl) (by intro hg; obtain rfl := hu9 hg; go_simp; try with_reducible rfl) (by go_simp; try with_reducible rfl) ?_
  intro d10 hd10
  have HD10 := hide hd10
  clear hd10 hu7 hu8 hu9
  refine wpList_val rfl (by go_simp; try with_reducible rfl) ?_
  go_simp
  refine wpList_if 8 d10 rfl (by kernel_rfl) (by intro hg; go_simp; try with_reducible rfl) ?_
  intro u12 hu12
  refine wpList_if 8 d10 rfl (by kernel_rfl) (by intro hg; obtain rfl := hu12 hg; go_simp; try with_reducible rfl) ?_
  intro u13 hu13
  refine wpList_ifcall (decide (SmCount o.count)) 8 d10 rfl (by kernel_rfl) (by intro hg K hK; obtain rfl := hu13 hg; go_simp; refine (smCount_any o.count _).mono ?_; rintro e w' ⟨rfl, hb⟩; refine hK _ w' ?_ hb; first | rfl | go_simp) ?_
  intro u14 v11 hu14 hb11
  replace HO := hide (HO.out.below hb11 HO.out.lt)
  replace HB := hide (HB.out.trans (hb11.mono HB.out.size))
  clear hb11 k0 k1 k34
  have k0 : v11.cell? ⟨W.heap.size, 0, none⟩ = some (.int .u64 o.id) := HO.out.cell 0
  have k1 : v11.cell? ⟨W.heap.size, 1, none⟩ = some (.int .i64 o.kind) := HO.out.cell 1
  have k34 : v11.cell? ⟨W.heap.size, 34, none⟩ = some (.int .i64 o.count) := HO.out.cell 34
  refine wpList_pickd d10 _ rfl rfl (by go_simp; try with_reducible rfl) (by intro hg; obtain rfl := hu14 hg; go_simp; try with_reducible rfl) (by go_simp; try with_reducible rfl) ?_
  intro d15 hd15
  have HD15 := hide hd15
  clear hd15 hu12 hu13 hu14
  refine wpList_val rfl (by go_simp; try with_reducible rfl) ?_
  go_simp
  refine wpList_if 13 d15 rfl (by kernel_rfl) (by intro hg; exact exec_load_ob rfl rfl HO.out) ?_
  intro u17 hu17
  refine wpList_ifcall (decide (o.SmOthers)) 13 d15 rfl (by kernel_rfl) (by intro hg K hK; obtain rfl := hu17 hg; go_simp; refine (smBare_any o _).mono ?_; rintro e w' ⟨rfl, hb⟩; refine hK _ w' ?_ hb; first | rfl | go_simp) ?_
  intro u18 v15 hu18 hb15
  replace HO := hide (HO.out.below hb15 HO.out.lt)
  replace HB := hide (HB.out.trans (hb15.mono HB.out.size))
  clear hb15 k0 k1 k34
  have k0 : v15.cell? ⟨W.heap.size, 0, none⟩ = some (.int .u64 o.id) := HO.out.cell 0
  have k1 : v15.cell? ⟨W.heap.size, 1, none⟩ = some (.int .i64 o.kind) := HO.out.cell 1
  have k34 : v15.cell? ⟨W.heap.size, 34, none⟩ = some (.int .i64 o.count) := HO.out.cell 34
  refine wpList_pickd d15 _ rfl rfl (by go_simp; try with_reducible rfl) (by intro hg; obtain rfl := hu18 hg; go_simp; try with_reducible rfl) (by go_simp; try with_reducible rfl) ?_
  intro d19 hd19
  have HD19 := hide hd19
  clear hd19 hu17 hu18
  refine wpList_val rfl (by go_simp; try with_reducible rfl) ?_
  refine wpList_nil ?_
  go_simp
  go_wp2_with fail
  go_ret
  refine ⟨ret_bool ?_, HB.out⟩
  rw [← HD19.out, ← HD15.out, ← HD10.out]
  rw [← HD0.out]
  rw [Bool.eq_iff_iff]
  simp only [decide_eq_true_eq, Bool.and_eq_true, beq_iff_eq, bne_iff_ne]
  simp only [Ob.Sem, and_assoc]
end Go.Proofs.Ytbjipppkkobgbaa
