/- Layer 16, package process: which objects are processes (written by tools/mkpv.py) -/
import Derived.Test.YtdglcpepgodcpaaDoorPvMath
import Derived.Test.YtdglcpepgodcpaaDoorProcessManyM
import Derived.Test.YtdglcpepgodcpaaDoorTbOps
import Derived.Deep.CutRange
namespace Go.Proofs.YtdglcpepgodcpaaDoor
open Go.RowKit
set_option maxRecDepth 100000 in
set_option maxHeartbeats 4000000 in
/-- No number. -/
theorem pvNumbers_any (o : Ob) (W : World) : Calls Tryd.prog 20 #[.agg (oc o)] W (BoolPost (decide o.Counts) W) := by
  obtain ⟨w1, hw, O, hb⟩ : ∃ w1, W.alloc (.cells (oc o) 42) = w1 ∧ Obl w1 W.heap.size 42 (oc o) ∧ Below W.heap.size W w1 := ⟨_, rfl, Obl.make W _ _, (Below.refl _ _).alloc (Nat.le_refl _) _⟩
  have HB := hide hb
  have HO := hide O
  clear hb O
  have k2 : w1.cell? ⟨W.heap.size, 2, none⟩ = some (.int .i64 o.refs) := HO.out.cell 2
  have k25 : w1.cell? ⟨W.heap.size, 25, none⟩ = some (.int .i64 o.offset) := HO.out.cell 25
  have k26 : w1.cell? ⟨W.heap.size, 26, none⟩ = some (.int .u64 o.target) := HO.out.cell 26
  have k27 : w1.cell? ⟨W.heap.size, 27, none⟩ = some (.int .i64 o.readers) := HO.out.cell 27
  have k28 : w1.cell? ⟨W.heap.size, 28, none⟩ = some (.int .i64 o.writers) := HO.out.cell 28
  have k34 : w1.cell? ⟨W.heap.size, 34, none⟩ = some (.int .i64 o.count) := HO.out.cell 34
  go_enter Tryd.func20, Tryd.ntmps20
  try dsimp only [List.append]
  go_upto_region 1 with (fail)
  clear hw
  refine wp_region_lit ?_
  refine wpList_val rfl (by go_simp; try with_reducible rfl) ?_
  refine wpList_val rfl (by go_simp; try with_reducible rfl) ?_
  refine wpList_val rfl (by go_simp; try with_reducible rfl) ?_
  refine wpList_val rfl (by go_simp; try with_reducible rfl) ?_
  go_simp
  generalize hd0 : (o.refs == 0) = d0
  have HD0 := hide hd0
  clear hd0
  refine wpList_if 3 d0 rfl (by kernel_rfl) (by intro hg; go_simp; try with_reducible rfl) ?_
  intro u7 hu7
  refine wpList_if 3 d0 rfl (by kernel_rfl) (by intro hg; obtain rfl := hu7 hg; go_simp; try with_reducible rfl) ?_
  intro u8 hu8
  refine wpList_if 3 d0 rfl (by kernel_rfl) (by intro hg; obtain rfl := hu8 hg; go_simp; try with_reducible rfl) ?_
  intro u9 hu9
  refine wpList_pickd d0 _ rfl rfl (by go_simp; try with_reducible rfl) (by intro hg; obtain rfl := hu9 hg; go_simp; try with_reducible rfl) (by go_simp; try with_reducible rfl) ?_
  intro d10 hd10
  have HD10 := hide hd10
  clear hd10 hu7 hu8 hu9
  refine wpList_val rfl (by go_simp; try with_reducible rfl) ?_
  go_simp
  refine wpList_if 8 d10 rfl (by kernel_rfl) (by intro hg; go_simp; try with_reducible rfl) ?_
  intro u12 hu12
  refine wpList_if 8 d10 rfl (by kernel_rfl) (by intro hg; obtain rfl := hu12 hg; go_simp; try with_reducible rfl) ?_
  intro u13 hu13
  refine wpList_if 8 d10 rfl (by kernel_rfl) (by intro hg; obtain rfl := hu13 hg; go_simp; try with_reducible rfl) ?_
  intro u14 hu14
  refine wpList_pickd d10 _ rfl rfl (by go_simp; try with_reducible rfl) (by intro hg; obtain rfl := hu14 hg; go_simp; try with_reducible rfl) (by go_simp; try with_reducible rfl) ?_
  intro d15 hd15
  have HD15 := hide hd15
  clear hd15 hu12 hu13 hu14
  refine wpList_val rfl (by go_simp; try with_reducible rfl) ?_
  go_simp
  refine wpList_if 13 d15 rfl (by kernel_rfl) (by intro hg; go_simp; try with_reducible rfl) ?_
  intro u17 hu17
  refine wpList_if 13 d15 rfl (by kernel_rfl) (by intro hg; obtain rfl := hu17 hg; go_simp; try with_reducible rfl) ?_
  intro u18 hu18
  refine wpList_if 13 d15 rfl (by kernel_rfl) (by intro hg; obtain rfl := hu18 hg; go_simp; try with_reducible rfl) ?_
  intro u19 hu19
  refine wpList_pickd d15 _ rfl rfl (by go_simp; try with_reducible rfl) (by intro hg; obtain rfl := hu19 hg; go_simp; try with_reducible rfl) (by go_simp; try with_reducible rfl) ?_
  intro d20 hd20
  have HD20 := hide hd20
  clear hd20 hu17 hu18 hu19
  refine wpList_val rfl (by go_simp; try with_reducible rfl) ?_
  go_simp
  refine wpList_if 18 d20 rfl (by kernel_rfl) (by intro hg; go_simp; try with_reducible rfl) ?_
  intro u22 hu22
  refine wpList_if 18 d20 rfl (by kernel_rfl) (by intro hg; obtain rfl := hu22 hg; go_simp; try with_reducible rfl) ?_
  intro u23 hu23
  refine wpList_if 18 d20 rfl (by kernel_rfl) (by intro hg; obtain rfl := hu23 hg; go_simp; try with_reducible rfl) ?_
  intro u24 hu24
  refine wpList_pickd d20 _ rfl rfl (by go_simp; try with_reducible rfl) (by intro hg; obtain rfl := hu24 hg; go_simp; try with_reducible rfl) (by go_simp; try with_reducible rfl) ?_
  intro d25 hd25
  have HD25 := hide hd25
  clear hd25 hu22 hu23 hu24
  refine wpList_val rfl (by go_simp; try with_reducible rfl) ?_
  go_simp
  refine wpList_if 23 d25 rfl (by kernel_rfl) (by intro hg; go_simp; try with_reducible rfl) ?_
  intro u27 hu27
  refine wpList_if 23 d25 rfl (by kernel_rfl) (by intro hg; obtain rfl := hu27 hg; exact exec_load_ends rfl rfl HO.out) ?_
  intro u28 hu28
  refine wpList_if 23 d25 rfl (by kernel_rfl) (by intro hg; exact exec_build rfl (vs := []) (by simp) built_ends) ?_
  intro u29 hu29
  refine wpList_if 23 d25 rfl (by kernel_rfl) (by intro hg; obtain rfl := hu28 hg; obtain rfl := hu29 hg; exact exec_eql_ends (L := [o.e0, o.e1]) (M := [0, 0]) rfl rfl rfl rfl rfl) ?_
  intro u30 hu30
  refine wpList_pickd d25 _ rfl rfl (by go_simp; try with_reducible rfl) (by intro hg; obtain rfl := hu30 hg; go_simp; try with_reducible rfl) (by go_simp; try with_reducible rfl) ?_
  intro d31 hd31
  have HD31 := hide hd31
  clear hd31 hu27 hu28 hu29 hu30
  refine wpList_val rfl (by go_simp; try with_reducible rfl) ?_
  go_simp
  refine wpList_if 29 d31 rfl (by kernel_rfl) (by intro hg; go_simp; try with_reducible rfl) ?_
  intro u33 hu33
  refine wpList_if 29 d31 rfl (by kernel_rfl) (by intro hg; obtain rfl := hu33 hg; go_simp; try with_reducible rfl) ?_
  intro u34 hu34
  refine wpList_if 29 d31 rfl (by kernel_rfl) (by intro hg; obtain rfl := hu34 hg; go_simp; try with_reducible rfl) ?_
  intro u35 hu35
  refine wpList_pickd d31 _ rfl rfl (by go_simp; try with_reducible rfl) (by intro hg; obtain rfl := hu35 hg; go_simp; try with_reducible rfl) (by go_simp; try with_reducible rfl) ?_
  intro d36 hd36
  have HD36 := hide hd36
  clear hd36 hu33 hu34 hu35
  refine wpList_val rfl (by go_simp; try with_reducible rfl) ?_
  refine wpList_nil ?_
  go_simp
  go_wp2_with fail
  go_ret
  refine ⟨ret_bool ?_, HB.out⟩
  rw [← HD36.out, ← HD31.out, ← HD25.out, ← HD20.out, ← HD15.out, ← HD10.out]
  rw [← HD0.out]
  rw [Bool.eq_iff_iff]
  simp only [decide_eq_true_eq]
  simp [Ob.Counts, and_assoc]
set_option maxRecDepth 100000 in
set_option maxHeartbeats 4000000 in
/-- No list. -/
theorem pvLists_any (o : Ob) (W : World) : Calls Tryd.prog 21 #[.agg (oc o)] W (BoolPost (decide o.Listless) W) := by
  obtain ⟨w1, hw, O, hb⟩ : ∃ w1, W.alloc (.cells (oc o) 42) = w1 ∧ Obl w1 W.heap.size 42 (oc o) ∧ Below W.heap.size W w1 := ⟨_, rfl, Obl.make W _ _, (Below.refl _ _).alloc (Nat.le_refl _) _⟩
  have HB := hide hb
  have HO := hide O
  clear hb O
  have k23 : w1.cell? ⟨W.heap.size, 23, none⟩ = some (.slice o.words.A o.words.n o.words.c) := HO.out.cell 23
  have k24 : w1.cell? ⟨W.heap.size, 24, none⟩ = some (.slice o.data.A o.data.n o.data.c) := HO.out.cell 24
  have k29 : w1.cell? ⟨W.heap.size, 29, none⟩ = some (.slice o.backlog.A o.backlog.n o.backlog.c) := HO.out.cell 29
  have k35 : w1.cell? ⟨W.heap.size, 35, none⟩ = some (.slice o.names.A o.names.n o.names.c) := HO.out.cell 35
  have k30 : w1.cell? ⟨W.heap.size, 30, none⟩ = some (.slice o.q0.A o.q0.n o.q0.c) := HO.out.cell 30
  have k31 : w1.cell? ⟨W.heap.size, 31, none⟩ = some (.slice o.q1.A o.q1.n o.q1.c) := HO.out.cell 31
  go_enter Tryd.func21, Tryd.ntmps21
  try dsimp only [List.append]
  go_upto_region 1 with (fail)
  clear hw
  refine wp_region_lit ?_
  refine wpList_val rfl (by go_simp; try with_reducible rfl) ?_
  refine wpList_val rfl (by go_simp; try with_reducible rfl) ?_
  refine wpList_val rfl (by go_simp; try with_reducible rfl) ?_
  refine wpList_val rfl (by go_simp; try with_reducible rfl) ?_
  refine wpList_val rfl (by go_simp; try with_reducible rfl) ?_
  go_simp
  generalize hd0 : ((o.words.n : Int) == 0) = d0
  have HD0 := hide hd0
  clear hd0
  refine wpList_if 4 d0 rfl (by kernel_rfl) (by intro hg; go_simp; try with_reducible rfl) ?_
  intro u8 hu8
  refine wpList_if 4 d0 rfl (by kernel_rfl) (by intro hg; obtain rfl := hu8 hg; go_simp; try with_reducible rfl) ?_
  intro u9 hu9
  refine wpList_if 4 d0 rfl (by kernel_rfl) (by intro hg; obtain rfl := hu9 hg; go_simp; try with_reducible rfl) ?_
  intro u10 hu10
  refine wpList_if 4 d0 rfl (by kernel_rfl) (by intro hg; obtain rfl := hu10 hg; go_simp; try with_reducible rfl) ?_
  intro u11 hu11
  refine wpList_pickd d0 _ rfl rfl (by go_simp; try with_reducible rfl) (by intro hg; obtain rfl := hu11 hg; go_simp; try with_reducible rfl) (by go_simp; try with_reducible rfl) ?_
  intro d12 hd12
  have HD12 := hide hd12
  clear hd12 hu8 hu9 hu10 hu11
  refine wpList_val rfl (by go_simp; try with_reducible rfl) ?_
  go_simp
  refine wpList_if 10 d12 rfl (by kernel_rfl) (by intro hg; go_simp; try with_reducible rfl) ?_
  intro u14 hu14
  refine wpList_if 10 d12 rfl (by kernel_rfl) (by intro hg; obtain rfl := hu14 hg; go_simp; try with_reducible rfl) ?_
  intro u15 hu15
  refine wpList_if 10 d12 rfl (by kernel_rfl) (by intro hg; obtain rfl := hu15 hg; go_simp; try with_reducible rfl) ?_
  intro u16 hu16
  refine wpList_if 10 d12 rfl (by kernel_rfl) (by intro hg; obtain rfl := hu16 hg; go_simp; try with_reducible rfl) ?_
  intro u17 hu17
  refine wpList_pickd d12 _ rfl rfl (by go_simp; try with_reducible rfl) (by intro hg; obtain rfl := hu17 hg; go_simp; try with_reducible rfl) (by go_simp; try with_reducible rfl) ?_
  intro d18 hd18
  have HD18 := hide hd18
  clear hd18 hu14 hu15 hu16 hu17
  refine wpList_val rfl (by go_simp; try with_reducible rfl) ?_
  go_simp
  refine wpList_if 16 d18 rfl (by kernel_rfl) (by intro hg; go_simp; try with_reducible rfl) ?_
  intro u20 hu20
  refine wpList_if 16 d18 rfl (by kernel_rfl) (by intro hg; obtain rfl := hu20 hg; go_simp; try with_reducible rfl) ?_
  intro u21 hu21
  refine wpList_if 16 d18 rfl (by kernel_rfl) (by intro hg; obtain rfl := hu21 hg; go_simp; try with_reducible rfl) ?_
  intro u22 hu22
  refine wpList_if 16 d18 rfl (by kernel_rfl) (by intro hg; obtain rfl := hu22 hg; go_simp; try with_reducible rfl) ?_
  intro u23 hu23
  refine wpList_pickd d18 _ rfl rfl (by go_simp; try with_reducible rfl) (by intro hg; obtain rfl := hu23 hg; go_simp; try with_reducible rfl) (by go_simp; try with_reducible rfl) ?_
  intro d24 hd24
  have HD24 := hide hd24
  clear hd24 hu20 hu21 hu22 hu23
  refine wpList_val rfl (by go_simp; try with_reducible rfl) ?_
  go_simp
  refine wpList_if 22 d24 rfl (by kernel_rfl) (by intro hg; go_simp; try with_reducible rfl) ?_
  intro u26 hu26
  refine wpList_if 22 d24 rfl (by kernel_rfl) (by intro hg; obtain rfl := hu26 hg; go_simp; try with_reducible rfl) ?_
  intro u27 hu27
  refine wpList_if 22 d24 rfl (by kernel_rfl) (by intro hg; obtain rfl := hu27 hg; go_simp; try with_reducible rfl) ?_
  intro u28 hu28
  refine wpList_if 22 d24 rfl (by kernel_rfl) (by intro hg; obtain rfl := hu28 hg; go_simp; try with_reducible rfl) ?_
  intro u29 hu29
  refine wpList_if 22 d24 rfl (by kernel_rfl) (by intro hg; obtain rfl := hu29 hg; go_simp; try with_reducible rfl) ?_
  intro u30 hu30
  refine wpList_pickd d24 _ rfl rfl (by go_simp; try with_reducible rfl) (by intro hg; obtain rfl := hu30 hg; go_simp; try with_reducible rfl) (by go_simp; try with_reducible rfl) ?_
  intro d31 hd31
  have HD31 := hide hd31
  clear hd31 hu26 hu27 hu28 hu29 hu30
  refine wpList_val rfl (by go_simp; try with_reducible rfl) ?_
  go_simp
  refine wpList_if 29 d31 rfl (by kernel_rfl) (by intro hg; go_simp; try with_reducible rfl) ?_
  intro u33 hu33
  refine wpList_if 29 d31 rfl (by kernel_rfl) (by intro hg; obtain rfl := hu33 hg; go_simp; try with_reducible rfl) ?_
  intro u34 hu34
  refine wpList_if 29 d31 rfl (by kernel_rfl) (by intro hg; obtain rfl := hu34 hg; go_simp; try with_reducible rfl) ?_
  intro u35 hu35
  refine wpList_if 29 d31 rfl (by kernel_rfl) (by intro hg; obtain rfl := hu35 hg; go_simp; try with_reducible rfl) ?_
  intro u36 hu36
  refine wpList_if 29 d31 rfl (by kernel_rfl) (by intro hg; obtain rfl := hu36 hg; go_simp; try with_reducible rfl) ?_
  intro u37 hu37
  refine wpList_pickd d31 _ rfl rfl (by go_simp; try with_reducible rfl) (by intro hg; obtain rfl := hu37 hg; go_simp; try with_reducible rfl) (by go_simp; try with_reducible rfl) ?_
  intro d38 hd38
  have HD38 := hide hd38
  clear hd38 hu33 hu34 hu35 hu36 hu37
  refine wpList_val rfl (by go_simp; try with_reducible rfl) ?_
  refine wpList_nil ?_
  go_simp
  go_wp2_with fail
  go_ret
  refine ⟨ret_bool ?_, HB.out⟩
  rw [← HD38.out, ← HD31.out, ← HD24.out, ← HD18.out, ← HD12.out]
  rw [← HD0.out]
  rw [Bool.eq_iff_iff]
  simp only [decide_eq_true_eq]
  simp [Ob.Listless, Ob.Contents]
  omega
set_option maxRecDepth 100000 in
set_option maxHeartbeats 8000000 in
theorem pvLost_any (o : Ob) (X : Cont) (W : World) (h : HoldsP W W.heap.size o X) (hf : o.code.n ≤ 9223372036854775807 ∧ o.strs.n ≤ 9223372036854775807) : Calls Tryd.prog 39 #[.agg (pcell o)] W (BoolPost (decide o.rest.Clear) W) := by
  have HF := hide hf
  clear hf
  obtain ⟨w1, hw, O, hb⟩ : ∃ w1, W.alloc (.cells (pcell o) 36) = w1 ∧ Obl w1 W.heap.size 36 (pcell o) ∧ Below W.heap.size W w1 := ⟨_, rfl, Obl.make W _ _, (Below.refl _ _).alloc (Nat.le_refl _) _⟩
  have HB := hide hb
  have HO := hide O
  have HH : Hid (HoldsP w1 w1.heap.size o X) := hide ((h.below hb).mono hb.size)
  clear h
  clear hb O
  have k2 : w1.cell? ⟨W.heap.size, 2, none⟩ = some (.slice o.children.A o.children.n o.children.c) := HO.out.cell 2
  have k15 : w1.cell? ⟨W.heap.size, 15, none⟩ = some (.slice o.pages.A o.pages.n o.pages.c) := HO.out.cell 15
  have k16 : w1.cell? ⟨W.heap.size, 16, none⟩ = some (.slice o.table.A o.table.n o.table.c) := HO.out.cell 16
  have k17 : w1.cell? ⟨W.heap.size, 17, none⟩ = some (.int .i64 o.pending) := HO.out.cell 17
  have k18 : w1.cell? ⟨W.heap.size, 18, none⟩ = some (.int .i64 o.alarm) := HO.out.cell 18
  go_enter Tryd.func39, Tryd.ntmps39
  try dsimp only [List.append]
  go_upto_region 1 with (fail)
  clear hw
  refine wp_region_lit ?_
  refine wpList_val rfl (by go_simp; try with_reducible rfl) ?_
  refine wpList_val rfl (by go_simp; try with_reducible rfl) ?_
  refine wpList_val rfl (by go_simp; try with_reducible rfl) ?_
  refine wpList_val rfl (by go_simp; try with_reducible rfl) ?_
  refine wpList_val rfl (by go_simp; try with_reducible rfl) ?_
  go_simp
  generalize hd0 : ((o.children.n : Int) == 0) = d0
  have HD0 := hide hd0
  clear hd0
  refine wpList_if 4 d0 rfl (by kernel_rfl) (by intro hg; go_simp; try with_reducible rfl) ?_
  intro u8 hu8
  refine wpList_if 4 d0 rfl (by kernel_rfl) (by intro hg; obtain rfl := hu8 hg; exact exec_load_prog rfl rfl HO.out) ?_
  intro u9 hu9
  refine wpList_if 4 d0 rfl (by kernel_rfl) (by intro hg; exact exec_build rfl (vs := []) (by simp) built_noprog) ?_
  intro u10 hu10
  refine wpList_ifcall (decide ((⟨X.code, X.strs, o.ppages⟩ : Cd.Pr) = ⟨[], [], 0⟩)) 4 d0 rfl (by kernel_rfl) (by intro hg K hK; obtain rfl := hu9 hg; obtain rfl := hu10 hg; go_simp; refine (same_any ⟨X.code, X.strs, o.ppages⟩ ⟨[], [], 0⟩ o.code.A o.strs.A none none o.code.n o.code.c o.strs.n o.strs.c 0 0 0 0 _ _ HH.out.code HH.out.strs Inss.nil Strs.nil (Nat.le_refl _) HF.out.1 HF.out.2 (by decide) (by decide)).mono ?_; rintro e w' ⟨rfl, hb⟩; refine hK _ w' ?_ hb; first | rfl | go_simp) ?_
  intro u11 v8 hu11 hb8
  replace HO := hide (HO.out.below hb8 HO.out.lt)
  replace HB := hide (HB.out.trans (hb8.mono HB.out.size))
  replace HH := hide (HH.out.later hb8)
  clear hb8 k2 k15 k16 k17 k18
  have k2 : v8.cell? ⟨W.heap.size, 2, none⟩ = some (.slice o.children.A o.children.n o.children.c) := HO.out.cell 2
  have k15 : v8.cell? ⟨W.heap.size, 15, none⟩ = some (.slice o.pages.A o.pages.n o.pages.c) := HO.out.cell 15
  have k16 : v8.cell? ⟨W.heap.size, 16, none⟩ = some (.slice o.table.A o.table.n o.table.c) := HO.out.cell 16
  have k17 : v8.cell? ⟨W.heap.size, 17, none⟩ = some (.int .i64 o.pending) := HO.out.cell 17
  have k18 : v8.cell? ⟨W.heap.size, 18, none⟩ = some (.int .i64 o.alarm) := HO.out.cell 18
  refine wpList_pickd d0 _ rfl rfl (by go_simp; try with_reducible rfl) (by intro hg; obtain rfl := hu11 hg; go_simp; try with_reducible rfl) (by go_simp; try with_reducible rfl) ?_
  intro d12 hd12
  have HD12 := hide hd12
  clear hd12 hu8 hu9 hu10 hu11
  refine wpList_val rfl (by go_simp; try with_reducible rfl) ?_
  go_simp
  refine wpList_if 10 d12 rfl (by kernel_rfl) (by intro hg; go_simp; try with_reducible rfl) ?_
  intro u14 hu14
  refine wpList_if 10 d12 rfl (by kernel_rfl) (by intro hg; obtain rfl := hu14 hg; exact exec_load_pcpu rfl rfl HO.out) ?_
  intro u15 hu15
  refine wpList_if 10 d12 rfl (by kernel_rfl) (by intro hg; exact exec_build rfl (vs := []) (by simp) built_nocpu) ?_
  intro u16 hu16
  refine wpList_if 10 d12 rfl (by kernel_rfl) (by intro hg; obtain rfl := hu15 hg; obtain rfl := hu16 hg; exact exec_eql_cpu rfl rfl rfl (x := o.cpu) (y := Ob.noCpu) rfl rfl) ?_
  intro u17 hu17
  refine wpList_pickd d12 _ rfl rfl (by go_simp; try with_reducible rfl) (by intro hg; obtain rfl := hu17 hg; go_simp; try with_reducible rfl) (by go_simp; try with_reducible rfl) ?_
  intro d18 hd18
  have HD18 := hide hd18
  clear hd18 hu14 hu15 hu16 hu17
  refine wpList_val rfl (by go_simp; try with_reducible rfl) ?_
  go_simp
  refine wpList_if 16 d18 rfl (by kernel_rfl) (by intro hg; go_simp; try with_reducible rfl) ?_
  intro u20 hu20
  refine wpList_if 16 d18 rfl (by kernel_rfl) (by intro hg; obtain rfl := hu20 hg; go_simp; try with_reducible rfl) ?_
  intro u21 hu21
  refine wpList_if 16 d18 rfl (by kernel_rfl) (by intro hg; obtain rfl := hu21 hg; go_simp; try with_reducible rfl) ?_
  intro u22 hu22
  refine wpList_if 16 d18 rfl (by kernel_rfl) (by intro hg; obtain rfl := hu22 hg; go_simp; try with_reducible rfl) ?_
  intro u23 hu23
  refine wpList_pickd d18 _ rfl rfl (by go_simp; try with_reducible rfl) (by intro hg; obtain rfl := hu23 hg; go_simp; try with_reducible rfl) (by go_simp; try with_reducible rfl) ?_
  intro d24 hd24
  have HD24 := hide hd24
  clear hd24 hu20 hu21 hu22 hu23
  refine wpList_val rfl (by go_simp; try with_reducible rfl) ?_
  go_simp
  refine wpList_if 22 d24 rfl (by kernel_rfl) (by intro hg; go_simp; try with_reducible rfl) ?_
  intro u26 hu26
  refine wpList_if 22 d24 rfl (by kernel_rfl) (by intro hg; obtain rfl := hu26 hg; go_simp; try with_reducible rfl) ?_
  intro u27 hu27
  refine wpList_if 22 d24 rfl (by kernel_rfl) (by intro hg; obtain rfl := hu27 hg; go_simp; try with_reducible rfl) ?_
  intro u28 hu28
  refine wpList_if 22 d24 rfl (by kernel_rfl) (by intro hg; obtain rfl := hu28 hg; go_simp; try with_reducible rfl) ?_
  intro u29 hu29
  refine wpList_pickd d24 _ rfl rfl (by go_simp; try with_reducible rfl) (by intro hg; obtain rfl := hu29 hg; go_simp; try with_reducible rfl) (by go_simp; try with_reducible rfl) ?_
  intro d30 hd30
  have HD30 := hide hd30
  clear hd30 hu26 hu27 hu28 hu29
  refine wpList_val rfl (by go_simp; try with_reducible rfl) ?_
  go_simp
  refine wpList_if 28 d30 rfl (by kernel_rfl) (by intro hg; go_simp; try with_reducible rfl) ?_
  intro u32 hu32
  refine wpList_if 28 d30 rfl (by kernel_rfl) (by intro hg; obtain rfl := hu32 hg; go_simp; try with_reducible rfl) ?_
  intro u33 hu33
  refine wpList_if 28 d30 rfl (by kernel_rfl) (by intro hg; obtain rfl := hu33 hg; go_simp; try with_reducible rfl) ?_
  intro u34 hu34
  refine wpList_pickd d30 _ rfl rfl (by go_simp; try with_reducible rfl) (by intro hg; obtain rfl := hu34 hg; go_simp; try with_reducible rfl) (by go_simp; try with_reducible rfl) ?_
  intro d35 hd35
  have HD35 := hide hd35
  clear hd35 hu32 hu33 hu34
  refine wpList_val rfl (by go_simp; try with_reducible rfl) ?_
  go_simp
  refine wpList_if 33 d35 rfl (by kernel_rfl) (by intro hg; go_simp; try with_reducible rfl) ?_
  intro u37 hu37
  refine wpList_if 33 d35 rfl (by kernel_rfl) (by intro hg; obtain rfl := hu37 hg; go_simp; try with_reducible rfl) ?_
  intro u38 hu38
  refine wpList_if 33 d35 rfl (by kernel_rfl) (by intro hg; obtain rfl := hu38 hg; go_simp; try with_reducible rfl) ?_
  intro u39 hu39
  refine wpList_pickd d35 _ rfl rfl (by go_simp; try with_reducible rfl) (by intro hg; obtain rfl := hu39 hg; go_simp; try with_reducible rfl) (by go_simp; try with_reducible rfl) ?_
  intro d40 hd40
  have HD40 := hide hd40
  clear hd40 hu37 hu38 hu39
  refine wpList_val rfl (by go_simp; try with_reducible rfl) ?_
  refine wpList_nil ?_
  go_simp
  go_wp2_with fail
  go_ret
  refine ⟨ret_bool ?_, HB.out⟩
  rw [← HD40.out, ← HD35.out, ← HD30.out, ← HD24.out, ← HD18.out, ← HD12.out]
  rw [← HD0.out, pv_lost_iff (HH.out.code.len) (HH.out.strs.len)]
  rw [Bool.eq_iff_iff]
  simp only [decide_eq_true_eq, Bool.and_eq_true, beq_iff_eq]
  simp [and_assoc]
set_option maxRecDepth 100000 in
set_option maxHeartbeats 8000000 in
theorem pvFits_any (o : Ob) (X : Cont) (W : World) (h : HoldsP W W.heap.size o X) (hf : o.code.n ≤ 9223372036854775807 ∧ o.strs.n ≤ 9223372036854775807) : Calls Tryd.prog 24 #[.agg (pcell o)] W (BoolPost (decide o.PvState) W) := by
  have HF := hide hf
  clear hf
  obtain ⟨w1, hw, O, hb⟩ : ∃ w1, W.alloc (.cells (pcell o) 36) = w1 ∧ Obl w1 W.heap.size 36 (pcell o) ∧ Below W.heap.size W w1 := ⟨_, rfl, Obl.make W _ _, (Below.refl _ _).alloc (Nat.le_refl _) _⟩
  have HB := hide hb
  have HO := hide O
  have HH : Hid (HoldsP w1 w1.heap.size o X) := hide ((h.below hb).mono hb.size)
  clear h
  clear hb O
  have k0 : w1.cell? ⟨W.heap.size, 0, none⟩ = some (.int .i64 o.state) := HO.out.cell 0
  have k1 : w1.cell? ⟨W.heap.size, 1, none⟩ = some (.int .u64 o.parent) := HO.out.cell 1
  have k19 : w1.cell? ⟨W.heap.size, 19, none⟩ = some (.int .i64 o.status) := HO.out.cell 19
  by_cases h1 : o.state = 1
  · have HS := hide h1
    rw [h1] at k0
    clear h1
    go_enter Tryd.func24, Tryd.ntmps24
    try dsimp only [List.append]
    go_wp2_with fail
    go_ret
    exact ⟨ret_bool (by rw [pv_state1 HS.out]; by_cases h : o.status = 0 <;> simp [h]), HB.out⟩
  have e1 : (o.state == 1) = false := by simpa using h1
  by_cases h2 : o.state = 2
  · have HS := hide h2
    rw [h2] at k0
    clear h1 h2 e1
    go_enter Tryd.func24, Tryd.ntmps24
    try dsimp only [List.append]
    go_wp2_with fail
    go_ret
    exact ⟨ret_bool (by rw [decide_eq_true (pv_state2 HS.out)]), HB.out⟩
  have e2 : (o.state == 2) = false := by simpa using h2
  by_cases h3 : o.state = 3
  · have HS := hide h3
    rw [h3] at k0
    clear h1 h2 h3 e1 e2
    go_enter Tryd.func24, Tryd.ntmps24
    try dsimp only [List.append]
    go_upto_region 7 with (fail)
    clear hw
    refine wp_region_lit ?_
    refine wpList_val rfl (by go_simp; try with_reducible rfl) ?_
    refine wpList_val rfl (by go_simp; try with_reducible rfl) ?_
    refine wpList_val rfl (by go_simp; try with_reducible rfl) ?_
    refine wpList_val rfl (by go_simp; try with_reducible rfl) ?_
    go_simp
    generalize hd0 : (o.parent != 0) = d0
    have HD0 := hide hd0
    clear hd0
    refine wpList_if 3 d0 rfl (by kernel_rfl) (by intro hg; exact exec_load_proc0 rfl rfl HO.out) ?_
    intro u18 hu18
    refine wpList_ifcall (decide (o.rest.Clear)) 3 d0 rfl (by kernel_rfl) (by intro hg K hK; obtain rfl := hu18 hg; go_simp; refine (pvLost_any o X _ HH.out HF.out).mono ?_; rintro e w' ⟨rfl, hb⟩; refine hK _ w' ?_ hb; first | rfl | go_simp) ?_
    intro u19 v5 hu19 hb5
    replace HO := hide (HO.out.below hb5 HO.out.lt)
    replace HB := hide (HB.out.trans (hb5.mono HB.out.size))
    replace HH := hide (HH.out.later hb5)
    clear hb5 k0 k1 k19
    have k0 : v5.cell? ⟨W.heap.size, 0, none⟩ = some (.int .i64 o.state) := HO.out.cell 0
    have k1 : v5.cell? ⟨W.heap.size, 1, none⟩ = some (.int .u64 o.parent) := HO.out.cell 1
    have k19 : v5.cell? ⟨W.heap.size, 19, none⟩ = some (.int .i64 o.status) := HO.out.cell 19
    refine wpList_pickd d0 _ rfl rfl (by go_simp; try with_reducible rfl) (by intro hg; obtain rfl := hu19 hg; go_simp; try with_reducible rfl) (by go_simp; try with_reducible rfl) ?_
    intro d20 hd20
    have HD20 := hide hd20
    clear hd20 hu18 hu19
    refine wpList_val rfl (by go_simp; try with_reducible rfl) ?_
    refine wpList_nil ?_
    go_simp
    go_wp2_with fail
    go_ret
    refine ⟨ret_bool ?_, HB.out⟩
    rw [← HD20.out]
    rw [← HD0.out, Bool.eq_iff_iff]
    simp only [decide_eq_true_eq, Bool.and_eq_true, bne_iff_ne]
    rw [pv_state3 HS.out]
    rfl
  have e3 : (o.state == 3) = false := by simpa using h3
  have HS : Hid (¬ o.PvState) := hide (pv_state0 h1 h2 h3)
  clear h1 h2 h3
  go_enter Tryd.func24, Tryd.ntmps24
  try dsimp only [List.append]
  go_wp2_with fail
  go_ret
  exact ⟨ret_bool (by rw [decide_eq_false HS.out]), HB.out⟩
set_option maxRecDepth 100000 in
set_option maxHeartbeats 8000000 in
theorem pvParts_any (o : Ob) (X : Cont) (W : World) (h : HoldsP W W.heap.size o X) (hI : o.ProcIn X) (hL : LaidO W) : Calls Tryd.prog 23 #[.agg (pcell o)] W (BoolPost (decide (o.PvParts X)) W) := by
  have HI := hide hI
  clear hI
  obtain ⟨w1, hw, O, hb⟩ : ∃ w1, W.alloc (.cells (pcell o) 36) = w1 ∧ Obl w1 W.heap.size 36 (pcell o) ∧ Below W.heap.size W w1 := ⟨_, rfl, Obl.make W _ _, (Below.refl _ _).alloc (Nat.le_refl _) _⟩
  have HB := hide hb
  have HO := hide O
  have HH : Hid (HoldsP w1 w1.heap.size o X) := hide ((h.below hb).mono hb.size)
  clear h
  have HL : Hid (LaidO w1) := hide (hL.below hb)
  clear hL
  clear hb O
  have k15 : w1.cell? ⟨W.heap.size, 15, none⟩ = some (.slice o.pages.A o.pages.n o.pages.c) := HO.out.cell 15
  have k16 : w1.cell? ⟨W.heap.size, 16, none⟩ = some (.slice o.table.A o.table.n o.table.c) := HO.out.cell 16
  have k17 : w1.cell? ⟨W.heap.size, 17, none⟩ = some (.int .i64 o.pending) := HO.out.cell 17
  have k18 : w1.cell? ⟨W.heap.size, 18, none⟩ = some (.int .i64 o.alarm) := HO.out.cell 18
  go_enter Tryd.func23, Tryd.ntmps23
  try dsimp only [List.append]
  go_upto_region 1 with (fail)
  clear hw
  refine wp_region_lit ?_
  refine wpList_val rfl (by go_simp; try with_reducible rfl) ?_
  refine wpList_val rfl (by exact exec_load_prog rfl rfl HO.out) ?_
  refine wpList_plain rfl fun K hK => ?_
  go_simp
  refine (check_any ⟨X.code, X.strs, o.ppages⟩ o.code.A o.strs.A o.code.n o.code.c o.strs.n o.strs.c _ _ HH.out.code HH.out.strs (Nat.le_refl _) HI.out.code HI.out.strs.1 HI.out.strs.2 HL.out).mono ?_
  rintro e w2 ⟨rfl, hb0⟩
  refine hK _ _ ?_
  clear hK K
  replace HO := hide (HO.out.below hb0 HO.out.lt)
  replace HB := hide (HB.out.trans (hb0.mono HB.out.size))
  replace HH := hide (HH.out.later hb0)
  replace HL := hide (HL.out.below hb0)
  clear hb0 k15 k16 k17 k18
  have k15 : w2.cell? ⟨W.heap.size, 15, none⟩ = some (.slice o.pages.A o.pages.n o.pages.c) := HO.out.cell 15
  have k16 : w2.cell? ⟨W.heap.size, 16, none⟩ = some (.slice o.table.A o.table.n o.table.c) := HO.out.cell 16
  have k17 : w2.cell? ⟨W.heap.size, 17, none⟩ = some (.int .i64 o.pending) := HO.out.cell 17
  have k18 : w2.cell? ⟨W.heap.size, 18, none⟩ = some (.int .i64 o.alarm) := HO.out.cell 18
  obtain ⟨ck, hck⟩ : ∃ n : Nat, (Cd.check ⟨X.code, X.strs, o.ppages⟩).2 = n := ⟨_, rfl⟩
  obtain ⟨ca, hca⟩ : ∃ n : Nat, (Cd.check ⟨X.code, X.strs, o.ppages⟩).1 = n := ⟨_, rfl⟩
  rw [hck, hca]
  have HCK := hide hck
  clear hck hca
  go_simp
  refine wpList_val rfl (by go_simp; try with_reducible rfl) ?_
  refine wpList_val rfl (by go_simp; try with_reducible rfl) ?_
  refine wpList_val rfl (by go_simp; try with_reducible rfl) ?_
  refine wpList_val rfl (by go_simp; try with_reducible rfl) ?_
  refine wpList_val rfl (by go_simp; try with_reducible rfl) ?_
  refine wpList_nil ?_
  go_simp
  go_upto_region 2 with (fail)
  refine wp_region_lit ?_
  refine wpList_val rfl (by go_simp; try with_reducible rfl) ?_
  refine wpList_val rfl (by go_simp; try with_reducible rfl) ?_
  refine wpList_val rfl (by go_simp; try with_reducible rfl) ?_
  go_simp
  generalize hd0 : ((ck : Int) == 0) = d0
  have HD0 := hide hd0
  clear hd0
  refine wpList_if 2 d0 rfl (by kernel_rfl) (by intro hg; go_simp; try with_reducible rfl) ?_
  intro u14 hu14
  refine wpList_if 2 d0 rfl (by kernel_rfl) (by intro hg; obtain rfl := hu14 hg; go_simp; try with_reducible rfl) ?_
  intro u15 hu15
  refine wpList_ifcall (decide (Sp.Ok X.pages)) 2 d0 rfl (by kernel_rfl) (by intro hg K hK; obtain rfl := hu15 hg; go_simp; refine (valid_any X.pages o.pages.A o.pages.n o.pages.c _ HH.out.pages HI.out.pages).mono ?_; rintro e w' ⟨rfl, hb⟩; refine hK _ w' ?_ hb; first | rfl | go_simp) ?_
  intro u16 v5 hu16 hb5
  replace HO := hide (HO.out.below hb5 HO.out.lt)
  replace HB := hide (HB.out.trans (hb5.mono HB.out.size))
  replace HH := hide (HH.out.later hb5)
  replace HL := hide (HL.out.below hb5)
  clear hb5 k15 k16 k17 k18
  have k15 : v5.cell? ⟨W.heap.size, 15, none⟩ = some (.slice o.pages.A o.pages.n o.pages.c) := HO.out.cell 15
  have k16 : v5.cell? ⟨W.heap.size, 16, none⟩ = some (.slice o.table.A o.table.n o.table.c) := HO.out.cell 16
  have k17 : v5.cell? ⟨W.heap.size, 17, none⟩ = some (.int .i64 o.pending) := HO.out.cell 17
  have k18 : v5.cell? ⟨W.heap.size, 18, none⟩ = some (.int .i64 o.alarm) := HO.out.cell 18
  refine wpList_pickd d0 _ rfl rfl (by go_simp; try with_reducible rfl) (by intro hg; obtain rfl := hu16 hg; go_simp; try with_reducible rfl) (by go_simp; try with_reducible rfl) ?_
  intro d17 hd17
  have HD17 := hide hd17
  clear hd17 hu14 hu15 hu16
  refine wpList_val rfl (by go_simp; try with_reducible rfl) ?_
  go_simp
  refine wpList_if 7 d17 rfl (by kernel_rfl) (by intro hg; go_simp; try with_reducible rfl) ?_
  intro u19 hu19
  refine wpList_if 7 d17 rfl (by kernel_rfl) (by intro hg; obtain rfl := hu19 hg; go_simp; try with_reducible rfl) ?_
  intro u20 hu20
  refine wpList_ifcall (decide (Tb.Valid X.table)) 7 d17 rfl (by kernel_rfl) (by intro hg K hK; obtain rfl := hu20 hg; go_simp; refine (tbValid_any X.table o.table.A o.table.n o.table.c _ HH.out.table HI.out.table).mono ?_; rintro e w' ⟨rfl, hb⟩; refine hK _ w' ?_ hb; first | rfl | go_simp) ?_
  intro u21 v10 hu21 hb10
  replace HO := hide (HO.out.below hb10 HO.out.lt)
  replace HB := hide (HB.out.trans (hb10.mono HB.out.size))
  replace HH := hide (HH.out.later hb10)
  replace HL := hide (HL.out.below hb10)
  clear hb10 k15 k16 k17 k18
  have k15 : v10.cell? ⟨W.heap.size, 15, none⟩ = some (.slice o.pages.A o.pages.n o.pages.c) := HO.out.cell 15
  have k16 : v10.cell? ⟨W.heap.size, 16, none⟩ = some (.slice o.table.A o.table.n o.table.c) := HO.out.cell 16
  have k17 : v10.cell? ⟨W.heap.size, 17, none⟩ = some (.int .i64 o.pending) := HO.out.cell 17
  have k18 : v10.cell? ⟨W.heap.size, 18, none⟩ = some (.int .i64 o.alarm) := HO.out.cell 18
  refine wpList_pickd d17 _ rfl rfl (by go_simp; try with_reducible rfl) (by intro hg; obtain rfl := hu21 hg; go_simp; try with_reducible rfl) (by go_simp; try with_reducible rfl) ?_
  intro d22 hd22
  have HD22 := hide hd22
  clear hd22 hu19 hu20 hu21
  refine wpList_val rfl (by go_simp; try with_reducible rfl) ?_
  go_simp
  refine wpList_if 12 d22 rfl (by kernel_rfl) (by intro hg; go_simp; try with_reducible rfl) ?_
  intro u24 hu24
  refine wpList_if 12 d22 rfl (by kernel_rfl) (by intro hg; obtain rfl := hu24 hg; go_simp; try with_reducible rfl) ?_
  intro u25 hu25
  refine wpList_ifcall (decide (sgValid o.pending)) 12 d22 rfl (by kernel_rfl) (by intro hg K hK; obtain rfl := hu25 hg; go_simp; refine (sgValid_any o.pending _).mono ?_; rintro e w' ⟨rfl, hb⟩; refine hK _ w' ?_ hb; first | rfl | go_simp) ?_
  intro u26 v15 hu26 hb15
  replace HO := hide (HO.out.below hb15 HO.out.lt)
  replace HB := hide (HB.out.trans (hb15.mono HB.out.size))
  replace HH := hide (HH.out.later hb15)
  replace HL := hide (HL.out.below hb15)
  clear hb15 k15 k16 k17 k18
  have k15 : v15.cell? ⟨W.heap.size, 15, none⟩ = some (.slice o.pages.A o.pages.n o.pages.c) := HO.out.cell 15
  have k16 : v15.cell? ⟨W.heap.size, 16, none⟩ = some (.slice o.table.A o.table.n o.table.c) := HO.out.cell 16
  have k17 : v15.cell? ⟨W.heap.size, 17, none⟩ = some (.int .i64 o.pending) := HO.out.cell 17
  have k18 : v15.cell? ⟨W.heap.size, 18, none⟩ = some (.int .i64 o.alarm) := HO.out.cell 18
  refine wpList_pickd d22 _ rfl rfl (by go_simp; try with_reducible rfl) (by intro hg; obtain rfl := hu26 hg; go_simp; try with_reducible rfl) (by go_simp; try with_reducible rfl) ?_
  intro d27 hd27
  have HD27 := hide hd27
  clear hd27 hu24 hu25 hu26
  refine wpList_val rfl (by go_simp; try with_reducible rfl) ?_
  go_simp
  refine wpList_if 17 d27 rfl (by kernel_rfl) (by intro hg; go_simp; try with_reducible rfl) ?_
  intro u29 hu29
  refine wpList_if 17 d27 rfl (by kernel_rfl) (by intro hg; obtain rfl := hu29 hg; go_simp; try with_reducible rfl) ?_
  intro u30 hu30
  refine wpList_if 17 d27 rfl (by kernel_rfl) (by intro hg; obtain rfl := hu30 hg; go_simp; try with_reducible rfl) ?_
  intro u31 hu31
  refine wpList_pickd d27 _ rfl rfl (by go_simp; try with_reducible rfl) (by intro hg; obtain rfl := hu31 hg; go_simp; try with_reducible rfl) (by go_simp; try with_reducible rfl) ?_
  intro d32 hd32
  have HD32 := hide hd32
  clear hd32 hu29 hu30 hu31
  refine wpList_val rfl (by go_simp; try with_reducible rfl) ?_
  go_simp
  refine wpList_if 22 d32 rfl (by kernel_rfl) (by intro hg; go_simp; try with_reducible rfl) ?_
  intro u34 hu34
  refine wpList_if 22 d32 rfl (by kernel_rfl) (by intro hg; obtain rfl := hu34 hg; go_simp; try with_reducible rfl) ?_
  intro u35 hu35
  refine wpList_if 22 d32 rfl (by kernel_rfl) (by intro hg; obtain rfl := hu35 hg; go_simp; try with_reducible rfl) ?_
  intro u36 hu36
  refine wpList_pickd d32 _ rfl rfl (by go_simp; try with_reducible rfl) (by intro hg; obtain rfl := hu36 hg; go_simp; try with_reducible rfl) (by go_simp; try with_reducible rfl) ?_
  intro d37 hd37
  have HD37 := hide hd37
  clear hd37 hu34 hu35 hu36
  refine wpList_val rfl (by go_simp; try with_reducible rfl) ?_
  refine wpList_nil ?_
  go_simp
  go_wp2_with fail
  go_ret
  refine ⟨ret_bool ?_, HB.out⟩
  rw [← HD37.out, ← HD32.out, ← HD27.out, ← HD22.out, ← HD17.out]
  rw [← HD0.out, Bool.eq_iff_iff]
  simp only [decide_eq_true_eq, Bool.and_eq_true, beq_iff_eq]
  unfold Ob.PvParts
  rw [HCK.out]
  simp only [and_assoc]
  constructor
  · rintro ⟨h1, h2⟩; exact ⟨by omega, h2⟩
  · rintro ⟨h1, h2⟩; exact ⟨by omega, h2⟩
set_option maxRecDepth 100000 in
set_option maxHeartbeats 8000000 in
theorem pvNew_any (id pid : Int) (A : Option Addr) (n c : Nat) (l : List Int) (W : World) (h : Nums .u64 W W.heap.size A n l) (hn : n ≤ 9223372036854775807) : Calls Tryd.prog 30 #[.int .u64 id, .int .u64 pid, .slice A n c] W fun e w' => e = .returned (.bool (decide (id ≠ 0 ∧ id ≠ pid ∧ id ∉ l))) ∧ w' = W := by
  have HH := hide h
  clear h
  by_cases h0 : id = 0
  · subst h0
    go_enter Tryd.func30, Tryd.ntmps30
    go_wp2_with fail
    go_ret
    exact ⟨ret_bool (by simp), rfl⟩
  have e0 : (id != 0) = true := by simpa using h0
  by_cases h1 : id = pid
  · subst h1
    clear h0
    go_enter Tryd.func30, Tryd.ntmps30
    go_wp2_with fail
    go_ret
    exact ⟨ret_bool (by simp), rfl⟩
  have e1 : (id != pid) = true := by simpa using h1
  have HN : Hid (decide (id ≠ 0 ∧ id ≠ pid ∧ id ∉ l) = !decide (id ∈ l)) := hide (by simp [h0, h1])
  clear h0 h1
  go_enter Tryd.func30, Tryd.ntmps30
  go_wp2_with fail
  refine (contains64_any A n c l id _ HH.out hn).mono ?_
  rintro e w1 ⟨rfl, rfl⟩
  go_wp2_with fail
  go_ret
  exact ⟨ret_bool (by rw [HN.out]), rfl⟩
set_option maxRecDepth 100000 in
set_option maxHeartbeats 8000000 in
theorem pvKids_any (l : List Int) (A : Option Addr) (n c : Nat) (pid : Int) (W : World) (h : Nums .u64 W W.heap.size A n l) (hn : n ≤ c ∧ c ≤ 9223372036854775807) : Calls Tryd.prog 22 #[.slice A n c, .int .u64 pid] W fun e w' => e = .returned (.bool (decide (n ≤ 32 ∧ KidsTo pid l n))) ∧ Below W.heap.size W w' := by
  have HH := hide h
  have hl := h.len
  clear h
  have hnC : (n : Int) ≤ (c : Int) := by omega
  by_cases h32 : n ≤ 32
  · have b32 : ¬ (32 : Int) < (n : Int) := by omega
    have n32 : (n : Int) ≤ 32 := by omega
    go_enter Tryd.func22, Tryd.ntmps22
    go_wp2_with fail
    go_loop [12] (fun s12 => ∃ k : Nat, s12 = .int .i64 (k : Int) ∧ k ≤ n ∧ Hid (KidsTo pid l k)) (fun s12 => n - (intOf s12).toNat)
    case atStart => exact ⟨0, rfl, by omega, hide (KidsTo.zero _ _)⟩
    case round =>
      obtain ⟨k, rfl, hk, HK⟩ := hrel
      by_cases hlt : k < n
      · have hlt' : (k : Int) < (n : Int) := by omega
        obtain ⟨b', p', hkl, rfl, _, hc⟩ := HH.out.at_ hlt
        have HS := hide (kidsTo_succ (id := pid) hkl)
        have HT := hide (HH.out.takeN (m := k) (by omega))
        obtain ⟨x, hx⟩ : ∃ x, l[k] = x := ⟨_, rfl⟩
        rw [hx] at HS hc
        clear hx
        go_wp2_with (first | (refine wpList_val (by rfl) (exec_slice_k (i := k) rfl rfl rfl (by omega)) ?_) | fail)
        refine (pvNew_any x pid _ k c (l.take k) _ HT.out (by omega)).mono ?_
        rintro e w1 ⟨rfl, rfl⟩
        by_cases hq : x ≠ 0 ∧ x ≠ pid ∧ x ∉ l.take k
        · rw [decide_eq_true hq]
          have HK2 : Hid (KidsTo pid l (k + 1)) := hide (HS.out.2 ⟨HK.out, hq.1, hq.2.1, hq.2.2⟩)
          clear hq HK
          go_wp2_with fail
          go_round
          case rel => exact ⟨k + 1, by go_num, by omega, HK2⟩
          case measure => simp [intOf]; omega
        · rw [decide_eq_false hq]
          have HF : Hid (¬ KidsTo pid l n) := hide (fun hh => hq (HS.out.1 (hh.less (by omega))).2)
          clear hq
          go_wp2_with fail
          go_ret
          exact ⟨ret_bool (decide_eq_false fun hh => HF.out hh.2).symm, Below.refl _ _⟩
      · obtain rfl : k = n := by omega
        go_wp2_with fail
        go_ret
        exact ⟨ret_bool (Eq.symm (decide_eq_true (by first | exact HK.out | exact ⟨h32, HK.out⟩))), Below.refl _ _⟩
  · have b32 : (32 : Int) < (n : Int) := by omega
    have HF := hide h32
    clear h32
    go_enter Tryd.func22, Tryd.ntmps22
    go_wp2_with fail
    go_ret
    exact ⟨ret_bool (decide_eq_false fun hh => HF.out hh.1).symm, Below.refl _ _⟩
set_option maxRecDepth 100000 in
set_option maxHeartbeats 8000000 in
theorem pvValid_any (o : Ob) (X : Cont) (W : World) (h : HoldsP W W.heap.size o X) (hI : o.ProcIn X) (hL : LaidO W) : Calls Tryd.prog 9 #[.agg (oc o)] W (BoolPost (decide (o.Proc X)) W) := by
  have HI := hide hI
  clear hI
  obtain ⟨w1, hw, O, hb⟩ : ∃ w1, W.alloc (.cells (oc o) 42) = w1 ∧ Obl w1 W.heap.size 42 (oc o) ∧ Below W.heap.size W w1 := ⟨_, rfl, Obl.make W _ _, (Below.refl _ _).alloc (Nat.le_refl _) _⟩
  have HB := hide hb
  have HO := hide O
  have HH : Hid (HoldsP w1 w1.heap.size o X) := hide ((h.below hb).mono hb.size)
  clear h
  have HL : Hid (LaidO w1) := hide (hL.below hb)
  clear hL
  clear hb O
  have k0 : w1.cell? ⟨W.heap.size, 0, none⟩ = some (.int .u64 o.id) := HO.out.cell 0
  have k1 : w1.cell? ⟨W.heap.size, 1, none⟩ = some (.int .i64 o.kind) := HO.out.cell 1
  have k4 : w1.cell? ⟨W.heap.size, 4, none⟩ = some (.int .u64 o.parent) := HO.out.cell 4
  have k5 : w1.cell? ⟨W.heap.size, 5, none⟩ = some (.slice o.children.A o.children.n o.children.c) := HO.out.cell 5
  go_enter Tryd.func9, Tryd.ntmps9
  try dsimp only [List.append]
  go_upto_region 1 with (fail)
  clear hw
  refine wp_region_lit ?_
  refine wpList_val rfl (by go_simp; try with_reducible rfl) ?_
  refine wpList_val rfl (by go_simp; try with_reducible rfl) ?_
  refine wpList_val rfl (by go_simp; try with_reducible rfl) ?_
  refine wpList_val rfl (by go_simp; try with_reducible rfl) ?_
  go_simp
  generalize hd0 : (o.kind == 1) = d0
  have HD0 := hide hd0
  clear hd0
  refine wpList_if 3 d0 rfl (by kernel_rfl) (by intro hg; go_simp; try with_reducible rfl) ?_
  intro u7 hu7
  refine wpList_if 3 d0 rfl (by kernel_rfl) (by intro hg; obtain rfl := hu7 hg; go_simp; try with_reducible rfl) ?_
  intro u8 hu8
  refine wpList_if 3 d0 rfl (by kernel_rfl) (by intro hg; obtain rfl := hu8 hg; go_simp; try with_reducible rfl) ?_
  intro u9 hu9
  refine wpList_pickd d0 _ rfl rfl (by go_simp; try with_reducible rfl) (by intro hg; obtain rfl := hu9 hg; go_simp; try with_reducible rfl) (by go_simp; try with_reducible rfl) ?_
  intro d10 hd10
  have HD10 := hide hd10
  clear hd10 hu7 hu8 hu9
  refine wpList_val rfl (by go_simp; try with_reducible rfl) ?_
  go_simp
  refine wpList_if 8 d10 rfl (by kernel_rfl) (by intro hg; exact exec_load_ob rfl rfl HO.out) ?_
  intro u12 hu12
  refine wpList_ifcall (decide (o.Counts)) 8 d10 rfl (by kernel_rfl) (by intro hg K hK; obtain rfl := hu12 hg; go_simp; refine (pvNumbers_any o _).mono ?_; rintro e w' ⟨rfl, hb⟩; refine hK _ w' ?_ hb; first | rfl | go_simp) ?_
  intro u13 v10 hu13 hb10
  replace HO := hide (HO.out.below hb10 HO.out.lt)
  replace HB := hide (HB.out.trans (hb10.mono HB.out.size))
  replace HH := hide (HH.out.later hb10)
  replace HL := hide (HL.out.below hb10)
  clear hb10 k0 k1 k4 k5
  have k0 : v10.cell? ⟨W.heap.size, 0, none⟩ = some (.int .u64 o.id) := HO.out.cell 0
  have k1 : v10.cell? ⟨W.heap.size, 1, none⟩ = some (.int .i64 o.kind) := HO.out.cell 1
  have k4 : v10.cell? ⟨W.heap.size, 4, none⟩ = some (.int .u64 o.parent) := HO.out.cell 4
  have k5 : v10.cell? ⟨W.heap.size, 5, none⟩ = some (.slice o.children.A o.children.n o.children.c) := HO.out.cell 5
  refine wpList_pickd d10 _ rfl rfl (by go_simp; try with_reducible rfl) (by intro hg; obtain rfl := hu13 hg; go_simp; try with_reducible rfl) (by go_simp; try with_reducible rfl) ?_
  intro d14 hd14
  have HD14 := hide hd14
  clear hd14 hu12 hu13
  refine wpList_val rfl (by go_simp; try with_reducible rfl) ?_
  go_simp
  refine wpList_if 12 d14 rfl (by kernel_rfl) (by intro hg; exact exec_load_ob rfl rfl HO.out) ?_
  intro u16 hu16
  refine wpList_ifcall (decide (o.Listless)) 12 d14 rfl (by kernel_rfl) (by intro hg K hK; obtain rfl := hu16 hg; go_simp; refine (pvLists_any o _).mono ?_; rintro e w' ⟨rfl, hb⟩; refine hK _ w' ?_ hb; first | rfl | go_simp) ?_
  intro u17 v14 hu17 hb14
  replace HO := hide (HO.out.below hb14 HO.out.lt)
  replace HB := hide (HB.out.trans (hb14.mono HB.out.size))
  replace HH := hide (HH.out.later hb14)
  replace HL := hide (HL.out.below hb14)
  clear hb14 k0 k1 k4 k5
  have k0 : v14.cell? ⟨W.heap.size, 0, none⟩ = some (.int .u64 o.id) := HO.out.cell 0
  have k1 : v14.cell? ⟨W.heap.size, 1, none⟩ = some (.int .i64 o.kind) := HO.out.cell 1
  have k4 : v14.cell? ⟨W.heap.size, 4, none⟩ = some (.int .u64 o.parent) := HO.out.cell 4
  have k5 : v14.cell? ⟨W.heap.size, 5, none⟩ = some (.slice o.children.A o.children.n o.children.c) := HO.out.cell 5
  refine wpList_pickd d14 _ rfl rfl (by go_simp; try with_reducible rfl) (by intro hg; obtain rfl := hu17 hg; go_simp; try with_reducible rfl) (by go_simp; try with_reducible rfl) ?_
  intro d18 hd18
  have HD18 := hide hd18
  clear hd18 hu16 hu17
  refine wpList_val rfl (by go_simp; try with_reducible rfl) ?_
  go_simp
  refine wpList_if 16 d18 rfl (by kernel_rfl) (by intro hg; go_simp; try with_reducible rfl) ?_
  intro u20 hu20
  refine wpList_if 16 d18 rfl (by kernel_rfl) (by intro hg; obtain rfl := hu20 hg; go_simp; try with_reducible rfl) ?_
  intro u21 hu21
  refine wpList_if 16 d18 rfl (by kernel_rfl) (by intro hg; obtain rfl := hu21 hg; go_simp; try with_reducible rfl) ?_
  intro u22 hu22
  refine wpList_if 16 d18 rfl (by kernel_rfl) (by intro hg; go_simp; try with_reducible rfl) ?_
  intro u23 hu23
  refine wpList_if 16 d18 rfl (by kernel_rfl) (by intro hg; obtain rfl := hu23 hg; go_simp; try with_reducible rfl) ?_
  intro u24 hu24
  refine wpList_if 16 d18 rfl (by kernel_rfl) (by intro hg; obtain rfl := hu22 hg; obtain rfl := hu24 hg; go_simp; try with_reducible rfl) ?_
  intro u25 hu25
  refine wpList_pickd d18 _ rfl rfl (by go_simp; try with_reducible rfl) (by intro hg; obtain rfl := hu25 hg; go_simp; try with_reducible rfl) (by go_simp; try with_reducible rfl) ?_
  intro d26 hd26
  have HD26 := hide hd26
  clear hd26 hu20 hu21 hu22 hu23 hu24 hu25
  refine wpList_val rfl (by go_simp; try with_reducible rfl) ?_
  go_simp
  refine wpList_if 24 d26 rfl (by kernel_rfl) (by intro hg; go_simp; try with_reducible rfl) ?_
  intro u28 hu28
  refine wpList_if 24 d26 rfl (by kernel_rfl) (by intro hg; obtain rfl := hu28 hg; go_simp; try with_reducible rfl) ?_
  intro u29 hu29
  refine wpList_if 24 d26 rfl (by kernel_rfl) (by intro hg; obtain rfl := hu29 hg; go_simp; try with_reducible rfl) ?_
  intro u30 hu30
  refine wpList_if 24 d26 rfl (by kernel_rfl) (by intro hg; go_simp; try with_reducible rfl) ?_
  intro u31 hu31
  refine wpList_if 24 d26 rfl (by kernel_rfl) (by intro hg; obtain rfl := hu31 hg; go_simp; try with_reducible rfl) ?_
  intro u32 hu32
  refine wpList_ifcall (decide (o.children.n ≤ 32 ∧ KidsTo o.id X.children o.children.n)) 24 d26 rfl (by kernel_rfl) (by intro hg K hK; obtain rfl := hu30 hg; obtain rfl := hu32 hg; go_simp; refine (pvKids_any X.children o.children.A o.children.n o.children.c o.id _ HH.out.children HI.out.kids).mono ?_; rintro e w' ⟨rfl, hb⟩; refine hK _ w' ?_ hb; first | rfl | go_simp) ?_
  intro u33 v30 hu33 hb30
  replace HO := hide (HO.out.below hb30 HO.out.lt)
  replace HB := hide (HB.out.trans (hb30.mono HB.out.size))
  replace HH := hide (HH.out.later hb30)
  replace HL := hide (HL.out.below hb30)
  clear hb30 k0 k1 k4 k5
  have k0 : v30.cell? ⟨W.heap.size, 0, none⟩ = some (.int .u64 o.id) := HO.out.cell 0
  have k1 : v30.cell? ⟨W.heap.size, 1, none⟩ = some (.int .i64 o.kind) := HO.out.cell 1
  have k4 : v30.cell? ⟨W.heap.size, 4, none⟩ = some (.int .u64 o.parent) := HO.out.cell 4
  have k5 : v30.cell? ⟨W.heap.size, 5, none⟩ = some (.slice o.children.A o.children.n o.children.c) := HO.out.cell 5
  refine wpList_pickd d26 _ rfl rfl (by go_simp; try with_reducible rfl) (by intro hg; obtain rfl := hu33 hg; go_simp; try with_reducible rfl) (by go_simp; try with_reducible rfl) ?_
  intro d34 hd34
  have HD34 := hide hd34
  clear hd34 hu28 hu29 hu30 hu31 hu32 hu33
  refine wpList_val rfl (by go_simp; try with_reducible rfl) ?_
  go_simp
  refine wpList_if 32 d34 rfl (by kernel_rfl) (by intro hg; go_simp; try with_reducible rfl) ?_
  intro u36 hu36
  refine wpList_if 32 d34 rfl (by kernel_rfl) (by intro hg; obtain rfl := hu36 hg; exact exec_load_proc rfl rfl HO.out) ?_
  intro u37 hu37
  refine wpList_ifcall (decide (o.PvParts X)) 32 d34 rfl (by kernel_rfl) (by intro hg K hK; obtain rfl := hu37 hg; go_simp; refine (pvParts_any o X _ HH.out HI.out HL.out).mono ?_; rintro e w' ⟨rfl, hb⟩; refine hK _ w' ?_ hb; first | rfl | go_simp) ?_
  intro u38 v35 hu38 hb35
  replace HO := hide (HO.out.below hb35 HO.out.lt)
  replace HB := hide (HB.out.trans (hb35.mono HB.out.size))
  replace HH := hide (HH.out.later hb35)
  replace HL := hide (HL.out.below hb35)
  clear hb35 k0 k1 k4 k5
  have k0 : v35.cell? ⟨W.heap.size, 0, none⟩ = some (.int .u64 o.id) := HO.out.cell 0
  have k1 : v35.cell? ⟨W.heap.size, 1, none⟩ = some (.int .i64 o.kind) := HO.out.cell 1
  have k4 : v35.cell? ⟨W.heap.size, 4, none⟩ = some (.int .u64 o.parent) := HO.out.cell 4
  have k5 : v35.cell? ⟨W.heap.size, 5, none⟩ = some (.slice o.children.A o.children.n o.children.c) := HO.out.cell 5
  refine wpList_pickd d34 _ rfl rfl (by go_simp; try with_reducible rfl) (by intro hg; obtain rfl := hu38 hg; go_simp; try with_reducible rfl) (by go_simp; try with_reducible rfl) ?_
  intro d39 hd39
  have HD39 := hide hd39
  clear hd39 hu36 hu37 hu38
  refine wpList_val rfl (by go_simp; try with_reducible rfl) ?_
  go_simp
  refine wpList_if 37 d39 rfl (by kernel_rfl) (by intro hg; go_simp; try with_reducible rfl) ?_
  intro u41 hu41
  refine wpList_if 37 d39 rfl (by kernel_rfl) (by intro hg; obtain rfl := hu41 hg; exact exec_load_proc rfl rfl HO.out) ?_
  intro u42 hu42
  refine wpList_ifcall (decide (o.PvState)) 37 d39 rfl (by kernel_rfl) (by intro hg K hK; obtain rfl := hu42 hg; go_simp; refine (pvFits_any o X _ HH.out ⟨HI.out.code, HI.out.strs.1⟩).mono ?_; rintro e w' ⟨rfl, hb⟩; refine hK _ w' ?_ hb; first | rfl | go_simp) ?_
  intro u43 v40 hu43 hb40
  replace HO := hide (HO.out.below hb40 HO.out.lt)
  replace HB := hide (HB.out.trans (hb40.mono HB.out.size))
  replace HH := hide (HH.out.later hb40)
  replace HL := hide (HL.out.below hb40)
  clear hb40 k0 k1 k4 k5
  have k0 : v40.cell? ⟨W.heap.size, 0, none⟩ = some (.int .u64 o.id) := HO.out.cell 0
  have k1 : v40.cell? ⟨W.heap.size, 1, none⟩ = some (.int .i64 o.kind) := HO.out.cell 1
  have k4 : v40.cell? ⟨W.heap.size, 4, none⟩ = some (.int .u64 o.parent) := HO.out.cell 4
  have k5 : v40.cell? ⟨W.heap.size, 5, none⟩ = some (.slice o.children.A o.children.n o.children.c) := HO.out.cell 5
  refine wpList_pickd d39 _ rfl rfl (by go_simp; try with_reducible rfl) (by intro hg; obtain rfl := hu43 hg; go_simp; try with_reducible rfl) (by go_simp; try with_reducible rfl) ?_
  intro d44 hd44
  have HD44 := hide hd44
  clear hd44 hu41 hu42 hu43
  refine wpList_val rfl (by go_simp; try with_reducible rfl) ?_
  refine wpList_nil ?_
  go_simp
  go_wp2_with fail
  go_ret
  refine ⟨ret_bool ?_, HB.out⟩
  rw [← HD44.out, ← HD39.out, ← HD34.out, ← HD26.out, ← HD18.out, ← HD14.out, ← HD10.out]
  rw [← HD0.out, Bool.eq_iff_iff]
  simp only [decide_eq_true_eq, Bool.and_eq_true, beq_iff_eq, bne_iff_ne]
  rw [pv_proc_iff]
  simp only [and_assoc, ne_eq]
end Go.Proofs.YtdglcpepgodcpaaDoor
