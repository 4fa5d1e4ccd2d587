/- Layer 17, package device: which objects are devices (written by tools/mkdvvalid.py) -/
import Derived.Test.YtddbohnappogkaaDvMath
import Derived.Test.YtddbohnappogkaaRegionX
import Derived.Deep.CutRange
namespace Go.Proofs.Ytddbohnappogkaa
open Go.RowKit
set_option maxRecDepth 100000 in
set_option maxHeartbeats 4000000 in
/-- No list of a process. -/
theorem dvPLists_any (o : Ob) (W : World) : Calls Try.prog 46 #[.agg (pcell o)] W (BoolPost (decide o.DvPLists) W) := by
  obtain ⟨w1, hw, O, hb⟩ : ∃ w1, W.alloc (.cells (pcell o) 34) = w1 ∧ Obl w1 W.heap.size 34 (pcell o) ∧ Below W.heap.size W w1 := ⟨_, rfl, Obl.make W _ _, (Below.refl _ _).alloc (Nat.le_refl _) _⟩
  have HB := hide hb
  have HO := hide O
  clear hb O
  have k2 : w1.cell? ⟨W.heap.size, 2, none⟩ = some (.slice o.children.A o.children.n o.children.c) := HO.out.cell 2
  have k3 : w1.cell? ⟨W.heap.size, 3, none⟩ = some (.slice o.code.A o.code.n o.code.c) := HO.out.cell 3
  have k4 : w1.cell? ⟨W.heap.size, 4, none⟩ = some (.slice o.strs.A o.strs.n o.strs.c) := HO.out.cell 4
  have k15 : w1.cell? ⟨W.heap.size, 15, none⟩ = some (.slice o.pages.A o.pages.n o.pages.c) := HO.out.cell 15
  have k16 : w1.cell? ⟨W.heap.size, 16, none⟩ = some (.slice o.table.A o.table.n o.table.c) := HO.out.cell 16
  go_enter Try.func46, Try.ntmps46
  try dsimp only [List.append]
  go_upto_region 1 with (fail)
  clear hw
  refine wp_region_lit ?_
  refine wpList_val rfl (by go_simp; try with_reducible rfl) ?_
  refine wpList_val rfl (by go_simp; try with_reducible rfl) ?_
  refine wpList_val rfl (by go_simp; try with_reducible rfl) ?_
  refine wpList_val rfl (by go_simp; try with_reducible rfl) ?_
  refine wpList_val rfl (by go_simp; try with_reducible rfl) ?_
  go_simp
  generalize hd0 : ((o.children.n : Int) == 0) = d0
  have HD0 := hide hd0
  clear hd0
  refine wpList_if 4 d0 rfl (by kernel_rfl) (by intro hg; go_simp; try with_reducible rfl) ?_
  intro u8 hu8
  refine wpList_if 4 d0 rfl (by kernel_rfl) (by intro hg; obtain rfl := hu8 hg; go_simp; try with_reducible rfl) ?_
  intro u9 hu9
  refine wpList_if 4 d0 rfl (by kernel_rfl) (by intro hg; obtain rfl := hu9 hg; go_simp; try with_reducible rfl) ?_
  intro u10 hu10
  refine wpList_if 4 d0 rfl (by kernel_rfl) (by intro hg; obtain rfl := hu10 hg; go_simp; try with_reducible rfl) ?_
  intro u11 hu11
  refine wpList_if 4 d0 rfl (by kernel_rfl) (by intro hg; obtain rfl := hu11 hg; go_simp; try with_reducible rfl) ?_
  intro u12 hu12
  refine wpList_pickd d0 _ rfl rfl (by go_simp; try with_reducible rfl) (by intro hg; obtain rfl := hu12 hg; go_simp; try with_reducible rfl) (by go_simp; try with_reducible rfl) ?_
  intro d13 hd13
  have HD13 := hide hd13
  clear hd13 hu8 hu9 hu10 hu11 hu12
  refine wpList_val rfl (by go_simp; try with_reducible rfl) ?_
  go_simp
  refine wpList_if 11 d13 rfl (by kernel_rfl) (by intro hg; go_simp; try with_reducible rfl) ?_
  intro u15 hu15
  refine wpList_if 11 d13 rfl (by kernel_rfl) (by intro hg; obtain rfl := hu15 hg; go_simp; try with_reducible rfl) ?_
  intro u16 hu16
  refine wpList_if 11 d13 rfl (by kernel_rfl) (by intro hg; obtain rfl := hu16 hg; go_simp; try with_reducible rfl) ?_
  intro u17 hu17
  refine wpList_if 11 d13 rfl (by kernel_rfl) (by intro hg; obtain rfl := hu17 hg; go_simp; try with_reducible rfl) ?_
  intro u18 hu18
  refine wpList_if 11 d13 rfl (by kernel_rfl) (by intro hg; obtain rfl := hu18 hg; go_simp; try with_reducible rfl) ?_
  intro u19 hu19
  refine wpList_pickd d13 _ rfl rfl (by go_simp; try with_reducible rfl) (by intro hg; obtain rfl := hu19 hg; go_simp; try with_reducible rfl) (by go_simp; try with_reducible rfl) ?_
  intro d20 hd20
  have HD20 := hide hd20
  clear hd20 hu15 hu16 hu17 hu18 hu19
  refine wpList_val rfl (by go_simp; try with_reducible rfl) ?_
  go_simp
  refine wpList_if 18 d20 rfl (by kernel_rfl) (by intro hg; go_simp; try with_reducible rfl) ?_
  intro u22 hu22
  refine wpList_if 18 d20 rfl (by kernel_rfl) (by intro hg; obtain rfl := hu22 hg; go_simp; try with_reducible rfl) ?_
  intro u23 hu23
  refine wpList_if 18 d20 rfl (by kernel_rfl) (by intro hg; obtain rfl := hu23 hg; go_simp; try with_reducible rfl) ?_
  intro u24 hu24
  refine wpList_if 18 d20 rfl (by kernel_rfl) (by intro hg; obtain rfl := hu24 hg; go_simp; try with_reducible rfl) ?_
  intro u25 hu25
  refine wpList_pickd d20 _ rfl rfl (by go_simp; try with_reducible rfl) (by intro hg; obtain rfl := hu25 hg; go_simp; try with_reducible rfl) (by go_simp; try with_reducible rfl) ?_
  intro d26 hd26
  have HD26 := hide hd26
  clear hd26 hu22 hu23 hu24 hu25
  refine wpList_val rfl (by go_simp; try with_reducible rfl) ?_
  go_simp
  refine wpList_if 24 d26 rfl (by kernel_rfl) (by intro hg; go_simp; try with_reducible rfl) ?_
  intro u28 hu28
  refine wpList_if 24 d26 rfl (by kernel_rfl) (by intro hg; obtain rfl := hu28 hg; go_simp; try with_reducible rfl) ?_
  intro u29 hu29
  refine wpList_if 24 d26 rfl (by kernel_rfl) (by intro hg; obtain rfl := hu29 hg; go_simp; try with_reducible rfl) ?_
  intro u30 hu30
  refine wpList_if 24 d26 rfl (by kernel_rfl) (by intro hg; obtain rfl := hu30 hg; go_simp; try with_reducible rfl) ?_
  intro u31 hu31
  refine wpList_pickd d26 _ rfl rfl (by go_simp; try with_reducible rfl) (by intro hg; obtain rfl := hu31 hg; go_simp; try with_reducible rfl) (by go_simp; try with_reducible rfl) ?_
  intro d32 hd32
  have HD32 := hide hd32
  clear hd32 hu28 hu29 hu30 hu31
  refine wpList_val rfl (by go_simp; try with_reducible rfl) ?_
  refine wpList_nil ?_
  go_simp
  go_wp2_with fail
  go_ret
  refine ⟨ret_bool ?_, HB.out⟩
  rw [← HD32.out, ← HD26.out, ← HD20.out, ← HD13.out]
  rw [← HD0.out]
  rw [Bool.eq_iff_iff]
  simp only [decide_eq_true_eq]
  simp [Ob.DvPLists, and_assoc]
set_option maxRecDepth 100000 in
set_option maxHeartbeats 4000000 in
/-- No list. -/
theorem dvLists_any (o : Ob) (W : World) : Calls Try.prog 31 #[.agg (oc o)] W (BoolPost (decide o.DvLists) W) := by
  obtain ⟨w1, hw, O, hb⟩ : ∃ w1, W.alloc (.cells (oc o) 41) = w1 ∧ Obl w1 W.heap.size 41 (oc o) ∧ Below W.heap.size W w1 := ⟨_, rfl, Obl.make W _ _, (Below.refl _ _).alloc (Nat.le_refl _) _⟩
  have HB := hide hb
  have HO := hide O
  clear hb O
  have k23 : w1.cell? ⟨W.heap.size, 23, none⟩ = some (.slice o.words.A o.words.n o.words.c) := HO.out.cell 23
  have k24 : w1.cell? ⟨W.heap.size, 24, none⟩ = some (.slice o.data.A o.data.n o.data.c) := HO.out.cell 24
  have k29 : w1.cell? ⟨W.heap.size, 29, none⟩ = some (.slice o.backlog.A o.backlog.n o.backlog.c) := HO.out.cell 29
  have k35 : w1.cell? ⟨W.heap.size, 35, none⟩ = some (.slice o.names.A o.names.n o.names.c) := HO.out.cell 35
  have k30 : w1.cell? ⟨W.heap.size, 30, none⟩ = some (.slice o.q0.A o.q0.n o.q0.c) := HO.out.cell 30
  have k31 : w1.cell? ⟨W.heap.size, 31, none⟩ = some (.slice o.q1.A o.q1.n o.q1.c) := HO.out.cell 31
  go_enter Try.func31, Try.ntmps31
  try dsimp only [List.append]
  go_upto_region 1 with (fail)
  clear hw
  refine wp_region_lit ?_
  refine wpList_val rfl (by go_simp; try with_reducible rfl) ?_
  refine wpList_val rfl (by go_simp; try with_reducible rfl) ?_
  refine wpList_val rfl (by go_simp; try with_reducible rfl) ?_
  refine wpList_val rfl (by go_simp; try with_reducible rfl) ?_
  refine wpList_val rfl (by go_simp; try with_reducible rfl) ?_
  go_simp
  generalize hd0 : ((o.words.n : Int) == 0) = d0
  have HD0 := hide hd0
  clear hd0
  refine wpList_if 4 d0 rfl (by kernel_rfl) (by intro hg; go_simp; try with_reducible rfl) ?_
  intro u8 hu8
  refine wpList_if 4 d0 rfl (by kernel_rfl) (by intro hg; obtain rfl := hu8 hg; go_simp; try with_reducible rfl) ?_
  intro u9 hu9
  refine wpList_if 4 d0 rfl (by kernel_rfl) (by intro hg; obtain rfl := hu9 hg; go_simp; try with_reducible rfl) ?_
  intro u10 hu10
  refine wpList_if 4 d0 rfl (by kernel_rfl) (by intro hg; obtain rfl := hu10 hg; go_simp; try with_reducible rfl) ?_
  intro u11 hu11
  refine wpList_pickd d0 _ rfl rfl (by go_simp; try with_reducible rfl) (by intro hg; obtain rfl := hu11 hg; go_simp; try with_reducible rfl) (by go_simp; try with_reducible rfl) ?_
  intro d12 hd12
  have HD12 := hide hd12
  clear hd12 hu8 hu9 hu10 hu11
  refine wpList_val rfl (by go_simp; try with_reducible rfl) ?_
  go_simp
  refine wpList_if 10 d12 rfl (by kernel_rfl) (by intro hg; go_simp; try with_reducible rfl) ?_
  intro u14 hu14
  refine wpList_if 10 d12 rfl (by kernel_rfl) (by intro hg; obtain rfl := hu14 hg; go_simp; try with_reducible rfl) ?_
  intro u15 hu15
  refine wpList_if 10 d12 rfl (by kernel_rfl) (by intro hg; obtain rfl := hu15 hg; go_simp; try with_reducible rfl) ?_
  intro u16 hu16
  refine wpList_if 10 d12 rfl (by kernel_rfl) (by intro hg; obtain rfl := hu16 hg; go_simp; try with_reducible rfl) ?_
  intro u17 hu17
  refine wpList_pickd d12 _ rfl rfl (by go_simp; try with_reducible rfl) (by intro hg; obtain rfl := hu17 hg; go_simp; try with_reducible rfl) (by go_simp; try with_reducible rfl) ?_
  intro d18 hd18
  have HD18 := hide hd18
  clear hd18 hu14 hu15 hu16 hu17
  refine wpList_val rfl (by go_simp; try with_reducible rfl) ?_
  go_simp
  refine wpList_if 16 d18 rfl (by kernel_rfl) (by intro hg; go_simp; try with_reducible rfl) ?_
  intro u20 hu20
  refine wpList_if 16 d18 rfl (by kernel_rfl) (by intro hg; obtain rfl := hu20 hg; go_simp; try with_reducible rfl) ?_
  intro u21 hu21
  refine wpList_if 16 d18 rfl (by kernel_rfl) (by intro hg; obtain rfl := hu21 hg; go_simp; try with_reducible rfl) ?_
  intro u22 hu22
  refine wpList_if 16 d18 rfl (by kernel_rfl) (by intro hg; obtain rfl := hu22 hg; go_simp; try with_reducible rfl) ?_
  intro u23 hu23
  refine wpList_pickd d18 _ rfl rfl (by go_simp; try with_reducible rfl) (by intro hg; obtain rfl := hu23 hg; go_simp; try with_reducible rfl) (by go_simp; try with_reducible rfl) ?_
  intro d24 hd24
  have HD24 := hide hd24
  clear hd24 hu20 hu21 hu22 hu23
  refine wpList_val rfl (by go_simp; try with_reducible rfl) ?_
  go_simp
  refine wpList_if 22 d24 rfl (by kernel_rfl) (by intro hg; go_simp; try with_reducible rfl) ?_
  intro u26 hu26
  refine wpList_if 22 d24 rfl (by kernel_rfl) (by intro hg; obtain rfl := hu26 hg; go_simp; try with_reducible rfl) ?_
  intro u27 hu27
  refine wpList_if 22 d24 rfl (by kernel_rfl) (by intro hg; obtain rfl := hu27 hg; go_simp; try with_reducible rfl) ?_
  intro u28 hu28
  refine wpList_if 22 d24 rfl (by kernel_rfl) (by intro hg; obtain rfl := hu28 hg; go_simp; try with_reducible rfl) ?_
  intro u29 hu29
  refine wpList_if 22 d24 rfl (by kernel_rfl) (by intro hg; obtain rfl := hu29 hg; go_simp; try with_reducible rfl) ?_
  intro u30 hu30
  refine wpList_pickd d24 _ rfl rfl (by go_simp; try with_reducible rfl) (by intro hg; obtain rfl := hu30 hg; go_simp; try with_reducible rfl) (by go_simp; try with_reducible rfl) ?_
  intro d31 hd31
  have HD31 := hide hd31
  clear hd31 hu26 hu27 hu28 hu29 hu30
  refine wpList_val rfl (by go_simp; try with_reducible rfl) ?_
  go_simp
  refine wpList_if 29 d31 rfl (by kernel_rfl) (by intro hg; go_simp; try with_reducible rfl) ?_
  intro u33 hu33
  refine wpList_if 29 d31 rfl (by kernel_rfl) (by intro hg; obtain rfl := hu33 hg; go_simp; try with_reducible rfl) ?_
  intro u34 hu34
  refine wpList_if 29 d31 rfl (by kernel_rfl) (by intro hg; obtain rfl := hu34 hg; go_simp; try with_reducible rfl) ?_
  intro u35 hu35
  refine wpList_if 29 d31 rfl (by kernel_rfl) (by intro hg; obtain rfl := hu35 hg; go_simp; try with_reducible rfl) ?_
  intro u36 hu36
  refine wpList_if 29 d31 rfl (by kernel_rfl) (by intro hg; obtain rfl := hu36 hg; go_simp; try with_reducible rfl) ?_
  intro u37 hu37
  refine wpList_pickd d31 _ rfl rfl (by go_simp; try with_reducible rfl) (by intro hg; obtain rfl := hu37 hg; go_simp; try with_reducible rfl) (by go_simp; try with_reducible rfl) ?_
  intro d38 hd38
  have HD38 := hide hd38
  clear hd38 hu33 hu34 hu35 hu36 hu37
  refine wpList_val rfl (by go_simp; try with_reducible rfl) ?_
  go_simp
  refine wpList_if 36 d38 rfl (by kernel_rfl) (by intro hg; go_simp; try with_reducible rfl) ?_
  intro u40 hu40
  refine wpList_if 36 d38 rfl (by kernel_rfl) (by intro hg; obtain rfl := hu40 hg; exact exec_load_proc rfl rfl HO.out) ?_
  intro u41 hu41
  refine wpList_ifcall (decide (o.DvPLists)) 36 d38 rfl (by kernel_rfl) (by intro hg K hK; obtain rfl := hu41 hg; go_simp; refine (dvPLists_any o _).mono ?_; rintro e w' ⟨rfl, hb⟩; refine hK _ w' ?_ hb; first | rfl | go_simp) ?_
  intro u42 v39 hu42 hb39
  replace HO := hide (HO.out.below hb39 HO.out.lt)
  replace HB := hide (HB.out.trans (hb39.mono HB.out.size))
  clear hb39 k23 k24 k29 k35 k30 k31
  have k23 : v39.cell? ⟨W.heap.size, 23, none⟩ = some (.slice o.words.A o.words.n o.words.c) := HO.out.cell 23
  have k24 : v39.cell? ⟨W.heap.size, 24, none⟩ = some (.slice o.data.A o.data.n o.data.c) := HO.out.cell 24
  have k29 : v39.cell? ⟨W.heap.size, 29, none⟩ = some (.slice o.backlog.A o.backlog.n o.backlog.c) := HO.out.cell 29
  have k35 : v39.cell? ⟨W.heap.size, 35, none⟩ = some (.slice o.names.A o.names.n o.names.c) := HO.out.cell 35
  have k30 : v39.cell? ⟨W.heap.size, 30, none⟩ = some (.slice o.q0.A o.q0.n o.q0.c) := HO.out.cell 30
  have k31 : v39.cell? ⟨W.heap.size, 31, none⟩ = some (.slice o.q1.A o.q1.n o.q1.c) := HO.out.cell 31
  refine wpList_pickd d38 _ rfl rfl (by go_simp; try with_reducible rfl) (by intro hg; obtain rfl := hu42 hg; go_simp; try with_reducible rfl) (by go_simp; try with_reducible rfl) ?_
  intro d43 hd43
  have HD43 := hide hd43
  clear hd43 hu40 hu41 hu42
  refine wpList_val rfl (by go_simp; try with_reducible rfl) ?_
  refine wpList_nil ?_
  go_simp
  go_wp2_with fail
  go_ret
  refine ⟨ret_bool ?_, HB.out⟩
  rw [← HD43.out, ← HD38.out, ← HD31.out, ← HD24.out, ← HD18.out, ← HD12.out]
  rw [← HD0.out]
  rw [Bool.eq_iff_iff]
  simp only [decide_eq_true_eq]
  simp [Ob.DvLists, Ob.Listless, Ob.Contents, and_assoc]
/-- A process without its lists. -/
def DnPost (v : Array Value) (w : World) (e : Ending) (w' : World) : Prop := e = .returned (.agg v) ∧ Below w.heap.size w w'
set_option maxRecDepth 100000 in
set_option maxHeartbeats 4000000 in
theorem dvProc_any (o : Ob) (W : World) : Calls Try.prog 47 #[.agg (pcell o)] W (DnPost (pn o) W) := by
  obtain ⟨w1, hw, O, OR, hb⟩ : ∃ w1, (W.alloc (.cells (pcell o) 34)).alloc (.cells (pn Ob.zero) 71) = w1 ∧ Obl w1 W.heap.size 34 (pcell o) ∧ Obl w1 (W.heap.size + 1) 71 (pn Ob.zero) ∧ Below W.heap.size W w1 := by
    have h1 : Below W.heap.size W (W.alloc (.cells (pcell o) 34)) := (Below.refl _ _).alloc (Nat.le_refl _) _
    have h2 : Below (W.heap.size + 1) (W.alloc (.cells (pcell o) 34)) ((W.alloc (.cells (pcell o) 34)).alloc (.cells (pn Ob.zero) 71)) := (Below.refl _ _).alloc (by simp) _
    refine ⟨_, rfl, (Obl.make W _ _).below h2 (by simp), ?_, h1.trans (h2.mono (by simp))⟩
    have h3 := Obl.make (W.alloc (.cells (pcell o) 34)) 71 (pn Ob.zero)
    rwa [World.size_alloc] at h3
  have HB := hide hb
  clear hb
  have k0 : w1.cell? ⟨W.heap.size, 0, none⟩ = some (.int .i64 o.state) := O.cell 0
  have k1 : w1.cell? ⟨W.heap.size, 1, none⟩ = some (.int .u64 o.parent) := O.cell 1
  have k5 : w1.cell? ⟨W.heap.size, 5, none⟩ = some (.int .i64 o.ppages) := O.cell 5
  have k17 : w1.cell? ⟨W.heap.size, 17, none⟩ = some (.int .i64 o.pending) := O.cell 17
  have k18 : w1.cell? ⟨W.heap.size, 18, none⟩ = some (.int .i64 o.alarm) := O.cell 18
  have k19 : w1.cell? ⟨W.heap.size, 19, none⟩ = some (.int .i64 o.status) := O.cell 19
  have hz : pn Ob.zero = #[.int .i64 0, .int .u64 0, .int .i64 0, .int .i64 0, .int .i64 0, .int .i64 0, .int .i64 0, .int .i64 0, .int .i64 0, .int .i64 0, .int .i64 0, .int .i64 0, .int .i64 0, .int .i64 0, .int .i64 0] := rfl
  rw [hz] at hw
  clear hz
  go_enter Try.func47, Try.ntmps47
  go_wp2_with (first | (refine wpList_val (by rfl) (exec_load_pcpu rfl rfl O) ?_) | (refine wpList_val (by rfl) (exec_build rfl (vs := [(0, .int .i64 o.state), (1, .int .u64 o.parent), (2, .int .i64 o.ppages), (3, .agg (cc o.cpu)), (4, .int .i64 o.pending), (5, .int .i64 o.alarm), (6, .int .i64 o.status)]) (by go_simp) (built_pn o)) ?_) | (refine store_pn rfl _ _ rfl rfl (c := o) rfl OR rfl ?_) | fail)
  refine bodyPost_ret (ret_pn rfl _ rfl (OR.row_same _)) rfl ?_
  exact ⟨rfl, below_row HB.out (by omega) _⟩
set_option maxRecDepth 100000 in
set_option maxHeartbeats 4000000 in
theorem dvNumbers_any (o : Ob) (W : World) : Calls Try.prog 32 #[.agg (oc o)] W (DnPost (dn o) W) := by
  obtain ⟨w1, hw, O, OR, hb⟩ : ∃ w1, (W.alloc (.cells (oc o) 41)).alloc (.cells (dn Ob.zero) 73) = w1 ∧ Obl w1 W.heap.size 41 (oc o) ∧ Obl w1 (W.heap.size + 1) 73 (dn Ob.zero) ∧ Below W.heap.size W w1 := by
    have h1 : Below W.heap.size W (W.alloc (.cells (oc o) 41)) := (Below.refl _ _).alloc (Nat.le_refl _) _
    have h2 : Below (W.heap.size + 1) (W.alloc (.cells (oc o) 41)) ((W.alloc (.cells (oc o) 41)).alloc (.cells (dn Ob.zero) 73)) := (Below.refl _ _).alloc (by simp) _
    refine ⟨_, rfl, (Obl.make W _ _).below h2 (by simp), ?_, h1.trans (h2.mono (by simp))⟩
    have h3 := Obl.make (W.alloc (.cells (oc o) 41)) 73 (dn Ob.zero)
    rwa [World.size_alloc] at h3
  have HB := hide hb
  clear hb
  have hz : dn Ob.zero = #[.int .u64 0, .int .i64 0, .int .i64 0, .int .i64 0, .int .u64 0, .int .i64 0, .int .i64 0, .int .i64 0, .int .i64 0, .int .i64 0, .int .i64 0, .int .i64 0, .int .i64 0, .int .i64 0, .int .i64 0, .int .i64 0, .int .i64 0, .int .i64 0, .int .i64 0, .int .u64 0, .int .i64 0, .int .i64 0, .int .i64 0, .int .i64 0, .int .i64 0] := rfl
  rw [hz] at hw
  clear hz
  go_enter Try.func32, Try.ntmps32
  go_upto_region 1 with (fail)
  clear hw
  refine region_B (by kernel_rfl) (W.heap.size + 1) ?_
  replace O : Obl w1.drew W.heap.size 41 (oc o) := O
  replace OR : Obl w1.drew (W.heap.size + 1) 73 (dn Ob.zero) := OR
  replace HB : Hid (Below W.heap.size W w1.drew) := hide ⟨HB.out.os, HB.out.tape, HB.out.output, HB.out.size, HB.out.block⟩
  generalize w1.drew = u0 at *
  have hOl : W.heap.size < W.heap.size + 1 := by omega
  have hRl := OR.lt
  refine takeB 0 rfl (by kernel_rfl) (fun _ _ _ h => h) (by rfl) (by intro w' hg; go_simp; try with_reducible rfl) ?_
  refine takeB 1 rfl (by kernel_rfl) (fun _ _ _ h => h) (by rfl) (by intro w' hg; have k0 : w'.cell? ⟨W.heap.size, 0, none⟩ = some (.int .u64 o.id) := (O.below hg hOl).cell 0; go_simp; try with_reducible rfl) ?_
  go_simp
  refine takeB 2 rfl (by kernel_rfl) (fun _ _ _ h => h) (by rfl) (by intro w' hg; go_simp; try with_reducible rfl) ?_
  refine takeB 3 rfl (by kernel_rfl) (fun _ _ _ h => h) (by rfl) (by intro w' hg; have k1 : w'.cell? ⟨W.heap.size, 1, none⟩ = some (.int .i64 o.kind) := (O.below hg hOl).cell 1; go_simp; try with_reducible rfl) ?_
  go_simp
  refine takeB 4 rfl (by kernel_rfl) (fun _ _ _ h => h) (by rfl) (by intro w' hg; go_simp; try with_reducible rfl) ?_
  refine takeB 5 rfl (by kernel_rfl) (fun _ _ _ h => h) (by rfl) (by intro w' hg; have k2 : w'.cell? ⟨W.heap.size, 2, none⟩ = some (.int .i64 o.refs) := (O.below hg hOl).cell 2; go_simp; try with_reducible rfl) ?_
  go_simp
  refine takeB 6 rfl (by kernel_rfl) (fun _ _ _ h => h) (by rfl) (by intro w' hg; go_simp; try with_reducible rfl) ?_
  refine takeB 7 rfl (by kernel_rfl) (fun _ _ _ h => h) (by rfl) (by intro w' hg; exact exec_load_proc rfl rfl (O.below hg hOl)) ?_
  go_simp
  refine takeB 9 rfl (by kernel_rfl) (fun _ _ _ h => h) (by rfl) (by intro w' hg; go_simp; try with_reducible rfl) ?_
  refine takeB 10 rfl (by kernel_rfl) (fun _ _ _ h => h) (by rfl) (by intro w' hg; have k6 : w'.cell? ⟨W.heap.size, 25, none⟩ = some (.int .i64 o.offset) := (O.below hg hOl).cell 25; go_simp; try with_reducible rfl) ?_
  go_simp
  refine takeB 11 rfl (by kernel_rfl) (fun _ _ _ h => h) (by rfl) (by intro w' hg; go_simp; try with_reducible rfl) ?_
  refine takeB 12 rfl (by kernel_rfl) (fun _ _ _ h => h) (by rfl) (by intro w' hg; have k7 : w'.cell? ⟨W.heap.size, 26, none⟩ = some (.int .u64 o.target) := (O.below hg hOl).cell 26; go_simp; try with_reducible rfl) ?_
  go_simp
  refine takeB 13 rfl (by kernel_rfl) (fun _ _ _ h => h) (by rfl) (by intro w' hg; go_simp; try with_reducible rfl) ?_
  refine takeB 14 rfl (by kernel_rfl) (fun _ _ _ h => h) (by rfl) (by intro w' hg; have k8 : w'.cell? ⟨W.heap.size, 27, none⟩ = some (.int .i64 o.readers) := (O.below hg hOl).cell 27; go_simp; try with_reducible rfl) ?_
  go_simp
  refine takeB 15 rfl (by kernel_rfl) (fun _ _ _ h => h) (by rfl) (by intro w' hg; go_simp; try with_reducible rfl) ?_
  refine takeB 16 rfl (by kernel_rfl) (fun _ _ _ h => h) (by rfl) (by intro w' hg; have k9 : w'.cell? ⟨W.heap.size, 28, none⟩ = some (.int .i64 o.writers) := (O.below hg hOl).cell 28; go_simp; try with_reducible rfl) ?_
  go_simp
  refine takeB 17 rfl (by kernel_rfl) (fun _ _ _ h => h) (by rfl) (by intro w' hg; go_simp; try with_reducible rfl) ?_
  refine takeB 18 rfl (by kernel_rfl) (fun _ _ _ h => h) (by rfl) (by intro w' hg; exact exec_load_ends rfl rfl (O.below hg hOl)) ?_
  go_simp
  refine takeB 19 rfl (by kernel_rfl) (fun _ _ _ h => h) (by rfl) (by intro w' hg; go_simp; try with_reducible rfl) ?_
  refine takeB 20 rfl (by kernel_rfl) (fun _ _ _ h => h) (by rfl) (by intro w' hg; have k13 : w'.cell? ⟨W.heap.size, 34, none⟩ = some (.int .i64 o.count) := (O.below hg hOl).cell 34; go_simp; try with_reducible rfl) ?_
  go_simp
  go_simp
  refine onlyB 8 rfl (by kernel_rfl) (by rfl) ?_
  intro K hK
  go_simp
  refine (dvProc_any o _).mono ?_
  rintro e v1 ⟨rfl, hb1⟩
  replace O := O.below hb1 O.lt
  replace OR := OR.below hb1 OR.lt
  replace HB := hide (HB.out.trans (hb1.mono HB.out.size))
  refine hK _ _ (hb1.mono (Nat.le_of_lt hRl)) ?_
  clear hK K hb1
  go_simp
  refine takeB 21 (v := .agg (dn o)) rfl (by kernel_rfl) (fun _ _ _ h => h) (by rfl) (by intro w' hg; exact exec_build rfl (vs := [(0, .int .u64 o.id), (1, .int .i64 o.kind), (2, .int .i64 o.refs), (3, .agg (pn o)), (4, .int .i64 o.offset), (5, .int .u64 o.target), (6, .int .i64 o.readers), (7, .int .i64 o.writers), (8, .agg (nv .i64 [o.e0, o.e1]).toArray), (9, .int .i64 o.count)]) (by go_simp) (built_dn o)) ?_
  go_simp
  refine onlyB 22 rfl (by kernel_rfl) (by rfl) ?_
  intro K hK
  refine wp_store_dn rfl rfl (c := o) rfl OR rfl ?_
  refine hK _ _ (below_row (Below.refl _ _) (Nat.le_refl _) _) ?_
  clear hK K
  go_simp
  refine doneB (by kernel_rfl) ?_
  go_simp
  go_wp2_with fail
  refine bodyPost_ret (ret_dn rfl _ rfl (OR.row_same _)) rfl ?_
  exact ⟨rfl, below_row HB.out (by omega) _⟩
set_option maxRecDepth 100000 in
set_option maxHeartbeats 4000000 in
theorem dvCounted_any (id n : Int) (W : World) : Calls Try.prog 28 #[.int .u64 id, .int .i64 n] W (DnPost (oc (Ob.dev id n)) W) := by
  obtain ⟨w1, hw, O, hb, hs⟩ := start_z W
  have HB := hide hb
  clear hb
  go_enter Try.func28, Try.ntmps28
  go_wp2_with (first | (refine store_ob rfl _ _ rfl rfl (c := Ob.dev id n) rfl O rfl ?_) | fail)
  refine bodyPost_ret (ret_ob rfl _ rfl (O.row_same _)) rfl ?_
  exact ⟨rfl, below_row HB.out (Nat.le_refl _) _⟩
set_option maxRecDepth 100000 in
set_option maxHeartbeats 4000000 in
theorem dvValid_any (o : Ob) (W : World) : Calls Try.prog 13 #[.agg (oc o)] W (BoolPost (decide o.Dev) W) := by
  obtain ⟨w1, hw, O, hb⟩ : ∃ w1, W.alloc (.cells (oc o) 41) = w1 ∧ Obl w1 W.heap.size 41 (oc o) ∧ Below W.heap.size W w1 := ⟨_, rfl, Obl.make W _ _, (Below.refl _ _).alloc (Nat.le_refl _) _⟩
  have HB := hide hb
  clear hb
  have HV := hide (dev_iff o)
  go_enter Try.func13, Try.ntmps13
  go_upto_region 1 with (fail)
  clear hw
  refine region_B (by kernel_rfl) (W.heap.size + 1) ?_
  replace O : Obl w1.drew W.heap.size 41 (oc o) := O
  replace HB : Hid (Below W.heap.size W w1.drew) := hide ⟨HB.out.os, HB.out.tape, HB.out.output, HB.out.size, HB.out.block⟩
  generalize w1.drew = u0 at *
  have hOl : W.heap.size < W.heap.size + 1 := by omega
  have hRl := O.lt
  by_cases h0 : o.id = 0
  · have H0 := hide h0
    have b0 : (o.id != 0) = false := by simp [h0]
    clear h0
    refine takeB 0 rfl (by kernel_rfl) (fun _ _ _ h => h) (by rfl) (by intro w' hg; go_simp; try with_reducible rfl) ?_
    refine takeB 1 rfl (by kernel_rfl) (fun _ _ _ h => h) (by rfl) (by intro w' hg; have k0 : w'.cell? ⟨W.heap.size, 0, none⟩ = some (.int .u64 o.id) := (O.below hg hOl).cell 0; go_simp; try with_reducible rfl) ?_
    refine takeB 2 rfl (by kernel_rfl) (fun _ _ _ h => h) (by rfl) (by intro w' hg; go_simp; try with_reducible rfl) ?_
    go_simp
    refine takeB 3 rfl (by kernel_rfl) (fun _ _ _ h => h) (by rfl) (by intro w' hg; go_simp; try with_reducible rfl) ?_
    refine skipB 4 rfl (by kernel_rfl) (fun _ _ _ h => h) (by kernel_rfl) ?_
    refine skipB 5 rfl (by kernel_rfl) (fun _ _ _ h => h) (by kernel_rfl) ?_
    refine takeB 6 rfl (by kernel_rfl) (fun _ _ _ h => h) (by rfl) (by intro w' hg; go_simp; try with_reducible rfl) ?_
    go_simp
    refine takeB 7 rfl (by kernel_rfl) (fun _ _ _ h => h) (by rfl) (by intro w' hg; go_simp; try with_reducible rfl) ?_
    refine skipB 8 rfl (by kernel_rfl) (fun _ _ _ h => h) (by kernel_rfl) ?_
    refine skipB 9 rfl (by kernel_rfl) (fun _ _ _ h => h) (by kernel_rfl) ?_
    refine skipB 10 rfl (by kernel_rfl) (fun _ _ _ h => h) (by kernel_rfl) ?_
    refine skipB 11 rfl (by kernel_rfl) (fun _ _ _ h => h) (by kernel_rfl) ?_
    refine skipB 12 rfl (by kernel_rfl) (fun _ _ _ h => h) (by kernel_rfl) ?_
    refine skipB 13 rfl (by kernel_rfl) (fun _ _ _ h => h) (by kernel_rfl) ?_
    refine skipB 14 rfl (by kernel_rfl) (fun _ _ _ h => h) (by kernel_rfl) ?_
    refine skipB 15 rfl (by kernel_rfl) (fun _ _ _ h => h) (by kernel_rfl) ?_
    refine skipB 16 rfl (by kernel_rfl) (fun _ _ _ h => h) (by kernel_rfl) ?_
    refine takeB 17 rfl (by kernel_rfl) (fun _ _ _ h => h) (by rfl) (by intro w' hg; go_simp; try with_reducible rfl) ?_
    go_simp
    refine takeB 18 rfl (by kernel_rfl) (fun _ _ _ h => h) (by rfl) (by intro w' hg; go_simp; try with_reducible rfl) ?_
    refine doneB (by kernel_rfl) ?_
    go_simp
    go_wp2_with fail
    go_ret
    exact ⟨ret_bool ((decide_eq_false fun h => (HV.out.1 h).1 H0.out).symm), HB.out⟩
  · have H0 := hide h0
    have b0 : (o.id != 0) = true := by simp [h0]
    clear h0
    by_cases hl : o.DvLists
    · have HL := hide hl
      have hL := decide_eq_true hl
      clear hl
      refine takeB 0 rfl (by kernel_rfl) (fun _ _ _ h => h) (by rfl) (by intro w' hg; go_simp; try with_reducible rfl) ?_
      refine takeB 1 rfl (by kernel_rfl) (fun _ _ _ h => h) (by rfl) (by intro w' hg; have k0 : w'.cell? ⟨W.heap.size, 0, none⟩ = some (.int .u64 o.id) := (O.below hg hOl).cell 0; go_simp; try with_reducible rfl) ?_
      refine takeB 2 rfl (by kernel_rfl) (fun _ _ _ h => h) (by rfl) (by intro w' hg; go_simp; try with_reducible rfl) ?_
      go_simp
      refine takeB 3 rfl (by kernel_rfl) (fun _ _ _ h => h) (by rfl) (by intro w' hg; go_simp; try with_reducible rfl) ?_
      refine takeB 4 rfl (by kernel_rfl) (fun _ _ _ h => h) (by kernel_rfl) (by intro w' hg; exact exec_load_ob rfl rfl (O.below hg hOl)) ?_
      go_simp
      refine onlyB 5 rfl (by kernel_rfl) (by kernel_rfl) ?_
      intro K hK
      go_simp
      refine (dvLists_any o _).mono ?_
      rintro e v1 ⟨rfl, hb1⟩
      replace O := O.below hb1 O.lt
      replace HB := hide (HB.out.trans (hb1.mono HB.out.size))
      refine hK _ _ (hb1.mono (by omega)) ?_
      have hs_v1 := hb1.size
      clear hK K hb1
      rw [hL]
      go_simp
      refine takeB 6 rfl (by kernel_rfl) (fun _ _ _ h => h) (by rfl) (by intro w' hg; go_simp; try with_reducible rfl) ?_
      go_simp
      refine takeB 7 rfl (by kernel_rfl) (fun _ _ _ h => h) (by rfl) (by intro w' hg; go_simp; try with_reducible rfl) ?_
      refine takeB 8 rfl (by kernel_rfl) (fun _ _ _ h => h) (by kernel_rfl) (by intro w' hg; exact exec_load_ob rfl rfl (O.below hg hOl)) ?_
      refine takeB 10 rfl (by kernel_rfl) (fun _ _ _ h => h) (by kernel_rfl) (by intro w' hg; go_simp; try with_reducible rfl) ?_
      refine takeB 11 rfl (by kernel_rfl) (fun _ _ _ h => h) (by kernel_rfl) (by intro w' hg; have k0 : w'.cell? ⟨W.heap.size, 0, none⟩ = some (.int .u64 o.id) := (O.below hg hOl).cell 0; go_simp; try with_reducible rfl) ?_
      refine takeB 12 rfl (by kernel_rfl) (fun _ _ _ h => h) (by kernel_rfl) (by intro w' hg; go_simp; try with_reducible rfl) ?_
      refine takeB 13 rfl (by kernel_rfl) (fun _ _ _ h => h) (by kernel_rfl) (by intro w' hg; have k13 : w'.cell? ⟨W.heap.size, 34, none⟩ = some (.int .i64 o.count) := (O.below hg hOl).cell 34; go_simp; try with_reducible rfl) ?_
      go_simp
      refine onlyB 9 rfl (by kernel_rfl) (by kernel_rfl) ?_
      intro K hK
      go_simp
      refine (dvNumbers_any o _).mono ?_
      rintro e v2 ⟨rfl, hb2⟩
      replace O := O.below hb2 O.lt
      replace HB := hide (HB.out.trans (hb2.mono HB.out.size))
      refine hK _ _ (hb2.mono (by omega)) ?_
      have hs_v2 := hb2.size
      clear hK K hb2
      go_simp
      go_simp
      refine onlyB 14 rfl (by kernel_rfl) (by kernel_rfl) ?_
      intro K hK
      go_simp
      refine (dvCounted_any o.id o.count _).mono ?_
      rintro e v3 ⟨rfl, hb3⟩
      replace O := O.below hb3 O.lt
      replace HB := hide (HB.out.trans (hb3.mono HB.out.size))
      refine hK _ _ (hb3.mono (by omega)) ?_
      have hs_v3 := hb3.size
      clear hK K hb3
      go_simp
      go_simp
      refine onlyB 15 rfl (by kernel_rfl) (by kernel_rfl) ?_
      intro K hK
      go_simp
      refine (dvNumbers_any (Ob.dev o.id o.count) _).mono ?_
      rintro e v4 ⟨rfl, hb4⟩
      replace O := O.below hb4 O.lt
      replace HB := hide (HB.out.trans (hb4.mono HB.out.size))
      refine hK _ _ (hb4.mono (by omega)) ?_
      have hs_v4 := hb4.size
      clear hK K hb4
      go_simp
      refine takeB 16 rfl (by kernel_rfl) (fun _ _ _ h => h) (by kernel_rfl) (by intro w' hg; exact exec_eql_dn (x := o) (y := Ob.dev o.id o.count) rfl rfl rfl) ?_
      go_simp
      refine takeB 17 rfl (by kernel_rfl) (fun _ _ _ h => h) (by rfl) (by intro w' hg; go_simp; try with_reducible rfl) ?_
      go_simp
      refine takeB 18 rfl (by kernel_rfl) (fun _ _ _ h => h) (by rfl) (by intro w' hg; go_simp; try with_reducible rfl) ?_
      refine doneB (by kernel_rfl) ?_
      go_simp
      go_wp2_with fail
      go_ret
      exact ⟨ret_bool (by rw [Bool.eq_iff_iff]; simp only [decide_eq_true_eq]; exact ⟨fun h => HV.out.2 ⟨H0.out, HL.out, h⟩, fun h => (HV.out.1 h).2.2⟩), HB.out⟩
    · have HL := hide hl
      have hL := decide_eq_false hl
      clear hl
      refine takeB 0 rfl (by kernel_rfl) (fun _ _ _ h => h) (by rfl) (by intro w' hg; go_simp; try with_reducible rfl) ?_
      refine takeB 1 rfl (by kernel_rfl) (fun _ _ _ h => h) (by rfl) (by intro w' hg; have k0 : w'.cell? ⟨W.heap.size, 0, none⟩ = some (.int .u64 o.id) := (O.below hg hOl).cell 0; go_simp; try with_reducible rfl) ?_
      refine takeB 2 rfl (by kernel_rfl) (fun _ _ _ h => h) (by rfl) (by intro w' hg; go_simp; try with_reducible rfl) ?_
      go_simp
      refine takeB 3 rfl (by kernel_rfl) (fun _ _ _ h => h) (by rfl) (by intro w' hg; go_simp; try with_reducible rfl) ?_
      refine takeB 4 rfl (by kernel_rfl) (fun _ _ _ h => h) (by kernel_rfl) (by intro w' hg; exact exec_load_ob rfl rfl (O.below hg hOl)) ?_
      go_simp
      refine onlyB 5 rfl (by kernel_rfl) (by kernel_rfl) ?_
      intro K hK
      go_simp
      refine (dvLists_any o _).mono ?_
      rintro e v1 ⟨rfl, hb1⟩
      replace O := O.below hb1 O.lt
      replace HB := hide (HB.out.trans (hb1.mono HB.out.size))
      refine hK _ _ (hb1.mono (by omega)) ?_
      have hs_v1 := hb1.size
      clear hK K hb1
      rw [hL]
      go_simp
      refine takeB 6 rfl (by kernel_rfl) (fun _ _ _ h => h) (by rfl) (by intro w' hg; go_simp; try with_reducible rfl) ?_
      go_simp
      refine takeB 7 rfl (by kernel_rfl) (fun _ _ _ h => h) (by rfl) (by intro w' hg; go_simp; try with_reducible rfl) ?_
      refine skipB 8 rfl (by kernel_rfl) (fun _ _ _ h => h) (by kernel_rfl) ?_
      refine skipB 9 rfl (by kernel_rfl) (fun _ _ _ h => h) (by kernel_rfl) ?_
      refine skipB 10 rfl (by kernel_rfl) (fun _ _ _ h => h) (by kernel_rfl) ?_
      refine skipB 11 rfl (by kernel_rfl) (fun _ _ _ h => h) (by kernel_rfl) ?_
      refine skipB 12 rfl (by kernel_rfl) (fun _ _ _ h => h) (by kernel_rfl) ?_
      refine skipB 13 rfl (by kernel_rfl) (fun _ _ _ h => h) (by kernel_rfl) ?_
      refine skipB 14 rfl (by kernel_rfl) (fun _ _ _ h => h) (by kernel_rfl) ?_
      refine skipB 15 rfl (by kernel_rfl) (fun _ _ _ h => h) (by kernel_rfl) ?_
      refine skipB 16 rfl (by kernel_rfl) (fun _ _ _ h => h) (by kernel_rfl) ?_
      refine takeB 17 rfl (by kernel_rfl) (fun _ _ _ h => h) (by rfl) (by intro w' hg; go_simp; try with_reducible rfl) ?_
      go_simp
      refine takeB 18 rfl (by kernel_rfl) (fun _ _ _ h => h) (by rfl) (by intro w' hg; go_simp; try with_reducible rfl) ?_
      refine doneB (by kernel_rfl) ?_
      go_simp
      go_wp2_with fail
      go_ret
      exact ⟨ret_bool ((decide_eq_false fun h => HL.out (HV.out.1 h).2.1).symm), HB.out⟩
end Go.Proofs.Ytddbohnappogkaa
