/- The reference: nothing of a process (written by tools/mkbare2.py) -/
import Derived.Test.YtddbohnappogkaaOb
import Derived.Deep.CutRange
namespace Go.Proofs.Ytddbohnappogkaa
open Go.RowKit
set_option maxRecDepth 100000 in
set_option maxHeartbeats 4000000 in
/-- Nothing of a process (the reference's). -/
theorem blank_any (o : Ob) (W : World) : Calls Try.prog 48 #[.agg (pcell o)] W (BoolPost (decide o.NoProc) W) := by
  obtain ⟨w1, hw, O, hb⟩ : ∃ w1, W.alloc (.cells (pcell o) 34) = w1 ∧ Obl w1 W.heap.size 34 (pcell o) ∧ Below W.heap.size W w1 := ⟨_, rfl, Obl.make W _ _, (Below.refl _ _).alloc (Nat.le_refl _) _⟩
  have HB := hide hb
  have HO := hide O
  clear hb O
  have k0 : w1.cell? ⟨W.heap.size, 0, none⟩ = some (.int .i64 o.state) := HO.out.cell 0
  have k1 : w1.cell? ⟨W.heap.size, 1, none⟩ = some (.int .u64 o.parent) := HO.out.cell 1
  have k2 : w1.cell? ⟨W.heap.size, 2, none⟩ = some (.slice o.children.A o.children.n o.children.c) := HO.out.cell 2
  have k3 : w1.cell? ⟨W.heap.size, 3, none⟩ = some (.slice o.code.A o.code.n o.code.c) := HO.out.cell 3
  have k4 : w1.cell? ⟨W.heap.size, 4, none⟩ = some (.slice o.strs.A o.strs.n o.strs.c) := HO.out.cell 4
  have k5 : w1.cell? ⟨W.heap.size, 5, none⟩ = some (.int .i64 o.ppages) := HO.out.cell 5
  have k15 : w1.cell? ⟨W.heap.size, 15, none⟩ = some (.slice o.pages.A o.pages.n o.pages.c) := HO.out.cell 15
  have k16 : w1.cell? ⟨W.heap.size, 16, none⟩ = some (.slice o.table.A o.table.n o.table.c) := HO.out.cell 16
  have k17 : w1.cell? ⟨W.heap.size, 17, none⟩ = some (.int .i64 o.pending) := HO.out.cell 17
  have k18 : w1.cell? ⟨W.heap.size, 18, none⟩ = some (.int .i64 o.alarm) := HO.out.cell 18
  have k19 : w1.cell? ⟨W.heap.size, 19, none⟩ = some (.int .i64 o.status) := HO.out.cell 19
  go_enter Try.func48, Try.ntmps48
  try dsimp only [List.append]
  go_upto_region 1 with (fail)
  clear hw
  refine wp_region_lit ?_
  refine wpList_val rfl (by go_simp; try with_reducible rfl) ?_
  refine wpList_val rfl (by go_simp; try with_reducible rfl) ?_
  refine wpList_val rfl (by go_simp; try with_reducible rfl) ?_
  refine wpList_val rfl (by go_simp; try with_reducible rfl) ?_
  go_simp
  generalize hd0 : (o.state == 0) = d0
  have HD0 := hide hd0
  clear hd0
  refine wpList_if 3 d0 rfl (by kernel_rfl) (by intro hg; go_simp; try with_reducible rfl) ?_
  intro u7 hu7
  refine wpList_if 3 d0 rfl (by kernel_rfl) (by intro hg; obtain rfl := hu7 hg; go_simp; try with_reducible rfl) ?_
  intro u8 hu8
  refine wpList_if 3 d0 rfl (by kernel_rfl) (by intro hg; obtain rfl := hu8 hg; go_simp; try with_reducible rfl) ?_
  intro u9 hu9
  refine wpList_pickd d0 _ rfl rfl (by go_simp; try with_reducible rfl) (by intro hg; obtain rfl := hu9 hg; go_simp; try with_reducible rfl) (by go_simp; try with_reducible rfl) ?_
  intro d10 hd10
  have HD10 := hide hd10
  clear hd10 hu7 hu8 hu9
  refine wpList_val rfl (by go_simp; try with_reducible rfl) ?_
  go_simp
  refine wpList_if 8 d10 rfl (by kernel_rfl) (by intro hg; go_simp; try with_reducible rfl) ?_
  intro u12 hu12
  refine wpList_if 8 d10 rfl (by kernel_rfl) (by intro hg; obtain rfl := hu12 hg; go_simp; try with_reducible rfl) ?_
  intro u13 hu13
  refine wpList_if 8 d10 rfl (by kernel_rfl) (by intro hg; obtain rfl := hu13 hg; go_simp; try with_reducible rfl) ?_
  intro u14 hu14
  refine wpList_if 8 d10 rfl (by kernel_rfl) (by intro hg; obtain rfl := hu14 hg; go_simp; try with_reducible rfl) ?_
  intro u15 hu15
  refine wpList_pickd d10 _ rfl rfl (by go_simp; try with_reducible rfl) (by intro hg; obtain rfl := hu15 hg; go_simp; try with_reducible rfl) (by go_simp; try with_reducible rfl) ?_
  intro d16 hd16
  have HD16 := hide hd16
  clear hd16 hu12 hu13 hu14 hu15
  refine wpList_val rfl (by go_simp; try with_reducible rfl) ?_
  go_simp
  refine wpList_if 14 d16 rfl (by kernel_rfl) (by intro hg; go_simp; try with_reducible rfl) ?_
  intro u18 hu18
  refine wpList_if 14 d16 rfl (by kernel_rfl) (by intro hg; obtain rfl := hu18 hg; go_simp; try with_reducible rfl) ?_
  intro u19 hu19
  refine wpList_if 14 d16 rfl (by kernel_rfl) (by intro hg; obtain rfl := hu19 hg; go_simp; try with_reducible rfl) ?_
  intro u20 hu20
  refine wpList_if 14 d16 rfl (by kernel_rfl) (by intro hg; obtain rfl := hu20 hg; go_simp; try with_reducible rfl) ?_
  intro u21 hu21
  refine wpList_if 14 d16 rfl (by kernel_rfl) (by intro hg; obtain rfl := hu21 hg; go_simp; try with_reducible rfl) ?_
  intro u22 hu22
  refine wpList_pickd d16 _ rfl rfl (by go_simp; try with_reducible rfl) (by intro hg; obtain rfl := hu22 hg; go_simp; try with_reducible rfl) (by go_simp; try with_reducible rfl) ?_
  intro d23 hd23
  have HD23 := hide hd23
  clear hd23 hu18 hu19 hu20 hu21 hu22
  refine wpList_val rfl (by go_simp; try with_reducible rfl) ?_
  go_simp
  refine wpList_if 21 d23 rfl (by kernel_rfl) (by intro hg; go_simp; try with_reducible rfl) ?_
  intro u25 hu25
  refine wpList_if 21 d23 rfl (by kernel_rfl) (by intro hg; obtain rfl := hu25 hg; go_simp; try with_reducible rfl) ?_
  intro u26 hu26
  refine wpList_if 21 d23 rfl (by kernel_rfl) (by intro hg; obtain rfl := hu26 hg; go_simp; try with_reducible rfl) ?_
  intro u27 hu27
  refine wpList_if 21 d23 rfl (by kernel_rfl) (by intro hg; obtain rfl := hu27 hg; go_simp; try with_reducible rfl) ?_
  intro u28 hu28
  refine wpList_if 21 d23 rfl (by kernel_rfl) (by intro hg; obtain rfl := hu28 hg; go_simp; try with_reducible rfl) ?_
  intro u29 hu29
  refine wpList_pickd d23 _ rfl rfl (by go_simp; try with_reducible rfl) (by intro hg; obtain rfl := hu29 hg; go_simp; try with_reducible rfl) (by go_simp; try with_reducible rfl) ?_
  intro d30 hd30
  have HD30 := hide hd30
  clear hd30 hu25 hu26 hu27 hu28 hu29
  refine wpList_val rfl (by go_simp; try with_reducible rfl) ?_
  go_simp
  refine wpList_if 28 d30 rfl (by kernel_rfl) (by intro hg; go_simp; try with_reducible rfl) ?_
  intro u32 hu32
  refine wpList_if 28 d30 rfl (by kernel_rfl) (by intro hg; obtain rfl := hu32 hg; go_simp; try with_reducible rfl) ?_
  intro u33 hu33
  refine wpList_if 28 d30 rfl (by kernel_rfl) (by intro hg; obtain rfl := hu33 hg; go_simp; try with_reducible rfl) ?_
  intro u34 hu34
  refine wpList_if 28 d30 rfl (by kernel_rfl) (by intro hg; obtain rfl := hu34 hg; go_simp; try with_reducible rfl) ?_
  intro u35 hu35
  refine wpList_pickd d30 _ rfl rfl (by go_simp; try with_reducible rfl) (by intro hg; obtain rfl := hu35 hg; go_simp; try with_reducible rfl) (by go_simp; try with_reducible rfl) ?_
  intro d36 hd36
  have HD36 := hide hd36
  clear hd36 hu32 hu33 hu34 hu35
  refine wpList_val rfl (by go_simp; try with_reducible rfl) ?_
  go_simp
  refine wpList_if 34 d36 rfl (by kernel_rfl) (by intro hg; go_simp; try with_reducible rfl) ?_
  intro u38 hu38
  refine wpList_if 34 d36 rfl (by kernel_rfl) (by intro hg; obtain rfl := hu38 hg; exact exec_load_pcpu rfl rfl HO.out) ?_
  intro u39 hu39
  refine wpList_if 34 d36 rfl (by kernel_rfl) (by intro hg; exact exec_build rfl (vs := []) (by simp) built_nocpu) ?_
  intro u40 hu40
  refine wpList_if 34 d36 rfl (by kernel_rfl) (by intro hg; obtain rfl := hu39 hg; obtain rfl := hu40 hg; exact exec_eql_cpu rfl rfl rfl (x := o.cpu) (y := Ob.noCpu) rfl rfl) ?_
  intro u41 hu41
  refine wpList_pickd d36 _ rfl rfl (by go_simp; try with_reducible rfl) (by intro hg; obtain rfl := hu41 hg; go_simp; try with_reducible rfl) (by go_simp; try with_reducible rfl) ?_
  intro d42 hd42
  have HD42 := hide hd42
  clear hd42 hu38 hu39 hu40 hu41
  refine wpList_val rfl (by go_simp; try with_reducible rfl) ?_
  go_simp
  refine wpList_if 40 d42 rfl (by kernel_rfl) (by intro hg; go_simp; try with_reducible rfl) ?_
  intro u44 hu44
  refine wpList_if 40 d42 rfl (by kernel_rfl) (by intro hg; obtain rfl := hu44 hg; go_simp; try with_reducible rfl) ?_
  intro u45 hu45
  refine wpList_if 40 d42 rfl (by kernel_rfl) (by intro hg; obtain rfl := hu45 hg; go_simp; try with_reducible rfl) ?_
  intro u46 hu46
  refine wpList_if 40 d42 rfl (by kernel_rfl) (by intro hg; obtain rfl := hu46 hg; go_simp; try with_reducible rfl) ?_
  intro u47 hu47
  refine wpList_pickd d42 _ rfl rfl (by go_simp; try with_reducible rfl) (by intro hg; obtain rfl := hu47 hg; go_simp; try with_reducible rfl) (by go_simp; try with_reducible rfl) ?_
  intro d48 hd48
  have HD48 := hide hd48
  clear hd48 hu44 hu45 hu46 hu47
  refine wpList_val rfl (by go_simp; try with_reducible rfl) ?_
  go_simp
  refine wpList_if 46 d48 rfl (by kernel_rfl) (by intro hg; go_simp; try with_reducible rfl) ?_
  intro u50 hu50
  refine wpList_if 46 d48 rfl (by kernel_rfl) (by intro hg; obtain rfl := hu50 hg; go_simp; try with_reducible rfl) ?_
  intro u51 hu51
  refine wpList_if 46 d48 rfl (by kernel_rfl) (by intro hg; obtain rfl := hu51 hg; go_simp; try with_reducible rfl) ?_
  intro u52 hu52
  refine wpList_if 46 d48 rfl (by kernel_rfl) (by intro hg; obtain rfl := hu52 hg; go_simp; try with_reducible rfl) ?_
  intro u53 hu53
  refine wpList_pickd d48 _ rfl rfl (by go_simp; try with_reducible rfl) (by intro hg; obtain rfl := hu53 hg; go_simp; try with_reducible rfl) (by go_simp; try with_reducible rfl) ?_
  intro d54 hd54
  have HD54 := hide hd54
  clear hd54 hu50 hu51 hu52 hu53
  refine wpList_val rfl (by go_simp; try with_reducible rfl) ?_
  go_simp
  refine wpList_if 52 d54 rfl (by kernel_rfl) (by intro hg; go_simp; try with_reducible rfl) ?_
  intro u56 hu56
  refine wpList_if 52 d54 rfl (by kernel_rfl) (by intro hg; obtain rfl := hu56 hg; go_simp; try with_reducible rfl) ?_
  intro u57 hu57
  refine wpList_if 52 d54 rfl (by kernel_rfl) (by intro hg; obtain rfl := hu57 hg; go_simp; try with_reducible rfl) ?_
  intro u58 hu58
  refine wpList_pickd d54 _ rfl rfl (by go_simp; try with_reducible rfl) (by intro hg; obtain rfl := hu58 hg; go_simp; try with_reducible rfl) (by go_simp; try with_reducible rfl) ?_
  intro d59 hd59
  have HD59 := hide hd59
  clear hd59 hu56 hu57 hu58
  refine wpList_val rfl (by go_simp; try with_reducible rfl) ?_
  go_simp
  refine wpList_if 57 d59 rfl (by kernel_rfl) (by intro hg; go_simp; try with_reducible rfl) ?_
  intro u61 hu61
  refine wpList_if 57 d59 rfl (by kernel_rfl) (by intro hg; obtain rfl := hu61 hg; go_simp; try with_reducible rfl) ?_
  intro u62 hu62
  refine wpList_if 57 d59 rfl (by kernel_rfl) (by intro hg; obtain rfl := hu62 hg; go_simp; try with_reducible rfl) ?_
  intro u63 hu63
  refine wpList_pickd d59 _ rfl rfl (by go_simp; try with_reducible rfl) (by intro hg; obtain rfl := hu63 hg; go_simp; try with_reducible rfl) (by go_simp; try with_reducible rfl) ?_
  intro d64 hd64
  have HD64 := hide hd64
  clear hd64 hu61 hu62 hu63
  refine wpList_val rfl (by go_simp; try with_reducible rfl) ?_
  go_simp
  refine wpList_if 62 d64 rfl (by kernel_rfl) (by intro hg; go_simp; try with_reducible rfl) ?_
  intro u66 hu66
  refine wpList_if 62 d64 rfl (by kernel_rfl) (by intro hg; obtain rfl := hu66 hg; go_simp; try with_reducible rfl) ?_
  intro u67 hu67
  refine wpList_if 62 d64 rfl (by kernel_rfl) (by intro hg; obtain rfl := hu67 hg; go_simp; try with_reducible rfl) ?_
  intro u68 hu68
  refine wpList_pickd d64 _ rfl rfl (by go_simp; try with_reducible rfl) (by intro hg; obtain rfl := hu68 hg; go_simp; try with_reducible rfl) (by go_simp; try with_reducible rfl) ?_
  intro d69 hd69
  have HD69 := hide hd69
  clear hd69 hu66 hu67 hu68
  refine wpList_val rfl (by go_simp; try with_reducible rfl) ?_
  refine wpList_nil ?_
  go_simp
  go_wp2_with fail
  go_ret
  refine ⟨ret_bool ?_, HB.out⟩
  rw [← HD69.out, ← HD64.out, ← HD59.out, ← HD54.out, ← HD48.out, ← HD42.out, ← HD36.out, ← HD30.out, ← HD23.out, ← HD16.out, ← HD10.out]
  rw [← HD0.out]
  rw [Bool.eq_iff_iff]
  simp [Ob.NoProc, Ob.NoProg, and_assoc]
end Go.Proofs.Ytddbohnappogkaa
