/- The reference: nothing but identifier and kind (written by tools/mkbare2.py) -/
import Derived.Test.YtddbohnappogkaaOb
import Derived.Deep.CutRange
import Derived.Test.YtddbohnappogkaaPgBlank
namespace Go.Proofs.Ytddbohnappogkaa
open Go.RowKit
set_option maxRecDepth 100000 in
set_option maxHeartbeats 4000000 in
/-- Nothing but identifier and kind (the reference's). -/
theorem bare_any (o : Ob) (W : World) : Calls Try.prog 33 #[.agg (oc o)] W (BoolPost (decide o.Clear) W) := by
  obtain ⟨w1, hw, O, hb⟩ : ∃ w1, W.alloc (.cells (oc o) 41) = w1 ∧ Obl w1 W.heap.size 41 (oc o) ∧ Below W.heap.size W w1 := ⟨_, rfl, Obl.make W _ _, (Below.refl _ _).alloc (Nat.le_refl _) _⟩
  have HB := hide hb
  have HO := hide O
  clear hb O
  have k2 : w1.cell? ⟨W.heap.size, 2, none⟩ = some (.int .i64 o.refs) := HO.out.cell 2
  have k23 : w1.cell? ⟨W.heap.size, 23, none⟩ = some (.slice o.words.A o.words.n o.words.c) := HO.out.cell 23
  have k24 : w1.cell? ⟨W.heap.size, 24, none⟩ = some (.slice o.data.A o.data.n o.data.c) := HO.out.cell 24
  have k25 : w1.cell? ⟨W.heap.size, 25, none⟩ = some (.int .i64 o.offset) := HO.out.cell 25
  have k26 : w1.cell? ⟨W.heap.size, 26, none⟩ = some (.int .u64 o.target) := HO.out.cell 26
  have k27 : w1.cell? ⟨W.heap.size, 27, none⟩ = some (.int .i64 o.readers) := HO.out.cell 27
  have k28 : w1.cell? ⟨W.heap.size, 28, none⟩ = some (.int .i64 o.writers) := HO.out.cell 28
  have k29 : w1.cell? ⟨W.heap.size, 29, none⟩ = some (.slice o.backlog.A o.backlog.n o.backlog.c) := HO.out.cell 29
  have k30 : w1.cell? ⟨W.heap.size, 30, none⟩ = some (.slice o.q0.A o.q0.n o.q0.c) := HO.out.cell 30
  have k31 : w1.cell? ⟨W.heap.size, 31, none⟩ = some (.slice o.q1.A o.q1.n o.q1.c) := HO.out.cell 31
  have k34 : w1.cell? ⟨W.heap.size, 34, none⟩ = some (.int .i64 o.count) := HO.out.cell 34
  have k35 : w1.cell? ⟨W.heap.size, 35, none⟩ = some (.slice o.names.A o.names.n o.names.c) := HO.out.cell 35
  go_enter Try.func33, Try.ntmps33
  try dsimp only [List.append]
  go_upto_region 1 with (fail)
  clear hw
  refine wp_region_lit ?_
  refine wpList_val rfl (by go_simp; try with_reducible rfl) ?_
  refine wpList_val rfl (by go_simp; try with_reducible rfl) ?_
  refine wpList_val rfl (by go_simp; try with_reducible rfl) ?_
  refine wpList_val rfl (by go_simp; try with_reducible rfl) ?_
  go_simp
  generalize hd0 : (o.refs == 0) = d0
  have HD0 := hide hd0
  clear hd0
  refine wpList_if 3 d0 rfl (by kernel_rfl) (by intro hg; go_simp; try with_reducible rfl) ?_
  intro u7 hu7
  refine wpList_if 3 d0 rfl (by kernel_rfl) (by intro hg; obtain rfl := hu7 hg; go_simp; try with_reducible rfl) ?_
  intro u8 hu8
  refine wpList_if 3 d0 rfl (by kernel_rfl) (by intro hg; obtain rfl := hu8 hg; go_simp; try with_reducible rfl) ?_
  intro u9 hu9
  refine wpList_if 3 d0 rfl (by kernel_rfl) (by intro hg; obtain rfl := hu9 hg; go_simp; try with_reducible rfl) ?_
  intro u10 hu10
  refine wpList_pickd d0 _ rfl rfl (by go_simp; try with_reducible rfl) (by intro hg; obtain rfl := hu10 hg; go_simp; try with_reducible rfl) (by go_simp; try with_reducible rfl) ?_
  intro d11 hd11
  have HD11 := hide hd11
  clear hd11 hu7 hu8 hu9 hu10
  refine wpList_val rfl (by go_simp; try with_reducible rfl) ?_
  go_simp
  refine wpList_if 9 d11 rfl (by kernel_rfl) (by intro hg; go_simp; try with_reducible rfl) ?_
  intro u13 hu13
  refine wpList_if 9 d11 rfl (by kernel_rfl) (by intro hg; obtain rfl := hu13 hg; go_simp; try with_reducible rfl) ?_
  intro u14 hu14
  refine wpList_if 9 d11 rfl (by kernel_rfl) (by intro hg; obtain rfl := hu14 hg; go_simp; try with_reducible rfl) ?_
  intro u15 hu15
  refine wpList_if 9 d11 rfl (by kernel_rfl) (by intro hg; obtain rfl := hu15 hg; go_simp; try with_reducible rfl) ?_
  intro u16 hu16
  refine wpList_pickd d11 _ rfl rfl (by go_simp; try with_reducible rfl) (by intro hg; obtain rfl := hu16 hg; go_simp; try with_reducible rfl) (by go_simp; try with_reducible rfl) ?_
  intro d17 hd17
  have HD17 := hide hd17
  clear hd17 hu13 hu14 hu15 hu16
  refine wpList_val rfl (by go_simp; try with_reducible rfl) ?_
  go_simp
  refine wpList_if 15 d17 rfl (by kernel_rfl) (by intro hg; go_simp; try with_reducible rfl) ?_
  intro u19 hu19
  refine wpList_if 15 d17 rfl (by kernel_rfl) (by intro hg; obtain rfl := hu19 hg; go_simp; try with_reducible rfl) ?_
  intro u20 hu20
  refine wpList_if 15 d17 rfl (by kernel_rfl) (by intro hg; obtain rfl := hu20 hg; go_simp; try with_reducible rfl) ?_
  intro u21 hu21
  refine wpList_pickd d17 _ rfl rfl (by go_simp; try with_reducible rfl) (by intro hg; obtain rfl := hu21 hg; go_simp; try with_reducible rfl) (by go_simp; try with_reducible rfl) ?_
  intro d22 hd22
  have HD22 := hide hd22
  clear hd22 hu19 hu20 hu21
  refine wpList_val rfl (by go_simp; try with_reducible rfl) ?_
  go_simp
  refine wpList_if 20 d22 rfl (by kernel_rfl) (by intro hg; go_simp; try with_reducible rfl) ?_
  intro u24 hu24
  refine wpList_if 20 d22 rfl (by kernel_rfl) (by intro hg; obtain rfl := hu24 hg; go_simp; try with_reducible rfl) ?_
  intro u25 hu25
  refine wpList_if 20 d22 rfl (by kernel_rfl) (by intro hg; obtain rfl := hu25 hg; go_simp; try with_reducible rfl) ?_
  intro u26 hu26
  refine wpList_pickd d22 _ rfl rfl (by go_simp; try with_reducible rfl) (by intro hg; obtain rfl := hu26 hg; go_simp; try with_reducible rfl) (by go_simp; try with_reducible rfl) ?_
  intro d27 hd27
  have HD27 := hide hd27
  clear hd27 hu24 hu25 hu26
  refine wpList_val rfl (by go_simp; try with_reducible rfl) ?_
  go_simp
  refine wpList_if 25 d27 rfl (by kernel_rfl) (by intro hg; go_simp; try with_reducible rfl) ?_
  intro u29 hu29
  refine wpList_if 25 d27 rfl (by kernel_rfl) (by intro hg; obtain rfl := hu29 hg; go_simp; try with_reducible rfl) ?_
  intro u30 hu30
  refine wpList_if 25 d27 rfl (by kernel_rfl) (by intro hg; obtain rfl := hu30 hg; go_simp; try with_reducible rfl) ?_
  intro u31 hu31
  refine wpList_pickd d27 _ rfl rfl (by go_simp; try with_reducible rfl) (by intro hg; obtain rfl := hu31 hg; go_simp; try with_reducible rfl) (by go_simp; try with_reducible rfl) ?_
  intro d32 hd32
  have HD32 := hide hd32
  clear hd32 hu29 hu30 hu31
  refine wpList_val rfl (by go_simp; try with_reducible rfl) ?_
  go_simp
  refine wpList_if 30 d32 rfl (by kernel_rfl) (by intro hg; go_simp; try with_reducible rfl) ?_
  intro u34 hu34
  refine wpList_if 30 d32 rfl (by kernel_rfl) (by intro hg; obtain rfl := hu34 hg; go_simp; try with_reducible rfl) ?_
  intro u35 hu35
  refine wpList_if 30 d32 rfl (by kernel_rfl) (by intro hg; obtain rfl := hu35 hg; go_simp; try with_reducible rfl) ?_
  intro u36 hu36
  refine wpList_pickd d32 _ rfl rfl (by go_simp; try with_reducible rfl) (by intro hg; obtain rfl := hu36 hg; go_simp; try with_reducible rfl) (by go_simp; try with_reducible rfl) ?_
  intro d37 hd37
  have HD37 := hide hd37
  clear hd37 hu34 hu35 hu36
  refine wpList_val rfl (by go_simp; try with_reducible rfl) ?_
  go_simp
  refine wpList_if 35 d37 rfl (by kernel_rfl) (by intro hg; go_simp; try with_reducible rfl) ?_
  intro u39 hu39
  refine wpList_if 35 d37 rfl (by kernel_rfl) (by intro hg; obtain rfl := hu39 hg; go_simp; try with_reducible rfl) ?_
  intro u40 hu40
  refine wpList_if 35 d37 rfl (by kernel_rfl) (by intro hg; obtain rfl := hu40 hg; go_simp; try with_reducible rfl) ?_
  intro u41 hu41
  refine wpList_if 35 d37 rfl (by kernel_rfl) (by intro hg; obtain rfl := hu41 hg; go_simp; try with_reducible rfl) ?_
  intro u42 hu42
  refine wpList_pickd d37 _ rfl rfl (by go_simp; try with_reducible rfl) (by intro hg; obtain rfl := hu42 hg; go_simp; try with_reducible rfl) (by go_simp; try with_reducible rfl) ?_
  intro d43 hd43
  have HD43 := hide hd43
  clear hd43 hu39 hu40 hu41 hu42
  refine wpList_val rfl (by go_simp; try with_reducible rfl) ?_
  go_simp
  refine wpList_if 41 d43 rfl (by kernel_rfl) (by intro hg; go_simp; try with_reducible rfl) ?_
  intro u45 hu45
  refine wpList_if 41 d43 rfl (by kernel_rfl) (by intro hg; obtain rfl := hu45 hg; go_simp; try with_reducible rfl) ?_
  intro u46 hu46
  refine wpList_if 41 d43 rfl (by kernel_rfl) (by intro hg; obtain rfl := hu46 hg; go_simp; try with_reducible rfl) ?_
  intro u47 hu47
  refine wpList_if 41 d43 rfl (by kernel_rfl) (by intro hg; obtain rfl := hu47 hg; go_simp; try with_reducible rfl) ?_
  intro u48 hu48
  refine wpList_if 41 d43 rfl (by kernel_rfl) (by intro hg; obtain rfl := hu48 hg; go_simp; try with_reducible rfl) ?_
  intro u49 hu49
  refine wpList_pickd d43 _ rfl rfl (by go_simp; try with_reducible rfl) (by intro hg; obtain rfl := hu49 hg; go_simp; try with_reducible rfl) (by go_simp; try with_reducible rfl) ?_
  intro d50 hd50
  have HD50 := hide hd50
  clear hd50 hu45 hu46 hu47 hu48 hu49
  refine wpList_val rfl (by go_simp; try with_reducible rfl) ?_
  go_simp
  refine wpList_if 48 d50 rfl (by kernel_rfl) (by intro hg; go_simp; try with_reducible rfl) ?_
  intro u52 hu52
  refine wpList_if 48 d50 rfl (by kernel_rfl) (by intro hg; obtain rfl := hu52 hg; go_simp; try with_reducible rfl) ?_
  intro u53 hu53
  refine wpList_if 48 d50 rfl (by kernel_rfl) (by intro hg; obtain rfl := hu53 hg; go_simp; try with_reducible rfl) ?_
  intro u54 hu54
  refine wpList_if 48 d50 rfl (by kernel_rfl) (by intro hg; obtain rfl := hu54 hg; go_simp; try with_reducible rfl) ?_
  intro u55 hu55
  refine wpList_if 48 d50 rfl (by kernel_rfl) (by intro hg; obtain rfl := hu55 hg; go_simp; try with_reducible rfl) ?_
  intro u56 hu56
  refine wpList_pickd d50 _ rfl rfl (by go_simp; try with_reducible rfl) (by intro hg; obtain rfl := hu56 hg; go_simp; try with_reducible rfl) (by go_simp; try with_reducible rfl) ?_
  intro d57 hd57
  have HD57 := hide hd57
  clear hd57 hu52 hu53 hu54 hu55 hu56
  refine wpList_val rfl (by go_simp; try with_reducible rfl) ?_
  go_simp
  refine wpList_if 55 d57 rfl (by kernel_rfl) (by intro hg; go_simp; try with_reducible rfl) ?_
  intro u59 hu59
  refine wpList_if 55 d57 rfl (by kernel_rfl) (by intro hg; obtain rfl := hu59 hg; exact exec_load_ends rfl rfl HO.out) ?_
  intro u60 hu60
  refine wpList_if 55 d57 rfl (by kernel_rfl) (by intro hg; exact exec_build rfl (vs := []) (by simp) built_ends) ?_
  intro u61 hu61
  refine wpList_if 55 d57 rfl (by kernel_rfl) (by intro hg; obtain rfl := hu60 hg; obtain rfl := hu61 hg; exact exec_eql_ends (L := [o.e0, o.e1]) (M := [0, 0]) rfl rfl rfl rfl rfl) ?_
  intro u62 hu62
  refine wpList_pickd d57 _ rfl rfl (by go_simp; try with_reducible rfl) (by intro hg; obtain rfl := hu62 hg; go_simp; try with_reducible rfl) (by go_simp; try with_reducible rfl) ?_
  intro d63 hd63
  have HD63 := hide hd63
  clear hd63 hu59 hu60 hu61 hu62
  refine wpList_val rfl (by go_simp; try with_reducible rfl) ?_
  go_simp
  refine wpList_if 61 d63 rfl (by kernel_rfl) (by intro hg; go_simp; try with_reducible rfl) ?_
  intro u65 hu65
  refine wpList_if 61 d63 rfl (by kernel_rfl) (by intro hg; obtain rfl := hu65 hg; go_simp; try with_reducible rfl) ?_
  intro u66 hu66
  refine wpList_if 61 d63 rfl (by kernel_rfl) (by intro hg; obtain rfl := hu66 hg; go_simp; try with_reducible rfl) ?_
  intro u67 hu67
  refine wpList_pickd d63 _ rfl rfl (by go_simp; try with_reducible rfl) (by intro hg; obtain rfl := hu67 hg; go_simp; try with_reducible rfl) (by go_simp; try with_reducible rfl) ?_
  intro d68 hd68
  have HD68 := hide hd68
  clear hd68 hu65 hu66 hu67
  refine wpList_val rfl (by go_simp; try with_reducible rfl) ?_
  go_simp
  refine wpList_if 66 d68 rfl (by kernel_rfl) (by intro hg; go_simp; try with_reducible rfl) ?_
  intro u70 hu70
  refine wpList_if 66 d68 rfl (by kernel_rfl) (by intro hg; obtain rfl := hu70 hg; go_simp; try with_reducible rfl) ?_
  intro u71 hu71
  refine wpList_if 66 d68 rfl (by kernel_rfl) (by intro hg; obtain rfl := hu71 hg; go_simp; try with_reducible rfl) ?_
  intro u72 hu72
  refine wpList_if 66 d68 rfl (by kernel_rfl) (by intro hg; obtain rfl := hu72 hg; go_simp; try with_reducible rfl) ?_
  intro u73 hu73
  refine wpList_pickd d68 _ rfl rfl (by go_simp; try with_reducible rfl) (by intro hg; obtain rfl := hu73 hg; go_simp; try with_reducible rfl) (by go_simp; try with_reducible rfl) ?_
  intro d74 hd74
  have HD74 := hide hd74
  clear hd74 hu70 hu71 hu72 hu73
  refine wpList_val rfl (by go_simp; try with_reducible rfl) ?_
  go_simp
  refine wpList_if 72 d74 rfl (by kernel_rfl) (by intro hg; go_simp; try with_reducible rfl) ?_
  intro u76 hu76
  refine wpList_if 72 d74 rfl (by kernel_rfl) (by intro hg; obtain rfl := hu76 hg; exact exec_load_proc rfl rfl HO.out) ?_
  intro u77 hu77
  refine wpList_ifcall (decide (o.NoProc)) 72 d74 rfl (by kernel_rfl) (by intro hg K hK; obtain rfl := hu77 hg; go_simp; refine (blank_any o _).mono ?_; rintro e w' ⟨rfl, hb⟩; refine hK _ w' ?_ hb; first | rfl | go_simp) ?_
  intro u78 v75 hu78 hb75
  replace HO := hide (HO.out.below hb75 HO.out.lt)
  replace HB := hide (HB.out.trans (hb75.mono HB.out.size))
  clear hb75 k2 k23 k24 k25 k26 k27 k28 k29 k30 k31 k34 k35
  have k2 : v75.cell? ⟨W.heap.size, 2, none⟩ = some (.int .i64 o.refs) := HO.out.cell 2
  have k23 : v75.cell? ⟨W.heap.size, 23, none⟩ = some (.slice o.words.A o.words.n o.words.c) := HO.out.cell 23
  have k24 : v75.cell? ⟨W.heap.size, 24, none⟩ = some (.slice o.data.A o.data.n o.data.c) := HO.out.cell 24
  have k25 : v75.cell? ⟨W.heap.size, 25, none⟩ = some (.int .i64 o.offset) := HO.out.cell 25
  have k26 : v75.cell? ⟨W.heap.size, 26, none⟩ = some (.int .u64 o.target) := HO.out.cell 26
  have k27 : v75.cell? ⟨W.heap.size, 27, none⟩ = some (.int .i64 o.readers) := HO.out.cell 27
  have k28 : v75.cell? ⟨W.heap.size, 28, none⟩ = some (.int .i64 o.writers) := HO.out.cell 28
  have k29 : v75.cell? ⟨W.heap.size, 29, none⟩ = some (.slice o.backlog.A o.backlog.n o.backlog.c) := HO.out.cell 29
  have k30 : v75.cell? ⟨W.heap.size, 30, none⟩ = some (.slice o.q0.A o.q0.n o.q0.c) := HO.out.cell 30
  have k31 : v75.cell? ⟨W.heap.size, 31, none⟩ = some (.slice o.q1.A o.q1.n o.q1.c) := HO.out.cell 31
  have k34 : v75.cell? ⟨W.heap.size, 34, none⟩ = some (.int .i64 o.count) := HO.out.cell 34
  have k35 : v75.cell? ⟨W.heap.size, 35, none⟩ = some (.slice o.names.A o.names.n o.names.c) := HO.out.cell 35
  refine wpList_pickd d74 _ rfl rfl (by go_simp; try with_reducible rfl) (by intro hg; obtain rfl := hu78 hg; go_simp; try with_reducible rfl) (by go_simp; try with_reducible rfl) ?_
  intro d79 hd79
  have HD79 := hide hd79
  clear hd79 hu76 hu77 hu78
  refine wpList_val rfl (by go_simp; try with_reducible rfl) ?_
  refine wpList_nil ?_
  go_simp
  go_wp2_with fail
  go_ret
  refine ⟨ret_bool ?_, HB.out⟩
  rw [← HD79.out, ← HD74.out, ← HD68.out, ← HD63.out, ← HD57.out, ← HD50.out, ← HD43.out, ← HD37.out, ← HD32.out, ← HD27.out, ← HD22.out, ← HD17.out, ← HD11.out]
  rw [← HD0.out]
  rw [Bool.eq_iff_iff]
  simp only [Ob.Clear, Ob.Bare, Ob.Counts, Ob.Contents]
  simp [and_assoc]
  constructor
  · intro h; simp_all
  · intro h; simp_all
end Go.Proofs.Ytddbohnappogkaa
