/- The reference of devices: which objects are devices (written by tools/mkdvvalid.py) -/
import Derived.Test.YtddbohnappogkaaDvMath
import Derived.Test.YtddbohnappogkaaPgBare
import Derived.Deep.CutRange
namespace Go.Proofs.Ytddbohnappogkaa
open Go.RowKit
set_option maxRecDepth 100000 in
set_option maxHeartbeats 4000000 in
theorem refDvValid_any (o : Ob) (W : World) : Calls Try.prog 14 #[.agg (oc o)] W (BoolPost (decide o.Dev) W) := by
  obtain ⟨w1, hw, O, hb⟩ : ∃ w1, W.alloc (.cells (oc o) 41) = w1 ∧ Obl w1 W.heap.size 41 (oc o) ∧ Below W.heap.size W w1 := ⟨_, rfl, Obl.make W _ _, (Below.refl _ _).alloc (Nat.le_refl _) _⟩
  have HB := hide hb
  have HO := hide O
  have z34 := O.free 34
  have R2 := O.put 34 (.int .i64 0)
  obtain ⟨w2, hw2⟩ : ∃ w2, w1.setCell ⟨W.heap.size, 34, none⟩ (.int .i64 0) = w2 := ⟨_, rfl⟩
  rw [hw2] at R2
  have HR : Hid (Obl w2 W.heap.size 41 (oc o.unsem)) := hide R2
  have HB2 := hide (hb.setCell (p := ⟨W.heap.size, 34, none⟩) (Nat.le_refl _) (.int .i64 0))
  rw [hw2] at HB2
  clear hb O R2
  have k0 : w1.cell? ⟨W.heap.size, 0, none⟩ = some (.int .u64 o.id) := HO.out.cell 0
  have k1 : w1.cell? ⟨W.heap.size, 1, none⟩ = some (.int .i64 o.kind) := HO.out.cell 1
  have k34 : w1.cell? ⟨W.heap.size, 34, none⟩ = some (.int .i64 o.count) := HO.out.cell 34
  go_enter Try.func14, Try.ntmps14
  try dsimp only [List.append]
  go_upto_region 1 with (fail)
  clear hw
  refine wp_region_lit ?_
  refine wpList_val rfl (by go_simp; try with_reducible rfl) ?_
  refine wpList_val rfl (by go_simp; try with_reducible rfl) ?_
  refine wpList_val rfl (by go_simp; try with_reducible rfl) ?_
  refine wpList_val rfl (by go_simp; try with_reducible rfl) ?_
  go_simp
  generalize hd0 : (o.kind == 9) = d0
  have HD0 := hide hd0
  clear hd0
  refine wpList_if 3 d0 rfl (by kernel_rfl) (by intro hg; go_simp; try with_reducible rfl) ?_
  intro u8 hu8
  refine wpList_if 3 d0 rfl (by kernel_rfl) (by intro hg; obtain rfl := hu8 hg; go_simp; try with_reducible rfl) ?_
  intro u9 hu9
  refine wpList_if 3 d0 rfl (by kernel_rfl) (by intro hg; obtain rfl := hu9 hg; go_simp; try with_reducible rfl) ?_
  intro u10 hu10
  refine wpList_pickd d0 _ rfl rfl (by go_simp; try with_reducible rfl) (by intro hg; obtain rfl := hu10 hg; go_simp; try with_reducible rfl) (by go_simp; try with_reducible rfl) ?_
  intro d11 hd11
  have HD11 := hide hd11
  clear hd11 hu8 hu9 hu10
  refine wpList_val rfl (by go_simp; try with_reducible rfl) ?_
  refine wpList_nil ?_
  go_simp
  have HP : Hid (decide o.Dev = (d11 && decide (o.unsem.Clear))) := hide (by
    rw [← HD11.out]
    rw [← HD0.out, Bool.eq_iff_iff]
    simp only [decide_eq_true_eq, Bool.and_eq_true, beq_iff_eq, bne_iff_ne]
    rw [unsem_clear]
    simp only [Ob.Dev, and_assoc, ne_eq])
  clear HD0 HD11
  generalize d11 = d at *
  cases d with
  | false =>
    go_wp2_with fail
    go_ret
    exact ⟨ret_bool HP.out.symm, HB2.out⟩
  | true =>
    go_wp2_with (first | (refine wpList_val (by rfl) (exec_load_ob rfl rfl HR.out) ?_) | fail)
    refine (bare_any o.unsem _).mono ?_
    rintro e v1 ⟨rfl, hb1⟩
    go_wp2_with fail
    go_ret
    refine ⟨ret_bool ?_, HB2.out.trans (hb1.mono HB2.out.size)⟩
    rw [HP.out, Bool.true_and]
end Go.Proofs.Ytddbohnappogkaa
