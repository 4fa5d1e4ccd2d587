/- Layer 16, the sanity check. (Written by tools/mkpvmany.py.) -/
import Derived.Test.YtdglcpepgodcpaaDoorPvMany
namespace Go.Proofs.YtdglcpepgodcpaaDoor
open Go.RowKit

/-- Two objects laid one after the other. -/
theorem laid_obob (a b : Ob) (w : World) : ∃ w2, (w.alloc (.cells #[.int .u64 0, .int .i64 0, .int .i64 0, .int .i64 0, .int .u64 0, .slice none 0 0, .slice none 0 0, .slice none 0 0, .int .i64 0, .int .i64 0, .int .i64 0, .int .i64 0, .int .i64 0, .int .i64 0, .int .i64 0, .int .i64 0, .int .i64 0, .int .i64 0,
  .slice none 0 0, .slice none 0 0, .int .i64 0, .int .i64 0, .int .i64 0, .slice none 0 0, .slice none 0 0, .int .i64 0, .int .u64 0, .int .i64 0, .int .i64 0, .slice none 0 0, .slice none 0 0, .slice none 0 0, .int .i64 0, .int .i64 0, .int .i64 0, .slice none 0 0] 42)).alloc (.cells #[.int .u64 0, .int .i64 0, .int .i64 0, .int .i64 0, .int .u64 0, .slice none 0 0, .slice none 0 0, .slice none 0 0, .int .i64 0, .int .i64 0, .int .i64 0, .int .i64 0, .int .i64 0, .int .i64 0, .int .i64 0, .int .i64 0, .int .i64 0, .int .i64 0,
  .slice none 0 0, .slice none 0 0, .int .i64 0, .int .i64 0, .int .i64 0, .slice none 0 0, .slice none 0 0, .int .i64 0, .int .u64 0, .int .i64 0, .int .i64 0, .slice none 0 0, .slice none 0 0, .slice none 0 0, .int .i64 0, .int .i64 0, .int .i64 0, .slice none 0 0] 42) = w2 ∧
    ∃ g, w.heap.size = g ∧ ∃ w3, w2.setRow g (oc a) = w3 ∧ ∃ w4, w3.setRow (g + 1) (oc b) = w4 ∧ Obl w2 g 42 (oc Ob.zero) ∧ Obl w3 (g + 1) 42 (oc Ob.zero) ∧ Obl w4 g 42 (oc a) ∧ Obl w4 (g + 1) 42 (oc b) ∧ Below w.heap.size w w4 ∧ w4.heap.size = g + 2 := by
  obtain ⟨w1, h1, Y, hb, hs⟩ := start_z w
  obtain ⟨w2, h2, Z, hb2, hs2⟩ := start_z w1
  rw [hs] at Z
  have Y2 := Y.below hb2 Y.lt
  refine ⟨w2, by rw [h1]; exact h2, _, rfl, _, rfl, _, rfl, Y2, Z.row_other (by omega) _, (Y2.row_same _).row_other (by omega) _, (Z.row_other (by omega) _).row_same _, below_row (below_row (hb.trans (hb2.mono hb.size)) (Nat.le_refl _) _) (by omega) _, ?_⟩
  simp [World.setRow]
  omega
theorem built_prc0 : Tryd.prog.built 29 [] = some (prc none 0 0 none 0 0 0) := by kernel_rfl
theorem kids4 : KidsOk [4] := by unfold KidsOk; decide
theorem kids0 : KidsOk [] := by unfold KidsOk; decide
set_option maxRecDepth 100000 in
set_option maxHeartbeats 16000000 in
theorem pvSane_any (W : World) (hL : LaidO W) : Calls Tryd.prog 4 #[] W (BoolPost true W) := by
  have HL := hide hL
  have HB := hide (Below.refl W.heap.size W)
  clear hL
  go_enter Tryd.func4, Tryd.ntmps4
  go_wp2_with (first | (refine wpList_val (by rfl) (exec_build (t := 29) (vs := []) rfl (by rfl) built_prc0) ?_) | fail)
  refine (many_new _ HL.out).mono ?_
  rintro e w1 ⟨a, rfl, hA, hb⟩
  replace HL := hide (HL.out.below hb)
  replace HB := hide (HB.out.trans (hb.mono HB.out.size))
  have HA := hide hA
  clear hb hA
  obtain ⟨x1, hx1, g1, hg1, y1, hy1, OZ1, OA, hb, hs1⟩ := laid_ob a w1
  replace HL := hide (HL.out.below hb)
  replace HB := hide (HB.out.trans (hb.mono HB.out.size))
  replace HA := hide (HA.out.later hb)
  clear hb hs1
  go_wp2_with (first | (refine store_ob rfl _ _ rfl rfl (c := a) rfl OZ1 rfl ?_; rw [hy1]) | (refine wpList_val (by rfl) (exec_load_ob rfl rfl OA) ?_) | fail)
  clear OZ1 hx1 hy1 hg1
  refine (many_gone _ 5 HA.out HL.out).mono ?_
  rintro e w2 ⟨x, rfl, hb⟩
  replace HL := hide (HL.out.below hb)
  replace HB := hide (HB.out.trans (hb.mono HB.out.size))
  replace HA := hide (HA.out.later hb)
  replace OA := OA.below hb OA.lt
  clear hb
  obtain ⟨x2, hx2, g2, hg2, y2, hy2, OZ2, OX, hb, hs2⟩ := laid_ob x w2
  replace HL := hide (HL.out.below hb)
  replace HB := hide (HB.out.trans (hb.mono HB.out.size))
  replace HA := hide (HA.out.later hb)
  replace OA := OA.below hb OA.lt
  clear hb hs2
  go_wp2_with (first | (refine store_ob rfl _ _ rfl rfl (c := x) rfl OZ2 rfl ?_; rw [hy2]) | (refine wpList_val (by rfl) (exec_load_ob rfl rfl OA) ?_) | fail)
  clear OZ2 hx2 hy2 hg2
  refine (many_fork (id := 4) _ HA.out kids0 (by decide) (by decide) (by decide) (by decide) HL.out).mono ?_
  rintro e w3 ⟨b, c, rfl, hB, hC, hb⟩
  replace HL := hide (HL.out.below hb)
  replace HB := hide (HB.out.trans (hb.mono HB.out.size))
  replace HA := hide (HA.out.later hb)
  replace OA := OA.below hb OA.lt
  replace OX := OX.below hb OX.lt
  have HP := hide hB
  have HC := hide hC
  clear hb hB hC
  clear OX OA HA
  obtain ⟨x3, hx3, g3, hg3, y3, hy3, z3, hz3, OZ3, OZ4, OP, OC, hb, hs3⟩ := laid_obob b c w3
  replace HL := hide (HL.out.below hb)
  replace HB := hide (HB.out.trans (hb.mono HB.out.size))
  replace HP := hide (HP.out.later hb)
  replace HC := hide (HC.out.later hb)
  clear hb hs3
  go_wp2_with (first | (refine store_ob rfl _ _ rfl rfl (c := b) rfl OZ3 rfl ?_; rw [hy3]) | (refine store_ob rfl _ _ rfl rfl (c := c) rfl OZ4 rfl ?_; rw [hz3]) | (refine wpList_val (by rfl) (exec_load_ob rfl rfl OC) ?_) | fail)
  clear OZ3 OZ4 hx3 hy3 hz3 hg3
  refine (many_end _ 5 HC.out (by decide) (by decide) HL.out).mono ?_
  rintro e w4 ⟨d, rfl, hD, hb⟩
  replace HL := hide (HL.out.below hb)
  replace HB := hide (HB.out.trans (hb.mono HB.out.size))
  replace HP := hide (HP.out.later hb)
  replace HC := hide (HC.out.later hb)
  replace OP := OP.below hb OP.lt
  replace OC := OC.below hb OC.lt
  have HD := hide hD
  clear hb hD
  obtain ⟨x5, hx5, g5, hg5, y5, hy5, OZ5, OD, hb, hs5⟩ := laid_ob d w4
  replace HL := hide (HL.out.below hb)
  replace HB := hide (HB.out.trans (hb.mono HB.out.size))
  replace HP := hide (HP.out.later hb)
  replace HC := hide (HC.out.later hb)
  replace OP := OP.below hb OP.lt
  replace OC := OC.below hb OC.lt
  clear hb hs5
  go_wp2_with (first | (refine store_ob rfl _ _ rfl rfl (c := d) rfl OZ5 rfl ?_; rw [hy5]) | (refine wpList_val (by rfl) (exec_load_ob rfl rfl OP) ?_) | (refine wpList_val (by rfl) (exec_load_ob rfl rfl OD) ?_) | fail)
  clear OZ5 hx5 hy5 hg5
  refine (many_reap _ HP.out HD.out kids4 (by decide) HL.out).mono ?_
  rintro e w5 ⟨q, rfl, hQ, hb⟩
  replace HL := hide (HL.out.below hb)
  replace HB := hide (HB.out.trans (hb.mono HB.out.size))
  replace HP := hide (HP.out.later hb)
  replace HC := hide (HC.out.later hb)
  replace OP := OP.below hb OP.lt
  replace OC := OC.below hb OC.lt
  replace OD := OD.below hb OD.lt
  have HQ := hide hQ
  clear hb hQ
  obtain ⟨x6, hx6, g6, hg6, y6, hy6, OZ6, OQ, hb, hs6⟩ := laid_ob q w5
  replace HL := hide (HL.out.below hb)
  replace HB := hide (HB.out.trans (hb.mono HB.out.size))
  replace HP := hide (HP.out.later hb)
  replace HC := hide (HC.out.later hb)
  replace OP := OP.below hb OP.lt
  replace OC := OC.below hb OC.lt
  replace OD := OD.below hb OD.lt
  replace HQ := hide (HQ.out.later hb)
  clear hb hs6
  go_upto_region 6 with (first | (refine store_ob rfl _ _ rfl rfl (c := q) rfl OZ6 rfl ?_; rw [hy6]) | fail)
  clear OZ6 hx6 hy6 hg6
  have k4 : y6.cell? ⟨g3 + 1, 4, none⟩ = some (.int .u64 3) := by have h1 := OC.cell 4; have h2 := HC.out.parent; rw [show (Ko.kid 4).parent = 3 from rfl] at h2; rw [h1, h2]; rfl
  have k5 : y6.cell? ⟨g6, 5, none⟩ = some (.slice q.children.A 0 q.children.c) := by have h1 := OQ.cell 5; have h2 : q.children.n = 0 := HQ.out.len.trans (by decide); rw [h1, ← h2]; rfl
  refine wp_region_lit ?_
  refine wpList_val (by rfl) (by go_simp; try with_reducible rfl) ?_
  refine wpList_val (by rfl) (by go_simp; try with_reducible rfl) ?_
  go_simp
  refine wpList_val (by rfl) (by go_simp; try with_reducible rfl) ?_
  refine wpList_val (by kernel_rfl) (by go_simp; try with_reducible rfl) ?_
  refine wpList_val (by kernel_rfl) (by go_simp; try with_reducible rfl) ?_
  go_simp
  refine wpList_val (by rfl) (by go_simp; try with_reducible rfl) ?_
  go_simp
  refine wpList_val (by rfl) (by go_simp; try with_reducible rfl) ?_
  refine wpList_val (by kernel_rfl) (by go_simp; try with_reducible rfl) ?_
  refine wpList_val (by rfl) (by go_simp; try with_reducible rfl) ?_
  go_simp
  refine wpList_val (by rfl) (by go_simp; try with_reducible rfl) ?_
  refine wpList_val (by kernel_rfl) (by go_simp; try with_reducible rfl) ?_
  refine wpList_val (by kernel_rfl) (by go_simp; try with_reducible rfl) ?_
  go_simp
  refine wpList_val (by rfl) (by go_simp; try with_reducible rfl) ?_
  go_simp
  refine wpList_val (by rfl) (by go_simp; try with_reducible rfl) ?_
  refine wpList_val (by kernel_rfl) (by go_simp; try with_reducible rfl) ?_
  refine wpList_val (by kernel_rfl) (by go_simp; try with_reducible rfl) ?_
  refine wpList_val (by kernel_rfl) (by go_simp; try with_reducible rfl) ?_
  refine wpList_val (by kernel_rfl) (by go_simp; try with_reducible rfl) ?_
  go_simp
  refine wpList_val (by rfl) (by go_simp; try with_reducible rfl) ?_
  go_simp
  refine wpList_val (by rfl) (by go_simp; try with_reducible rfl) ?_
  refine wpList_val (by kernel_rfl) (by go_simp; try with_reducible rfl) ?_
  refine wpList_val (by kernel_rfl) (by go_simp; try with_reducible rfl) ?_
  go_simp
  refine wpList_val (by rfl) (by go_simp; try with_reducible rfl) ?_
  go_simp
  refine wpList_val (by rfl) (by go_simp; try with_reducible rfl) ?_
  refine wpList_val (by kernel_rfl) (by go_simp; try with_reducible rfl) ?_
  refine wpList_val (by kernel_rfl) (by go_simp; try with_reducible rfl) ?_
  refine wpList_val (by rfl) (by go_simp; try with_reducible rfl) ?_
  go_simp
  refine wpList_val (by rfl) (by go_simp; try with_reducible rfl) ?_
  refine wpList_val (by kernel_rfl) (by go_simp; try with_reducible rfl) ?_
  refine wpList_val (by kernel_rfl) (by go_simp; try with_reducible rfl) ?_
  go_simp
  refine wpList_val (by rfl) (by go_simp; try with_reducible rfl) ?_
  go_simp
  refine wpList_val (by rfl) (by go_simp; try with_reducible rfl) ?_
  refine wpList_val (by kernel_rfl) (by go_simp; try with_reducible rfl) ?_
  refine wpList_val (by kernel_rfl) (by go_simp; try with_reducible rfl) ?_
  go_simp
  refine wpList_val (by rfl) (by go_simp; try with_reducible rfl) ?_
  go_simp
  refine wpList_val (by rfl) (by go_simp; try with_reducible rfl) ?_
  refine wpList_val (by kernel_rfl) (by go_simp; try with_reducible rfl) ?_
  refine wpList_val (by kernel_rfl) (by go_simp; try with_reducible rfl) ?_
  refine wpList_val (by kernel_rfl) (by go_simp; try with_reducible rfl) ?_
  refine wpList_val (by kernel_rfl) (by go_simp; try with_reducible rfl) ?_
  refine wpList_val (by kernel_rfl) (by go_simp; try with_reducible rfl) ?_
  go_simp
  refine wpList_val (by rfl) (by go_simp; try with_reducible rfl) ?_
  go_simp
  refine wpList_val (by rfl) (by go_simp; try with_reducible rfl) ?_
  refine wpList_val (by kernel_rfl) (by exact exec_load_ob rfl rfl OP) ?_
  go_simp
  refine wpList_met (by kernel_rfl) fun K hK => ?_
  go_simp
  refine (many_valid _ HP.out kids4 HL.out).mono ?_
  rintro e v1 ⟨rfl, hb⟩
  refine hK _ _ ?_
  clear hK K k4 k5
  replace HL := hide (HL.out.below hb)
  replace HB := hide (HB.out.trans (hb.mono HB.out.size))
  replace HP := hide (HP.out.later hb)
  replace HC := hide (HC.out.later hb)
  replace OP := OP.below hb OP.lt
  replace OC := OC.below hb OC.lt
  replace OD := OD.below hb OD.lt
  replace HQ := hide (HQ.out.later hb)
  replace OQ := OQ.below hb OQ.lt
  clear hb
  go_simp
  refine wpList_val (by rfl) (by go_simp; try with_reducible rfl) ?_
  go_simp
  refine wpList_val (by rfl) (by go_simp; try with_reducible rfl) ?_
  refine wpList_val (by kernel_rfl) (by exact exec_load_ob rfl rfl OD) ?_
  go_simp
  refine wpList_met (by kernel_rfl) fun K hK => ?_
  go_simp
  refine (many_validz _ HD.out (by decide) (by decide) HL.out).mono ?_
  rintro e v2 ⟨rfl, hb⟩
  refine hK _ _ ?_
  clear hK K
  replace HL := hide (HL.out.below hb)
  replace HB := hide (HB.out.trans (hb.mono HB.out.size))
  replace HP := hide (HP.out.later hb)
  replace HC := hide (HC.out.later hb)
  replace OP := OP.below hb OP.lt
  replace OC := OC.below hb OC.lt
  replace OD := OD.below hb OD.lt
  replace HQ := hide (HQ.out.later hb)
  replace OQ := OQ.below hb OQ.lt
  clear hb
  go_simp
  refine wpList_val (by rfl) (by go_simp; try with_reducible rfl) ?_
  go_simp
  refine wpList_val (by rfl) (by go_simp; try with_reducible rfl) ?_
  go_simp
  refine wpList_nil ?_
  go_simp
  go_wp2_with fail
  go_ret
  exact ⟨rfl, HB.out⟩
end Go.Proofs.YtdglcpepgodcpaaDoor
