/- Layer 5, the operations: contracts. (Written by tools/mkcpu.py.) -/
import Derived.Test.YtkcegdnjgkideaaCpuBase
import Derived.Test.YtkcegdnjgkideaaRegionX
import Derived.Deep.CutRange
namespace Go.Proofs.Ytkcegdnjgkideaa
open Go.RowKit
set_option maxRecDepth 100000 in
set_option maxHeartbeats 2000000 in
theorem address_any (c : Cp.Cpu) (x : Cd.Ins) (h8 : c.regs.length = 8) (hb : 0 ≤ x.b ∧ x.b < 8) (w : World) : Calls Try.prog 59 #[ca c, .agg #[.int .i64 x.op, .int .i64 x.a, .int .i64 x.b, .int .i64 x.c]] w fun e w' => e = .returned (.int .i64 (wrap64 (Cp.get c x.b + x.c))) ∧ Below w.heap.size w w' := by
  obtain ⟨w1, hw, ST⟩ := start_a w c x
  have hb0 := hb.1
  have hb1 := hb.2
  go_enter Try.func59, Try.ntmps59
  go_wp2_with fail
  refine region_B (by kernel_rfl) (w.heap.size + 2) ?_
  replace ST := ST.drew
  generalize w1.drew = u at *
  refine takeB 0 rfl (by kernel_rfl) (fun _ _ _ h => h) (by rfl) (by intro w' hg; go_simp; try with_reducible rfl) ?_
  refine takeB 1 rfl (by kernel_rfl) (fun _ _ _ h => h) (by rfl) (by intro w' hg; have g1 := (ST.next hg).xb; go_simp; try with_reducible rfl) ?_
  refine takeB 2 rfl (by kernel_rfl) (fun _ _ _ h => h) (by rfl) (by intro w' hg; go_simp; try with_reducible rfl) ?_
  refine takeB 3 rfl (by kernel_rfl) (fun _ _ _ h => h) (by rfl) (by intro w' hg; go_simp; try with_reducible rfl) ?_
  refine takeB 4 rfl (by kernel_rfl) (fun _ _ _ h => h) (by rfl) (by intro w' hg; have g1 := (ST.next hg).reg h8 hb; go_simp; try with_reducible rfl) ?_
  refine takeB 5 rfl (by kernel_rfl) (fun _ _ _ h => h) (by rfl) (by intro w' hg; go_simp; try with_reducible rfl) ?_
  refine takeB 6 rfl (by kernel_rfl) (fun _ _ _ h => h) (by rfl) (by intro w' hg; have g1 := (ST.next hg).xc; go_simp; try with_reducible rfl) ?_
  refine takeB 7 rfl (by kernel_rfl) (fun _ _ _ h => h) (by rfl) (by intro w' hg; go_simp; try with_reducible rfl) ?_
  refine onlyB 8 rfl (by kernel_rfl) (by rfl) ?_
  intro K hK
  go_simp
  refine hK _ _ (Below.refl _ _) ?_
  clear hK K
  refine doneB (by kernel_rfl) ?_
  go_simp
  go_wp2
  go_ret
  refine ⟨?_, ST.bel⟩
  simp
  unfold wrap64
  exact IntKind.wrap_i64 _
set_option maxRecDepth 100000 in
set_option maxHeartbeats 2000000 in
theorem load_any (c : Cp.Cpu) (x : Cd.Ins) (h8 : c.regs.length = 8) (hb : 0 ≤ x.b ∧ x.b < 8) (w : World) : Calls Try.prog 51 #[ca c, .agg #[.int .i64 x.op, .int .i64 x.a, .int .i64 x.b, .int .i64 x.c]] w (TwoPost (c, ⟨1, wrap64 (Cp.get c x.b + x.c), x.a, 0, 0, [0, 0, 0]⟩) w) := by
  obtain ⟨w1, hw, ST, SR⟩ := start_b w c x
  go_enter Try.func51, Try.ntmps51
  go_wp2_with fail
  refine region_B (by kernel_rfl) (w.heap.size + 2) ?_
  replace ST := ST.drew
  replace SR := SR.drew
  generalize w1.drew = u at *
  have hus := ST.size
  refine takeB 0 rfl (by kernel_rfl) (fun _ _ _ h => h) (by rfl) (by intro w' hg; exact exec_load_cpu rfl rfl (ST.next hg).o0 h8) ?_
  refine takeB 1 rfl (by kernel_rfl) (fun _ _ _ h => h) (by rfl) (by intro w' hg; exact exec_load_cpu rfl rfl (ST.next hg).o0 h8) ?_
  refine takeB 2 rfl (by kernel_rfl) (fun _ _ _ h => h) (by rfl) (by intro w' hg; exact exec_load_ins rfl rfl (ST.next hg).oi) ?_
  refine takeB 4 rfl (by kernel_rfl) (fun _ _ _ h => h) (by rfl) (by intro w' hg; go_simp; try with_reducible rfl) ?_
  refine takeB 5 rfl (by kernel_rfl) (fun _ _ _ h => h) (by rfl) (by intro w' hg; have g1 := (ST.next hg).xa; go_simp; try with_reducible rfl) ?_
  refine onlyB 3 rfl (by kernel_rfl) (by rfl) ?_
  intro K hK
  go_simp
  refine (address_any c x h8 hb _).mono ?_
  rintro e u1 ⟨rfl, hb1⟩
  replace ST := ST.next (ST.later hb1)
  replace SR := SR.next hb1
  refine hK _ _ (hb1.mono (by omega)) ?_
  have hus := Nat.le_trans hus hb1.size
  clear hK K hb1
  refine takeB 6 rfl (by kernel_rfl) (fun _ _ _ h => h) (by rfl) (by intro w' hg; go_simp; try with_reducible rfl) ?_
  refine onlyB 7 rfl (by kernel_rfl) (by rfl) ?_
  intro K hK
  obtain ⟨E0, E1, E2, hbe⟩ := ends_2 (g := w.heap.size + 2) SR.o1 SR.o2 ST.bel (by omega) c ⟨1, wrap64 (Cp.get c x.b + x.c), x.a, 0, 0, [0, 0, 0]⟩
  refine wp_store_cpu rfl rfl (c := c) rfl SR.o1 rfl h8 ?_
  refine hK _ _ (below_row (Below.refl _ _) (Nat.le_refl _) _) ?_
  clear hK K
  refine onlyB 8 rfl (by kernel_rfl) (by rfl) ?_
  intro K hK
  refine wp_store_act rfl rfl (c := ⟨1, wrap64 (Cp.get c x.b + x.c), x.a, 0, 0, [0, 0, 0]⟩) rfl E1 rfl rfl ?_
  refine hK _ _ (below_row (Below.refl _ _) (by omega) _) ?_
  clear hK K
  refine doneB (by kernel_rfl) ?_
  go_simp
  go_wp2_with fail
  refine bodyPost_ret (ret_two rfl _ rfl E0 h8 rfl E2 rfl) rfl ?_
  exact ⟨rfl, hbe⟩
set_option maxRecDepth 100000 in
set_option maxHeartbeats 2000000 in
theorem store_any (c : Cp.Cpu) (x : Cd.Ins) (h8 : c.regs.length = 8) (ha : 0 ≤ x.a ∧ x.a < 8) (hb : 0 ≤ x.b ∧ x.b < 8) (w : World) : Calls Try.prog 52 #[ca c, .agg #[.int .i64 x.op, .int .i64 x.a, .int .i64 x.b, .int .i64 x.c]] w (TwoPost (c, ⟨2, wrap64 (Cp.get c x.b + x.c), 0, Cp.get c x.a, 0, [0, 0, 0]⟩) w) := by
  obtain ⟨w1, hw, ST, SR⟩ := start_b w c x
  have ha0 := ha.1
  have ha1 := ha.2
  go_enter Try.func52, Try.ntmps52
  go_wp2_with fail
  refine region_B (by kernel_rfl) (w.heap.size + 2) ?_
  replace ST := ST.drew
  replace SR := SR.drew
  generalize w1.drew = u at *
  have hus := ST.size
  refine takeB 0 rfl (by kernel_rfl) (fun _ _ _ h => h) (by rfl) (by intro w' hg; exact exec_load_cpu rfl rfl (ST.next hg).o0 h8) ?_
  refine takeB 1 rfl (by kernel_rfl) (fun _ _ _ h => h) (by rfl) (by intro w' hg; exact exec_load_cpu rfl rfl (ST.next hg).o0 h8) ?_
  refine takeB 2 rfl (by kernel_rfl) (fun _ _ _ h => h) (by rfl) (by intro w' hg; exact exec_load_ins rfl rfl (ST.next hg).oi) ?_
  refine takeB 4 rfl (by kernel_rfl) (fun _ _ _ h => h) (by rfl) (by intro w' hg; go_simp; try with_reducible rfl) ?_
  refine takeB 5 rfl (by kernel_rfl) (fun _ _ _ h => h) (by rfl) (by intro w' hg; have g1 := (ST.next hg).xa; go_simp; try with_reducible rfl) ?_
  refine takeB 6 rfl (by kernel_rfl) (fun _ _ _ h => h) (by rfl) (by intro w' hg; go_simp; try with_reducible rfl) ?_
  refine takeB 7 rfl (by kernel_rfl) (fun _ _ _ h => h) (by rfl) (by intro w' hg; go_simp; try with_reducible rfl) ?_
  refine takeB 8 rfl (by kernel_rfl) (fun _ _ _ h => h) (by rfl) (by intro w' hg; have g1 := (ST.next hg).reg h8 ha; go_simp; try with_reducible rfl) ?_
  refine onlyB 3 rfl (by kernel_rfl) (by rfl) ?_
  intro K hK
  go_simp
  refine (address_any c x h8 hb _).mono ?_
  rintro e u1 ⟨rfl, hb1⟩
  replace ST := ST.next (ST.later hb1)
  replace SR := SR.next hb1
  refine hK _ _ (hb1.mono (by omega)) ?_
  have hus := Nat.le_trans hus hb1.size
  clear hK K hb1
  refine takeB 9 rfl (by kernel_rfl) (fun _ _ _ h => h) (by rfl) (by intro w' hg; go_simp; try with_reducible rfl) ?_
  refine onlyB 10 rfl (by kernel_rfl) (by rfl) ?_
  intro K hK
  obtain ⟨E0, E1, E2, hbe⟩ := ends_2 (g := w.heap.size + 2) SR.o1 SR.o2 ST.bel (by omega) c ⟨2, wrap64 (Cp.get c x.b + x.c), 0, Cp.get c x.a, 0, [0, 0, 0]⟩
  refine wp_store_cpu rfl rfl (c := c) rfl SR.o1 rfl h8 ?_
  refine hK _ _ (below_row (Below.refl _ _) (Nat.le_refl _) _) ?_
  clear hK K
  refine onlyB 11 rfl (by kernel_rfl) (by rfl) ?_
  intro K hK
  refine wp_store_act rfl rfl (c := ⟨2, wrap64 (Cp.get c x.b + x.c), 0, Cp.get c x.a, 0, [0, 0, 0]⟩) rfl E1 rfl rfl ?_
  refine hK _ _ (below_row (Below.refl _ _) (by omega) _) ?_
  clear hK K
  refine doneB (by kernel_rfl) ?_
  go_simp
  go_wp2_with fail
  refine bodyPost_ret (ret_two rfl _ rfl E0 h8 rfl E2 rfl) rfl ?_
  exact ⟨rfl, hbe⟩
set_option maxRecDepth 100000 in
set_option maxHeartbeats 2000000 in
theorem call_any (c : Cp.Cpu) (x : Cd.Ins) (h8 : c.regs.length = 8) (w : World) : Calls Try.prog 53 #[ca c, .agg #[.int .i64 x.op, .int .i64 x.a, .int .i64 x.b, .int .i64 x.c]] w (TwoPost (c, ⟨3, 0, 0, 0, x.a, [Cp.get c 1, Cp.get c 2, Cp.get c 3]⟩) w) := by
  obtain ⟨w1, hw, ST, SR⟩ := start_b w c x
  go_enter Try.func53, Try.ntmps53
  go_wp2_with fail
  refine region_B (by kernel_rfl) (w.heap.size + 2) ?_
  replace ST := ST.drew
  replace SR := SR.drew
  generalize w1.drew = u at *
  have hus := ST.size
  refine takeB 0 rfl (by kernel_rfl) (fun _ _ _ h => h) (by rfl) (by intro w' hg; exact exec_load_cpu rfl rfl (ST.next hg).o0 h8) ?_
  refine takeB 1 rfl (by kernel_rfl) (fun _ _ _ h => h) (by rfl) (by intro w' hg; go_simp; try with_reducible rfl) ?_
  refine takeB 2 rfl (by kernel_rfl) (fun _ _ _ h => h) (by rfl) (by intro w' hg; have g1 := (ST.next hg).xa; go_simp; try with_reducible rfl) ?_
  refine takeB 3 rfl (by kernel_rfl) (fun _ _ _ h => h) (by rfl) (by intro w' hg; go_simp; try with_reducible rfl) ?_
  refine takeB 4 rfl (by kernel_rfl) (fun _ _ _ h => h) (by rfl) (by intro w' hg; go_simp; try with_reducible rfl) ?_
  refine takeB 5 rfl (by kernel_rfl) (fun _ _ _ h => h) (by rfl) (by intro w' hg; have g1 := (ST.next hg).reg h8 (i := 1) (by omega); simp at g1; go_simp; try with_reducible rfl) ?_
  refine takeB 6 rfl (by kernel_rfl) (fun _ _ _ h => h) (by rfl) (by intro w' hg; go_simp; try with_reducible rfl) ?_
  refine takeB 7 rfl (by kernel_rfl) (fun _ _ _ h => h) (by rfl) (by intro w' hg; go_simp; try with_reducible rfl) ?_
  refine takeB 8 rfl (by kernel_rfl) (fun _ _ _ h => h) (by rfl) (by intro w' hg; have g1 := (ST.next hg).reg h8 (i := 2) (by omega); simp at g1; go_simp; try with_reducible rfl) ?_
  refine takeB 9 rfl (by kernel_rfl) (fun _ _ _ h => h) (by rfl) (by intro w' hg; go_simp; try with_reducible rfl) ?_
  refine takeB 10 rfl (by kernel_rfl) (fun _ _ _ h => h) (by rfl) (by intro w' hg; go_simp; try with_reducible rfl) ?_
  refine takeB 11 rfl (by kernel_rfl) (fun _ _ _ h => h) (by rfl) (by intro w' hg; have g1 := (ST.next hg).reg h8 (i := 3) (by omega); simp at g1; go_simp; try with_reducible rfl) ?_
  refine takeB 12 rfl (by kernel_rfl) (fun _ _ _ h => h) (by rfl) (by intro w' hg; exact exec_build rfl (vs := [(0, .int .i64 (Cp.get c 1)), (1, .int .i64 (Cp.get c 2)), (2, .int .i64 (Cp.get c 3))]) (by go_simp) (built_args _ _ _)) ?_
  refine takeB 13 rfl (by kernel_rfl) (fun _ _ _ h => h) (by rfl) (by intro w' hg; exact exec_build rfl (vs := [(0, .int .i64 3), (4, .int .i64 x.a), (5, .agg #[.int .i64 (Cp.get c 1), .int .i64 (Cp.get c 2), .int .i64 (Cp.get c 3)])]) (by go_simp) (built_call _ _ _ _)) ?_
  go_simp
  refine onlyB 14 rfl (by kernel_rfl) (by rfl) ?_
  intro K hK
  obtain ⟨E0, E1, E2, hbe⟩ := ends_2 (g := w.heap.size + 2) SR.o1 SR.o2 ST.bel (by omega) c ⟨3, 0, 0, 0, x.a, [Cp.get c 1, Cp.get c 2, Cp.get c 3]⟩
  refine wp_store_cpu rfl rfl (c := c) rfl SR.o1 rfl h8 ?_
  refine hK _ _ (below_row (Below.refl _ _) (Nat.le_refl _) _) ?_
  clear hK K
  refine onlyB 15 rfl (by kernel_rfl) (by rfl) ?_
  intro K hK
  refine wp_store_act rfl rfl (c := ⟨3, 0, 0, 0, x.a, [Cp.get c 1, Cp.get c 2, Cp.get c 3]⟩) rfl E1 rfl rfl ?_
  refine hK _ _ (below_row (Below.refl _ _) (by omega) _) ?_
  clear hK K
  refine doneB (by kernel_rfl) ?_
  go_simp
  go_wp2_with fail
  refine bodyPost_ret (ret_two rfl _ rfl E0 h8 rfl E2 rfl) rfl ?_
  exact ⟨rfl, hbe⟩
set_option maxRecDepth 100000 in
set_option maxHeartbeats 2000000 in
theorem move_any (c : Cp.Cpu) (x : Cd.Ins) (h8 : c.regs.length = 8) (hb : 0 ≤ x.b ∧ x.b < 8) (w : World) : Calls Try.prog 40 #[ca c, .agg #[.int .i64 x.op, .int .i64 x.a, .int .i64 x.b, .int .i64 x.c]] w (TwoPost (Cp.loaded c x.a (Cp.get c x.b), Cp.done) w) := by
  obtain ⟨w1, hw, ST, SR⟩ := start_b w c x
  have hb0 := hb.1
  have hb1 := hb.2
  have hl := loaded_8 h8 x.a (Cp.get c x.b)
  go_enter Try.func40, Try.ntmps40
  go_wp2_with fail
  refine region_B (by kernel_rfl) (w.heap.size + 2) ?_
  replace ST := ST.drew
  replace SR := SR.drew
  generalize w1.drew = u at *
  have hus := ST.size
  refine takeB 0 rfl (by kernel_rfl) (fun _ _ _ h => h) (by rfl) (by intro w' hg; exact exec_load_cpu rfl rfl (ST.next hg).o0 h8) ?_
  refine takeB 1 rfl (by kernel_rfl) (fun _ _ _ h => h) (by rfl) (by intro w' hg; go_simp; try with_reducible rfl) ?_
  refine takeB 2 rfl (by kernel_rfl) (fun _ _ _ h => h) (by rfl) (by intro w' hg; have g1 := (ST.next hg).xa; go_simp; try with_reducible rfl) ?_
  refine takeB 3 rfl (by kernel_rfl) (fun _ _ _ h => h) (by rfl) (by intro w' hg; go_simp; try with_reducible rfl) ?_
  refine takeB 4 rfl (by kernel_rfl) (fun _ _ _ h => h) (by rfl) (by intro w' hg; have g1 := (ST.next hg).xb; go_simp; try with_reducible rfl) ?_
  refine takeB 5 rfl (by kernel_rfl) (fun _ _ _ h => h) (by rfl) (by intro w' hg; go_simp; try with_reducible rfl) ?_
  refine takeB 6 rfl (by kernel_rfl) (fun _ _ _ h => h) (by rfl) (by intro w' hg; go_simp; try with_reducible rfl) ?_
  refine takeB 7 rfl (by kernel_rfl) (fun _ _ _ h => h) (by rfl) (by intro w' hg; have g1 := (ST.next hg).reg h8 hb; go_simp; try with_reducible rfl) ?_
  refine onlyB 8 rfl (by kernel_rfl) (by rfl) ?_
  intro K hK
  go_simp
  refine (loaded_any c h8 _ _ _).mono ?_
  rintro e u1 ⟨rfl, hb1⟩
  replace ST := ST.next (ST.later hb1)
  replace SR := SR.next hb1
  refine hK _ _ (hb1.mono (by omega)) ?_
  have hus := Nat.le_trans hus hb1.size
  clear hK K hb1
  refine onlyB 9 rfl (by kernel_rfl) (by rfl) ?_
  intro K hK
  go_simp
  refine (done_any _ hl _).mono ?_
  rintro e u1 ⟨rfl, hb1⟩
  replace ST := ST.next (ST.later hb1)
  replace SR := SR.next hb1
  refine hK _ _ (hb1.mono (by omega)) ?_
  have hus := Nat.le_trans hus hb1.size
  clear hK K hb1
  refine takeB 10 rfl (by kernel_rfl) (fun _ _ _ h => h) (by rfl) (by intro w' hg; go_simp; try with_reducible rfl) ?_
  refine takeB 11 rfl (by kernel_rfl) (fun _ _ _ h => h) (by rfl) (by intro w' hg; go_simp; try with_reducible rfl) ?_
  refine onlyB 12 rfl (by kernel_rfl) (by rfl) ?_
  intro K hK
  obtain ⟨E0, E1, E2, hbe⟩ := ends_2 (g := w.heap.size + 2) SR.o1 SR.o2 ST.bel (by omega) (Cp.loaded c x.a (Cp.get c x.b)) Cp.done
  refine wp_store_cpu rfl rfl (c := (Cp.loaded c x.a (Cp.get c x.b))) rfl SR.o1 rfl hl ?_
  refine hK _ _ (below_row (Below.refl _ _) (Nat.le_refl _) _) ?_
  clear hK K
  refine onlyB 13 rfl (by kernel_rfl) (by rfl) ?_
  intro K hK
  refine wp_store_act rfl rfl (c := Cp.done) rfl E1 rfl rfl ?_
  refine hK _ _ (below_row (Below.refl _ _) (by omega) _) ?_
  clear hK K
  refine doneB (by kernel_rfl) ?_
  go_simp
  go_wp2_with fail
  refine bodyPost_ret (ret_two rfl _ rfl E0 hl rfl E2 rfl) rfl ?_
  exact ⟨rfl, hbe⟩
set_option maxRecDepth 100000 in
set_option maxHeartbeats 2000000 in
theorem nop_any (c : Cp.Cpu) (x : Cd.Ins) (h8 : c.regs.length = 8) (w : World) : Calls Try.prog 37 #[ca c, .agg #[.int .i64 x.op, .int .i64 x.a, .int .i64 x.b, .int .i64 x.c]] w (TwoPost ((Cp.stored c), Cp.done) w) := by
  obtain ⟨w1, hw, ST, SR⟩ := start_b w c x
  go_enter Try.func37, Try.ntmps37
  go_wp2_with (first | (refine load_cpu rfl _ rfl rfl ST.o0 h8 ?_) | fail)
  refine (goneOn_any c h8 _).mono ?_
  rintro e w2 ⟨rfl, hb2⟩
  replace ST := ST.next (ST.later hb2)
  replace SR := SR.next hb2
  clear hb2 
  go_wp2_with fail
  refine (done_any (Cp.stored c) h8 _).mono ?_
  rintro e w3 ⟨rfl, hb3⟩
  replace ST := ST.next (ST.later hb3)
  replace SR := SR.next hb3
  clear hb3 
  obtain ⟨E0, E1, E2, hbe⟩ := ends_2 (g := w.heap.size + 2) SR.o1 SR.o2 ST.bel (by omega) (Cp.stored c) Cp.done
  go_wp2_with (first | (refine store_cpu rfl _ _ rfl rfl rfl SR.o1 rfl h8 ?_) | (refine store_act rfl _ _ rfl rfl (c := Cp.done) rfl E1 rfl rfl ?_) | fail)
  refine bodyPost_ret (ret_two rfl _ rfl E0 h8 rfl E2 rfl) rfl ?_
  exact ⟨rfl, hbe⟩
set_option maxRecDepth 100000 in
set_option maxHeartbeats 2000000 in
theorem set_any (c : Cp.Cpu) (x : Cd.Ins) (h8 : c.regs.length = 8) (w : World) : Calls Try.prog 39 #[ca c, .agg #[.int .i64 x.op, .int .i64 x.a, .int .i64 x.b, .int .i64 x.c]] w (TwoPost ((Cp.loaded c x.a x.b), Cp.done) w) := by
  obtain ⟨w1, hw, ST, SR⟩ := start_b w c x
  have hl := loaded_8 h8 x.a x.b
  have k1 := ST.xa
  have k2 := ST.xb
  go_enter Try.func39, Try.ntmps39
  go_wp2_with (first | (refine load_cpu rfl _ rfl rfl ST.o0 h8 ?_) | fail)
  refine (loaded_any c h8 _ _ _).mono ?_
  rintro e w2 ⟨rfl, hb2⟩
  replace ST := ST.next (ST.later hb2)
  replace SR := SR.next hb2
  clear hb2 k1 k2
  go_wp2_with fail
  refine (done_any _ hl _).mono ?_
  rintro e w3 ⟨rfl, hb3⟩
  replace ST := ST.next (ST.later hb3)
  replace SR := SR.next hb3
  clear hb3 
  obtain ⟨E0, E1, E2, hbe⟩ := ends_2 (g := w.heap.size + 2) SR.o1 SR.o2 ST.bel (by omega) (Cp.loaded c x.a x.b) Cp.done
  go_wp2_with (first | (refine store_cpu rfl _ _ rfl rfl rfl SR.o1 rfl hl ?_) | (refine store_act rfl _ _ rfl rfl (c := Cp.done) rfl E1 rfl rfl ?_) | fail)
  refine bodyPost_ret (ret_two rfl _ rfl E0 hl rfl E2 rfl) rfl ?_
  exact ⟨rfl, hbe⟩
set_option maxRecDepth 100000 in
set_option maxHeartbeats 2000000 in
theorem jump_any (c : Cp.Cpu) (x : Cd.Ins) (h8 : c.regs.length = 8) (w : World) : Calls Try.prog 48 #[ca c, .agg #[.int .i64 x.op, .int .i64 x.a, .int .i64 x.b, .int .i64 x.c]] w (TwoPost ((⟨x.a, c.regs⟩ : Cp.Cpu), Cp.done) w) := by
  obtain ⟨w1, hw, ST, SR⟩ := start_b w c x
  have k1 := ST.xa
  go_enter Try.func48, Try.ntmps48
  go_wp2_with (first | (refine load_cpu rfl _ rfl rfl ST.o0 h8 ?_) | fail)
  refine (goneTo_any c h8 _ _).mono ?_
  rintro e w2 ⟨rfl, hb2⟩
  replace ST := ST.next (ST.later hb2)
  replace SR := SR.next hb2
  clear hb2 k1
  go_wp2_with fail
  refine (done_any ⟨x.a, c.regs⟩ h8 _).mono ?_
  rintro e w3 ⟨rfl, hb3⟩
  replace ST := ST.next (ST.later hb3)
  replace SR := SR.next hb3
  clear hb3 
  obtain ⟨E0, E1, E2, hbe⟩ := ends_2 (g := w.heap.size + 2) SR.o1 SR.o2 ST.bel (by omega) (⟨x.a, c.regs⟩ : Cp.Cpu) Cp.done
  go_wp2_with (first | (refine store_cpu rfl _ _ rfl rfl rfl SR.o1 rfl h8 ?_) | (refine store_act rfl _ _ rfl rfl (c := Cp.done) rfl E1 rfl rfl ?_) | fail)
  refine bodyPost_ret (ret_two rfl _ rfl E0 h8 rfl E2 rfl) rfl ?_
  exact ⟨rfl, hbe⟩
set_option maxRecDepth 100000 in
set_option maxHeartbeats 2000000 in
theorem branch0_any (c : Cp.Cpu) (x : Cd.Ins) (h8 : c.regs.length = 8) (ha : 0 ≤ x.a ∧ x.a < 8) (hz : Cp.get c x.a = 0) (w : World) : Calls Try.prog 50 #[ca c, .agg #[.int .i64 x.op, .int .i64 x.a, .int .i64 x.b, .int .i64 x.c]] w (TwoPost ((Cp.stored c), Cp.done) w) := by
  obtain ⟨w1, hw, ST, SR⟩ := start_b w c x
  have k1 := ST.xa
  have k2 := ST.xb
  have k3 := ST.reg h8 ha
  have ha0 := ha.1
  have ha1 := ha.2
  rw [hz] at k3
  clear hz
  go_enter Try.func50, Try.ntmps50
  go_wp2_with (first | (refine load_cpu rfl _ rfl rfl ST.o0 h8 ?_) | fail)
  refine (goneOn_any c h8 _).mono ?_
  rintro e w2 ⟨rfl, hb2⟩
  replace ST := ST.next (ST.later hb2)
  replace SR := SR.next hb2
  clear hb2 k1 k2 k3
  go_wp2_with fail
  refine (done_any (Cp.stored c) h8 _).mono ?_
  rintro e w3 ⟨rfl, hb3⟩
  replace ST := ST.next (ST.later hb3)
  replace SR := SR.next hb3
  clear hb3 
  obtain ⟨E0, E1, E2, hbe⟩ := ends_2 (g := w.heap.size + 2) SR.o1 SR.o2 ST.bel (by omega) (Cp.stored c) Cp.done
  go_wp2_with (first | (refine store_cpu rfl _ _ rfl rfl rfl SR.o1 rfl h8 ?_) | (refine store_act rfl _ _ rfl rfl (c := Cp.done) rfl E1 rfl rfl ?_) | fail)
  refine bodyPost_ret (ret_two rfl _ rfl E0 h8 rfl E2 rfl) rfl ?_
  exact ⟨rfl, hbe⟩
set_option maxRecDepth 100000 in
set_option maxHeartbeats 2000000 in
theorem branch1_any (c : Cp.Cpu) (x : Cd.Ins) (h8 : c.regs.length = 8) (ha : 0 ≤ x.a ∧ x.a < 8) (hz : ¬ Cp.get c x.a = 0) (w : World) : Calls Try.prog 50 #[ca c, .agg #[.int .i64 x.op, .int .i64 x.a, .int .i64 x.b, .int .i64 x.c]] w (TwoPost ((⟨x.b, c.regs⟩ : Cp.Cpu), Cp.done) w) := by
  obtain ⟨w1, hw, ST, SR⟩ := start_b w c x
  have k1 := ST.xa
  have k2 := ST.xb
  have k3 := ST.reg h8 ha
  have ha0 := ha.1
  have ha1 := ha.2
  go_enter Try.func50, Try.ntmps50
  go_wp2_with (first | (refine load_cpu rfl _ rfl rfl ST.o0 h8 ?_) | fail)
  refine (goneTo_any c h8 _ _).mono ?_
  rintro e w2 ⟨rfl, hb2⟩
  replace ST := ST.next (ST.later hb2)
  replace SR := SR.next hb2
  clear hb2 k1 k2 k3
  go_wp2_with fail
  refine (done_any ⟨x.b, c.regs⟩ h8 _).mono ?_
  rintro e w3 ⟨rfl, hb3⟩
  replace ST := ST.next (ST.later hb3)
  replace SR := SR.next hb3
  clear hb3 
  obtain ⟨E0, E1, E2, hbe⟩ := ends_2 (g := w.heap.size + 2) SR.o1 SR.o2 ST.bel (by omega) (⟨x.b, c.regs⟩ : Cp.Cpu) Cp.done
  go_wp2_with (first | (refine store_cpu rfl _ _ rfl rfl rfl SR.o1 rfl h8 ?_) | (refine store_act rfl _ _ rfl rfl (c := Cp.done) rfl E1 rfl rfl ?_) | fail)
  refine bodyPost_ret (ret_two rfl _ rfl E0 h8 rfl E2 rfl) rfl ?_
  exact ⟨rfl, hbe⟩
theorem add_any (a b : Int) (w : World) : Calls Try.prog 42 #[.int .i64 a, .int .i64 b] w fun e w' => e = .returned (.int .i64 (wrap64 (a + b))) ∧ w' = w := by
  go_enter Try.func42, Try.ntmps42
  go_wp2
  go_ret
  exact ⟨rfl, rfl⟩
theorem sub_any (a b : Int) (w : World) : Calls Try.prog 43 #[.int .i64 a, .int .i64 b] w fun e w' => e = .returned (.int .i64 (wrap64 (a - b))) ∧ w' = w := by
  go_enter Try.func43, Try.ntmps43
  go_wp2
  go_ret
  exact ⟨rfl, rfl⟩
theorem mul_any (a b : Int) (w : World) : Calls Try.prog 44 #[.int .i64 a, .int .i64 b] w fun e w' => e = .returned (.int .i64 (wrap64 (a * b))) ∧ w' = w := by
  go_enter Try.func44, Try.ntmps44
  go_wp2
  go_ret
  exact ⟨rfl, rfl⟩
theorem less_any (a b : Int) (w : World) : Calls Try.prog 45 #[.int .i64 a, .int .i64 b] w fun e w' => e = .returned (.int .i64 (if a < b then 1 else 0)) ∧ w' = w := by
  by_cases h : a < b
  · go_enter Try.func45, Try.ntmps45
    go_wp2_with fail
    refine (truth_any _ _).mono ?_
    rintro e w1 ⟨rfl, rfl⟩
    go_wp2
    go_ret
    simp
  · go_enter Try.func45, Try.ntmps45
    go_wp2_with fail
    refine (truth_any _ _).mono ?_
    rintro e w1 ⟨rfl, rfl⟩
    go_wp2
    go_ret
    simp
theorem equal_any (a b : Int) (w : World) : Calls Try.prog 47 #[.int .i64 a, .int .i64 b] w fun e w' => e = .returned (.int .i64 (if a = b then 1 else 0)) ∧ w' = w := by
  by_cases h : a = b
  · go_enter Try.func47, Try.ntmps47
    go_wp2_with fail
    refine (truth_any _ _).mono ?_
    rintro e w1 ⟨rfl, rfl⟩
    go_wp2
    go_ret
    simp
  · go_enter Try.func47, Try.ntmps47
    go_wp2_with fail
    refine (truth_any _ _).mono ?_
    rintro e w1 ⟨rfl, rfl⟩
    go_wp2
    go_ret
    simp
end Go.Proofs.Ytkcegdnjgkideaa
