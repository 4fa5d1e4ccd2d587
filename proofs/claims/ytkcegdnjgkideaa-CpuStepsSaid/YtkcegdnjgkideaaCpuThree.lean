/- The reference of layer 5: operations on three registers: a contract. (Written by tools/mkref.py.) -/
import Derived.Test.YtkcegdnjgkideaaCpuRefBase
import Derived.Test.YtkcegdnjgkideaaRegionX
namespace Go.Proofs.Ytkcegdnjgkideaa
open Go.RowKit

set_option maxRecDepth 100000 in
set_option maxHeartbeats 8000000 in
theorem three_a (c : Cp.Cpu) (x : Cd.Ins) (h8 : c.regs.length = 8) (HA : Hid (Cp.isReg x.a = false)) (w : World) : Calls Try.prog 33 #[.agg (cc c), .agg #[.int .i64 x.op, .int .i64 x.a, .int .i64 x.b, .int .i64 x.c]] w (TwoPost (c, Cp.fault) w) := by
  obtain ⟨w1, hw, ST, SR⟩ := start_b w c x
  have k0 := ST.xo
  have k1 := ST.xa
  have k2 := ST.xb
  have k3 := ST.xc
  go_enter Try.func33, Try.ntmps33
  go_wp2_with (first | (go_at_call 32; refine (register_any _ _).mono ?_; rintro e v ⟨rfl, hvv⟩; rw [hvv, HA.out]; clear hvv v) | (refine load_cpu rfl _ rfl rfl ST.o0 h8 ?_) | fail)
  refine (faultR_any c h8 _).mono ?_
  rintro e u1 ⟨rfl, hb1⟩
  replace ST := ST.next (ST.later hb1)
  replace SR := SR.next hb1
  clear hb1
  obtain ⟨E0, E1, E2, hbe⟩ := ends_2 (g := w.heap.size + 2) SR.o1 SR.o2 ST.bel (by omega) c Cp.fault
  have O1 := SR.o1
  clear ST SR
  go_wp2_with (first | (refine store_cpu rfl _ _ rfl rfl (c := c) rfl O1 rfl h8 ?_) | (refine store_act rfl _ _ rfl rfl (c := Cp.fault) rfl E1 rfl rfl ?_) | fail)
  refine bodyPost_ret (ret_two rfl _ rfl E0 h8 rfl E2 rfl) rfl ?_
  exact ⟨rfl, hbe⟩
set_option maxRecDepth 100000 in
set_option maxHeartbeats 8000000 in
theorem three_b (c : Cp.Cpu) (x : Cd.Ins) (h8 : c.regs.length = 8) (HA : Hid (Cp.isReg x.a = true)) (HB : Hid (Cp.isReg x.b = false)) (w : World) : Calls Try.prog 33 #[.agg (cc c), .agg #[.int .i64 x.op, .int .i64 x.a, .int .i64 x.b, .int .i64 x.c]] w (TwoPost (c, Cp.fault) w) := by
  obtain ⟨w1, hw, ST, SR⟩ := start_b w c x
  have k0 := ST.xo
  have k1 := ST.xa
  have k2 := ST.xb
  have k3 := ST.xc
  go_enter Try.func33, Try.ntmps33
  go_wp2_with (first | (go_at_call 32; refine (register_any _ _).mono ?_; rintro e v ⟨rfl, hvv⟩; rw [hvv, HA.out]; clear hvv v) | (go_at_call 32; refine (register_any _ _).mono ?_; rintro e v ⟨rfl, hvv⟩; rw [hvv, HB.out]; clear hvv v) | (refine load_cpu rfl _ rfl rfl ST.o0 h8 ?_) | fail)
  refine (faultR_any c h8 _).mono ?_
  rintro e u1 ⟨rfl, hb1⟩
  replace ST := ST.next (ST.later hb1)
  replace SR := SR.next hb1
  clear hb1
  obtain ⟨E0, E1, E2, hbe⟩ := ends_2 (g := w.heap.size + 2) SR.o1 SR.o2 ST.bel (by omega) c Cp.fault
  have O1 := SR.o1
  clear ST SR
  go_wp2_with (first | (refine store_cpu rfl _ _ rfl rfl (c := c) rfl O1 rfl h8 ?_) | (refine store_act rfl _ _ rfl rfl (c := Cp.fault) rfl E1 rfl rfl ?_) | fail)
  refine bodyPost_ret (ret_two rfl _ rfl E0 h8 rfl E2 rfl) rfl ?_
  exact ⟨rfl, hbe⟩
set_option maxRecDepth 100000 in
set_option maxHeartbeats 8000000 in
theorem three_c (c : Cp.Cpu) (x : Cd.Ins) (h8 : c.regs.length = 8) (HA : Hid (Cp.isReg x.a = true)) (HB : Hid (Cp.isReg x.b = true)) (HC : Hid (Cp.isReg x.c = false)) (w : World) : Calls Try.prog 33 #[.agg (cc c), .agg #[.int .i64 x.op, .int .i64 x.a, .int .i64 x.b, .int .i64 x.c]] w (TwoPost (c, Cp.fault) w) := by
  obtain ⟨w1, hw, ST, SR⟩ := start_b w c x
  have k0 := ST.xo
  have k1 := ST.xa
  have k2 := ST.xb
  have k3 := ST.xc
  go_enter Try.func33, Try.ntmps33
  go_wp2_with (first | (go_at_call 32; refine (register_any _ _).mono ?_; rintro e v ⟨rfl, hvv⟩; rw [hvv, HA.out]; clear hvv v) | (go_at_call 32; refine (register_any _ _).mono ?_; rintro e v ⟨rfl, hvv⟩; rw [hvv, HB.out]; clear hvv v) | (go_at_call 32; refine (register_any _ _).mono ?_; rintro e v ⟨rfl, hvv⟩; rw [hvv, HC.out]; clear hvv v) | (refine load_cpu rfl _ rfl rfl ST.o0 h8 ?_) | fail)
  refine (faultR_any c h8 _).mono ?_
  rintro e u1 ⟨rfl, hb1⟩
  replace ST := ST.next (ST.later hb1)
  replace SR := SR.next hb1
  clear hb1
  obtain ⟨E0, E1, E2, hbe⟩ := ends_2 (g := w.heap.size + 2) SR.o1 SR.o2 ST.bel (by omega) c Cp.fault
  have O1 := SR.o1
  clear ST SR
  go_wp2_with (first | (refine store_cpu rfl _ _ rfl rfl (c := c) rfl O1 rfl h8 ?_) | (refine store_act rfl _ _ rfl rfl (c := Cp.fault) rfl E1 rfl rfl ?_) | fail)
  refine bodyPost_ret (ret_two rfl _ rfl E0 h8 rfl E2 rfl) rfl ?_
  exact ⟨rfl, hbe⟩
set_option maxRecDepth 100000 in
set_option maxHeartbeats 8000000 in
theorem three_3 (c : Cp.Cpu) (x : Cd.Ins) (h8 : c.regs.length = 8) (ho : x.op = 3) (HA : Hid (Cp.isReg x.a = true)) (HB : Hid (Cp.isReg x.b = true)) (HC : Hid (Cp.isReg x.c = true)) (v : Int) (HV0 : Hid ((wrap64 (Cp.get c x.b + Cp.get c x.c)) = v)) (w : World) : Calls Try.prog 33 #[.agg (cc c), .agg #[.int .i64 x.op, .int .i64 x.a, .int .i64 x.b, .int .i64 x.c]] w (TwoPost (Cp.loaded c x.a v, Cp.done) w) := by
  obtain ⟨w1, hw, ST, SR⟩ := start_b w c x
  have k0 := ST.xo
  have k1 := ST.xa
  have k2 := ST.xb
  have k3 := ST.xc
  rw [ho] at k0
  clear ho
  have ra := isReg_iff.1 HA.out
  have rb := isReg_iff.1 HB.out
  have rc := isReg_iff.1 HC.out
  have ra0 := ra.1
  have ra1 := ra.2
  have rb0 := rb.1
  have rb1 := rb.2
  have rc0 := rc.1
  have rc1 := rc.2
  have HR : Hid (Cp.loaded c x.a v = Cp.stored (Cp.put c x.a v)) := hide (by unfold Cp.loaded; rw [HA.out]; rfl)
  go_enter Try.func33, Try.ntmps33
  go_wp2_with (first | (go_at_call 32; refine (register_any _ _).mono ?_; rintro e v ⟨rfl, hvv⟩; rw [hvv, HA.out]; clear hvv v) | (go_at_call 32; refine (register_any _ _).mono ?_; rintro e v ⟨rfl, hvv⟩; rw [hvv, HB.out]; clear hvv v) | (go_at_call 32; refine (register_any _ _).mono ?_; rintro e v ⟨rfl, hvv⟩; rw [hvv, HC.out]; clear hvv v) | (refine load_cpu rfl _ rfl rfl ST.o0 h8 ?_) | fail)
  refine region_B (by kernel_rfl) (w.heap.size + 2) ?_
  replace ST := ST.drew
  replace SR := SR.drew
  replace k0 : w1.drew.cell? ⟨w.heap.size + 1, 0, none⟩ = some (.int .i64 3) := k0
  replace k1 : w1.drew.cell? ⟨w.heap.size + 1, 1, none⟩ = some (.int .i64 x.a) := k1
  generalize w1.drew = u at *
  have hus := ST.size
  clear hw k2 k3
  refine takeB 0 rfl (by kernel_rfl) (fun _ _ _ h => h) (by rfl) (by intro w' hg; go_simp; try with_reducible rfl) ?_
  refine takeB 1 rfl (by kernel_rfl) (fun _ _ _ h => h) (by rfl) (by intro w' hg; have g1 := (ST.next hg).xb; go_simp; try with_reducible rfl) ?_
  refine takeB 2 rfl (by kernel_rfl) (fun _ _ _ h => h) (by rfl) (by intro w' hg; go_simp; try with_reducible rfl) ?_
  refine takeB 3 rfl (by kernel_rfl) (fun _ _ _ h => h) (by rfl) (by intro w' hg; go_simp; try with_reducible rfl) ?_
  refine takeB 4 rfl (by kernel_rfl) (fun _ _ _ h => h) (by rfl) (by intro w' hg; have g1 := (ST.next hg).reg h8 rb; go_simp; try with_reducible rfl) ?_
  refine takeB 5 rfl (by kernel_rfl) (fun _ _ _ h => h) (by rfl) (by intro w' hg; go_simp; try with_reducible rfl) ?_
  refine takeB 6 rfl (by kernel_rfl) (fun _ _ _ h => h) (by rfl) (by intro w' hg; have g1 := (ST.next hg).xc; go_simp; try with_reducible rfl) ?_
  refine takeB 7 rfl (by kernel_rfl) (fun _ _ _ h => h) (by rfl) (by intro w' hg; go_simp; try with_reducible rfl) ?_
  refine takeB 8 rfl (by kernel_rfl) (fun _ _ _ h => h) (by rfl) (by intro w' hg; go_simp; try with_reducible rfl) ?_
  refine takeB 9 rfl (by kernel_rfl) (fun _ _ _ h => h) (by rfl) (by intro w' hg; have g1 := (ST.next hg).reg h8 rc; go_simp; try with_reducible rfl) ?_
  refine takeB 10 rfl (by kernel_rfl) (fun _ _ _ h => h) (by rfl) (by intro w' hg; go_simp; try with_reducible rfl) ?_
  refine takeB 11 rfl (by kernel_rfl) (fun _ _ _ h => h) (by rfl) (by intro w' hg; go_simp; try with_reducible rfl) ?_
  refine doneB (by kernel_rfl) ?_
  go_simp
  obtain ⟨vb, hvb⟩ : ∃ v, Cp.get c x.b = v := ⟨_, rfl⟩
  obtain ⟨vc, hvc⟩ : ∃ v, Cp.get c x.c = v := ⟨_, rfl⟩
  rw [hvb, hvc]
  have hv := HV0.out
  rw [hvb, hvc] at hv
  have q1 := ST.reg h8 ra
  have z1 := ST.o0.free (1 + x.a.toNat)
  have O2 := ST.o0.put (1 + x.a.toNat) (.int .i64 v)
  rw [cc_put] at O2
  have P1 := SR.o1.put_other (b' := w.heap.size) (by omega) (1 + x.a.toNat) (.int .i64 v)
  have P2 := SR.o2.put_other (b' := w.heap.size) (by omega) (1 + x.a.toNat) (.int .i64 v)
  have hb2 := ST.bel.setCell (p := ⟨w.heap.size, 1 + x.a.toNat, none⟩) (Nat.le_refl _) (.int .i64 v)
  have h8' : (Cp.put c x.a v).regs.length = 8 := by simp [Cp.put, h8]
  obtain ⟨w5, hw5⟩ : ∃ w5, u.setCell ⟨w.heap.size, 1 + x.a.toNat, none⟩ (.int .i64 v) = w5 := ⟨_, rfl⟩
  rw [hw5] at O2 P1 P2 hb2
  clear hvb hvc ST SR hus ra rb rc
  go_wp2_with (first | (refine load_cpu rfl _ rfl rfl O2 h8' ?_) | fail)
  refine (storedR_any _ h8' _).mono ?_
  rintro e u1 ⟨rfl, hb1⟩
  obtain ⟨E0, E1, E2, hbe⟩ := ends_2 (g := w.heap.size + 2) (P1.below hb1 P1.lt) (P2.below hb1 P2.lt) (hb2.trans (hb1.mono hb2.size)) (by omega) (Cp.stored (Cp.put c x.a v)) Cp.done
  have O1 := P1.below hb1 P1.lt
  clear hb1 P1 P2 O2 hb2 hw5 q1 z1 hv
  go_wp2_with (first | (refine store_cpu rfl _ _ rfl rfl (c := Cp.stored (Cp.put c x.a v)) rfl O1 rfl h8' ?_) | (refine store_act rfl _ _ rfl rfl (c := Cp.done) rfl E1 rfl rfl ?_) | fail)
  refine bodyPost_ret (ret_two rfl _ rfl E0 h8' rfl E2 rfl) rfl ?_
  rw [HR.out]
  exact ⟨rfl, hbe⟩
set_option maxRecDepth 100000 in
set_option maxHeartbeats 8000000 in
theorem three_4 (c : Cp.Cpu) (x : Cd.Ins) (h8 : c.regs.length = 8) (ho : x.op = 4) (HA : Hid (Cp.isReg x.a = true)) (HB : Hid (Cp.isReg x.b = true)) (HC : Hid (Cp.isReg x.c = true)) (v : Int) (HV0 : Hid ((wrap64 (Cp.get c x.b - Cp.get c x.c)) = v)) (w : World) : Calls Try.prog 33 #[.agg (cc c), .agg #[.int .i64 x.op, .int .i64 x.a, .int .i64 x.b, .int .i64 x.c]] w (TwoPost (Cp.loaded c x.a v, Cp.done) w) := by
  obtain ⟨w1, hw, ST, SR⟩ := start_b w c x
  have k0 := ST.xo
  have k1 := ST.xa
  have k2 := ST.xb
  have k3 := ST.xc
  rw [ho] at k0
  clear ho
  have ra := isReg_iff.1 HA.out
  have rb := isReg_iff.1 HB.out
  have rc := isReg_iff.1 HC.out
  have ra0 := ra.1
  have ra1 := ra.2
  have rb0 := rb.1
  have rb1 := rb.2
  have rc0 := rc.1
  have rc1 := rc.2
  have HR : Hid (Cp.loaded c x.a v = Cp.stored (Cp.put c x.a v)) := hide (by unfold Cp.loaded; rw [HA.out]; rfl)
  go_enter Try.func33, Try.ntmps33
  go_wp2_with (first | (go_at_call 32; refine (register_any _ _).mono ?_; rintro e v ⟨rfl, hvv⟩; rw [hvv, HA.out]; clear hvv v) | (go_at_call 32; refine (register_any _ _).mono ?_; rintro e v ⟨rfl, hvv⟩; rw [hvv, HB.out]; clear hvv v) | (go_at_call 32; refine (register_any _ _).mono ?_; rintro e v ⟨rfl, hvv⟩; rw [hvv, HC.out]; clear hvv v) | (refine load_cpu rfl _ rfl rfl ST.o0 h8 ?_) | fail)
  refine region_B (by kernel_rfl) (w.heap.size + 2) ?_
  replace ST := ST.drew
  replace SR := SR.drew
  replace k0 : w1.drew.cell? ⟨w.heap.size + 1, 0, none⟩ = some (.int .i64 4) := k0
  replace k1 : w1.drew.cell? ⟨w.heap.size + 1, 1, none⟩ = some (.int .i64 x.a) := k1
  generalize w1.drew = u at *
  have hus := ST.size
  clear hw k2 k3
  refine takeB 0 rfl (by kernel_rfl) (fun _ _ _ h => h) (by rfl) (by intro w' hg; go_simp; try with_reducible rfl) ?_
  refine takeB 1 rfl (by kernel_rfl) (fun _ _ _ h => h) (by rfl) (by intro w' hg; have g1 := (ST.next hg).xb; go_simp; try with_reducible rfl) ?_
  refine takeB 2 rfl (by kernel_rfl) (fun _ _ _ h => h) (by rfl) (by intro w' hg; go_simp; try with_reducible rfl) ?_
  refine takeB 3 rfl (by kernel_rfl) (fun _ _ _ h => h) (by rfl) (by intro w' hg; go_simp; try with_reducible rfl) ?_
  refine takeB 4 rfl (by kernel_rfl) (fun _ _ _ h => h) (by rfl) (by intro w' hg; have g1 := (ST.next hg).reg h8 rb; go_simp; try with_reducible rfl) ?_
  refine takeB 5 rfl (by kernel_rfl) (fun _ _ _ h => h) (by rfl) (by intro w' hg; go_simp; try with_reducible rfl) ?_
  refine takeB 6 rfl (by kernel_rfl) (fun _ _ _ h => h) (by rfl) (by intro w' hg; have g1 := (ST.next hg).xc; go_simp; try with_reducible rfl) ?_
  refine takeB 7 rfl (by kernel_rfl) (fun _ _ _ h => h) (by rfl) (by intro w' hg; go_simp; try with_reducible rfl) ?_
  refine takeB 8 rfl (by kernel_rfl) (fun _ _ _ h => h) (by rfl) (by intro w' hg; go_simp; try with_reducible rfl) ?_
  refine takeB 9 rfl (by kernel_rfl) (fun _ _ _ h => h) (by rfl) (by intro w' hg; have g1 := (ST.next hg).reg h8 rc; go_simp; try with_reducible rfl) ?_
  refine takeB 10 rfl (by kernel_rfl) (fun _ _ _ h => h) (by rfl) (by intro w' hg; go_simp; try with_reducible rfl) ?_
  refine takeB 11 rfl (by kernel_rfl) (fun _ _ _ h => h) (by rfl) (by intro w' hg; go_simp; try with_reducible rfl) ?_
  refine doneB (by kernel_rfl) ?_
  go_simp
  obtain ⟨vb, hvb⟩ : ∃ v, Cp.get c x.b = v := ⟨_, rfl⟩
  obtain ⟨vc, hvc⟩ : ∃ v, Cp.get c x.c = v := ⟨_, rfl⟩
  rw [hvb, hvc]
  have hv := HV0.out
  rw [hvb, hvc] at hv
  have q1 := ST.reg h8 ra
  have z1 := ST.o0.free (1 + x.a.toNat)
  have O2 := ST.o0.put (1 + x.a.toNat) (.int .i64 v)
  rw [cc_put] at O2
  have P1 := SR.o1.put_other (b' := w.heap.size) (by omega) (1 + x.a.toNat) (.int .i64 v)
  have P2 := SR.o2.put_other (b' := w.heap.size) (by omega) (1 + x.a.toNat) (.int .i64 v)
  have hb2 := ST.bel.setCell (p := ⟨w.heap.size, 1 + x.a.toNat, none⟩) (Nat.le_refl _) (.int .i64 v)
  have h8' : (Cp.put c x.a v).regs.length = 8 := by simp [Cp.put, h8]
  obtain ⟨w5, hw5⟩ : ∃ w5, u.setCell ⟨w.heap.size, 1 + x.a.toNat, none⟩ (.int .i64 v) = w5 := ⟨_, rfl⟩
  rw [hw5] at O2 P1 P2 hb2
  clear hvb hvc ST SR hus ra rb rc
  go_wp2_with (first | (refine load_cpu rfl _ rfl rfl O2 h8' ?_) | fail)
  refine (storedR_any _ h8' _).mono ?_
  rintro e u1 ⟨rfl, hb1⟩
  obtain ⟨E0, E1, E2, hbe⟩ := ends_2 (g := w.heap.size + 2) (P1.below hb1 P1.lt) (P2.below hb1 P2.lt) (hb2.trans (hb1.mono hb2.size)) (by omega) (Cp.stored (Cp.put c x.a v)) Cp.done
  have O1 := P1.below hb1 P1.lt
  clear hb1 P1 P2 O2 hb2 hw5 q1 z1 hv
  go_wp2_with (first | (refine store_cpu rfl _ _ rfl rfl (c := Cp.stored (Cp.put c x.a v)) rfl O1 rfl h8' ?_) | (refine store_act rfl _ _ rfl rfl (c := Cp.done) rfl E1 rfl rfl ?_) | fail)
  refine bodyPost_ret (ret_two rfl _ rfl E0 h8' rfl E2 rfl) rfl ?_
  rw [HR.out]
  exact ⟨rfl, hbe⟩
set_option maxRecDepth 100000 in
set_option maxHeartbeats 8000000 in
theorem three_5 (c : Cp.Cpu) (x : Cd.Ins) (h8 : c.regs.length = 8) (ho : x.op = 5) (HA : Hid (Cp.isReg x.a = true)) (HB : Hid (Cp.isReg x.b = true)) (HC : Hid (Cp.isReg x.c = true)) (v : Int) (HV0 : Hid ((wrap64 (Cp.get c x.b * Cp.get c x.c)) = v)) (w : World) : Calls Try.prog 33 #[.agg (cc c), .agg #[.int .i64 x.op, .int .i64 x.a, .int .i64 x.b, .int .i64 x.c]] w (TwoPost (Cp.loaded c x.a v, Cp.done) w) := by
  obtain ⟨w1, hw, ST, SR⟩ := start_b w c x
  have k0 := ST.xo
  have k1 := ST.xa
  have k2 := ST.xb
  have k3 := ST.xc
  rw [ho] at k0
  clear ho
  have ra := isReg_iff.1 HA.out
  have rb := isReg_iff.1 HB.out
  have rc := isReg_iff.1 HC.out
  have ra0 := ra.1
  have ra1 := ra.2
  have rb0 := rb.1
  have rb1 := rb.2
  have rc0 := rc.1
  have rc1 := rc.2
  have HR : Hid (Cp.loaded c x.a v = Cp.stored (Cp.put c x.a v)) := hide (by unfold Cp.loaded; rw [HA.out]; rfl)
  go_enter Try.func33, Try.ntmps33
  go_wp2_with (first | (go_at_call 32; refine (register_any _ _).mono ?_; rintro e v ⟨rfl, hvv⟩; rw [hvv, HA.out]; clear hvv v) | (go_at_call 32; refine (register_any _ _).mono ?_; rintro e v ⟨rfl, hvv⟩; rw [hvv, HB.out]; clear hvv v) | (go_at_call 32; refine (register_any _ _).mono ?_; rintro e v ⟨rfl, hvv⟩; rw [hvv, HC.out]; clear hvv v) | (refine load_cpu rfl _ rfl rfl ST.o0 h8 ?_) | fail)
  refine region_B (by kernel_rfl) (w.heap.size + 2) ?_
  replace ST := ST.drew
  replace SR := SR.drew
  replace k0 : w1.drew.cell? ⟨w.heap.size + 1, 0, none⟩ = some (.int .i64 5) := k0
  replace k1 : w1.drew.cell? ⟨w.heap.size + 1, 1, none⟩ = some (.int .i64 x.a) := k1
  generalize w1.drew = u at *
  have hus := ST.size
  clear hw k2 k3
  refine takeB 0 rfl (by kernel_rfl) (fun _ _ _ h => h) (by rfl) (by intro w' hg; go_simp; try with_reducible rfl) ?_
  refine takeB 1 rfl (by kernel_rfl) (fun _ _ _ h => h) (by rfl) (by intro w' hg; have g1 := (ST.next hg).xb; go_simp; try with_reducible rfl) ?_
  refine takeB 2 rfl (by kernel_rfl) (fun _ _ _ h => h) (by rfl) (by intro w' hg; go_simp; try with_reducible rfl) ?_
  refine takeB 3 rfl (by kernel_rfl) (fun _ _ _ h => h) (by rfl) (by intro w' hg; go_simp; try with_reducible rfl) ?_
  refine takeB 4 rfl (by kernel_rfl) (fun _ _ _ h => h) (by rfl) (by intro w' hg; have g1 := (ST.next hg).reg h8 rb; go_simp; try with_reducible rfl) ?_
  refine takeB 5 rfl (by kernel_rfl) (fun _ _ _ h => h) (by rfl) (by intro w' hg; go_simp; try with_reducible rfl) ?_
  refine takeB 6 rfl (by kernel_rfl) (fun _ _ _ h => h) (by rfl) (by intro w' hg; have g1 := (ST.next hg).xc; go_simp; try with_reducible rfl) ?_
  refine takeB 7 rfl (by kernel_rfl) (fun _ _ _ h => h) (by rfl) (by intro w' hg; go_simp; try with_reducible rfl) ?_
  refine takeB 8 rfl (by kernel_rfl) (fun _ _ _ h => h) (by rfl) (by intro w' hg; go_simp; try with_reducible rfl) ?_
  refine takeB 9 rfl (by kernel_rfl) (fun _ _ _ h => h) (by rfl) (by intro w' hg; have g1 := (ST.next hg).reg h8 rc; go_simp; try with_reducible rfl) ?_
  refine takeB 10 rfl (by kernel_rfl) (fun _ _ _ h => h) (by rfl) (by intro w' hg; go_simp; try with_reducible rfl) ?_
  refine takeB 11 rfl (by kernel_rfl) (fun _ _ _ h => h) (by rfl) (by intro w' hg; go_simp; try with_reducible rfl) ?_
  refine doneB (by kernel_rfl) ?_
  go_simp
  obtain ⟨vb, hvb⟩ : ∃ v, Cp.get c x.b = v := ⟨_, rfl⟩
  obtain ⟨vc, hvc⟩ : ∃ v, Cp.get c x.c = v := ⟨_, rfl⟩
  rw [hvb, hvc]
  have hv := HV0.out
  rw [hvb, hvc] at hv
  have q1 := ST.reg h8 ra
  have z1 := ST.o0.free (1 + x.a.toNat)
  have O2 := ST.o0.put (1 + x.a.toNat) (.int .i64 v)
  rw [cc_put] at O2
  have P1 := SR.o1.put_other (b' := w.heap.size) (by omega) (1 + x.a.toNat) (.int .i64 v)
  have P2 := SR.o2.put_other (b' := w.heap.size) (by omega) (1 + x.a.toNat) (.int .i64 v)
  have hb2 := ST.bel.setCell (p := ⟨w.heap.size, 1 + x.a.toNat, none⟩) (Nat.le_refl _) (.int .i64 v)
  have h8' : (Cp.put c x.a v).regs.length = 8 := by simp [Cp.put, h8]
  obtain ⟨w5, hw5⟩ : ∃ w5, u.setCell ⟨w.heap.size, 1 + x.a.toNat, none⟩ (.int .i64 v) = w5 := ⟨_, rfl⟩
  rw [hw5] at O2 P1 P2 hb2
  clear hvb hvc ST SR hus ra rb rc
  go_wp2_with (first | (refine load_cpu rfl _ rfl rfl O2 h8' ?_) | fail)
  refine (storedR_any _ h8' _).mono ?_
  rintro e u1 ⟨rfl, hb1⟩
  obtain ⟨E0, E1, E2, hbe⟩ := ends_2 (g := w.heap.size + 2) (P1.below hb1 P1.lt) (P2.below hb1 P2.lt) (hb2.trans (hb1.mono hb2.size)) (by omega) (Cp.stored (Cp.put c x.a v)) Cp.done
  have O1 := P1.below hb1 P1.lt
  clear hb1 P1 P2 O2 hb2 hw5 q1 z1 hv
  go_wp2_with (first | (refine store_cpu rfl _ _ rfl rfl (c := Cp.stored (Cp.put c x.a v)) rfl O1 rfl h8' ?_) | (refine store_act rfl _ _ rfl rfl (c := Cp.done) rfl E1 rfl rfl ?_) | fail)
  refine bodyPost_ret (ret_two rfl _ rfl E0 h8' rfl E2 rfl) rfl ?_
  rw [HR.out]
  exact ⟨rfl, hbe⟩
set_option maxRecDepth 100000 in
set_option maxHeartbeats 8000000 in
theorem three_6 (c : Cp.Cpu) (x : Cd.Ins) (h8 : c.regs.length = 8) (ho : x.op = 6) (HA : Hid (Cp.isReg x.a = true)) (HB : Hid (Cp.isReg x.b = true)) (HC : Hid (Cp.isReg x.c = true)) (v : Int) (HV0 : Hid ((if Cp.get c x.b < Cp.get c x.c then 1 else 0) = v)) (w : World) : Calls Try.prog 33 #[.agg (cc c), .agg #[.int .i64 x.op, .int .i64 x.a, .int .i64 x.b, .int .i64 x.c]] w (TwoPost (Cp.loaded c x.a v, Cp.done) w) := by
  obtain ⟨w1, hw, ST, SR⟩ := start_b w c x
  have k0 := ST.xo
  have k1 := ST.xa
  have k2 := ST.xb
  have k3 := ST.xc
  rw [ho] at k0
  clear ho
  have ra := isReg_iff.1 HA.out
  have rb := isReg_iff.1 HB.out
  have rc := isReg_iff.1 HC.out
  have ra0 := ra.1
  have ra1 := ra.2
  have rb0 := rb.1
  have rb1 := rb.2
  have rc0 := rc.1
  have rc1 := rc.2
  have HR : Hid (Cp.loaded c x.a v = Cp.stored (Cp.put c x.a v)) := hide (by unfold Cp.loaded; rw [HA.out]; rfl)
  go_enter Try.func33, Try.ntmps33
  go_wp2_with (first | (go_at_call 32; refine (register_any _ _).mono ?_; rintro e v ⟨rfl, hvv⟩; rw [hvv, HA.out]; clear hvv v) | (go_at_call 32; refine (register_any _ _).mono ?_; rintro e v ⟨rfl, hvv⟩; rw [hvv, HB.out]; clear hvv v) | (go_at_call 32; refine (register_any _ _).mono ?_; rintro e v ⟨rfl, hvv⟩; rw [hvv, HC.out]; clear hvv v) | (refine load_cpu rfl _ rfl rfl ST.o0 h8 ?_) | fail)
  refine region_B (by kernel_rfl) (w.heap.size + 2) ?_
  replace ST := ST.drew
  replace SR := SR.drew
  replace k0 : w1.drew.cell? ⟨w.heap.size + 1, 0, none⟩ = some (.int .i64 6) := k0
  replace k1 : w1.drew.cell? ⟨w.heap.size + 1, 1, none⟩ = some (.int .i64 x.a) := k1
  generalize w1.drew = u at *
  have hus := ST.size
  clear hw k2 k3
  refine takeB 0 rfl (by kernel_rfl) (fun _ _ _ h => h) (by rfl) (by intro w' hg; go_simp; try with_reducible rfl) ?_
  refine takeB 1 rfl (by kernel_rfl) (fun _ _ _ h => h) (by rfl) (by intro w' hg; have g1 := (ST.next hg).xb; go_simp; try with_reducible rfl) ?_
  refine takeB 2 rfl (by kernel_rfl) (fun _ _ _ h => h) (by rfl) (by intro w' hg; go_simp; try with_reducible rfl) ?_
  refine takeB 3 rfl (by kernel_rfl) (fun _ _ _ h => h) (by rfl) (by intro w' hg; go_simp; try with_reducible rfl) ?_
  refine takeB 4 rfl (by kernel_rfl) (fun _ _ _ h => h) (by rfl) (by intro w' hg; have g1 := (ST.next hg).reg h8 rb; go_simp; try with_reducible rfl) ?_
  refine takeB 5 rfl (by kernel_rfl) (fun _ _ _ h => h) (by rfl) (by intro w' hg; go_simp; try with_reducible rfl) ?_
  refine takeB 6 rfl (by kernel_rfl) (fun _ _ _ h => h) (by rfl) (by intro w' hg; have g1 := (ST.next hg).xc; go_simp; try with_reducible rfl) ?_
  refine takeB 7 rfl (by kernel_rfl) (fun _ _ _ h => h) (by rfl) (by intro w' hg; go_simp; try with_reducible rfl) ?_
  refine takeB 8 rfl (by kernel_rfl) (fun _ _ _ h => h) (by rfl) (by intro w' hg; go_simp; try with_reducible rfl) ?_
  refine takeB 9 rfl (by kernel_rfl) (fun _ _ _ h => h) (by rfl) (by intro w' hg; have g1 := (ST.next hg).reg h8 rc; go_simp; try with_reducible rfl) ?_
  refine takeB 10 rfl (by kernel_rfl) (fun _ _ _ h => h) (by rfl) (by intro w' hg; go_simp; try with_reducible rfl) ?_
  refine takeB 11 rfl (by kernel_rfl) (fun _ _ _ h => h) (by rfl) (by intro w' hg; go_simp; try with_reducible rfl) ?_
  refine doneB (by kernel_rfl) ?_
  go_simp
  obtain ⟨vb, hvb⟩ : ∃ v, Cp.get c x.b = v := ⟨_, rfl⟩
  obtain ⟨vc, hvc⟩ : ∃ v, Cp.get c x.c = v := ⟨_, rfl⟩
  rw [hvb, hvc]
  have hv := HV0.out
  rw [hvb, hvc] at hv
  have q1 := ST.reg h8 ra
  have z1 := ST.o0.free (1 + x.a.toNat)
  have O2 := ST.o0.put (1 + x.a.toNat) (.int .i64 v)
  rw [cc_put] at O2
  have P1 := SR.o1.put_other (b' := w.heap.size) (by omega) (1 + x.a.toNat) (.int .i64 v)
  have P2 := SR.o2.put_other (b' := w.heap.size) (by omega) (1 + x.a.toNat) (.int .i64 v)
  have hb2 := ST.bel.setCell (p := ⟨w.heap.size, 1 + x.a.toNat, none⟩) (Nat.le_refl _) (.int .i64 v)
  have h8' : (Cp.put c x.a v).regs.length = 8 := by simp [Cp.put, h8]
  obtain ⟨w5, hw5⟩ : ∃ w5, u.setCell ⟨w.heap.size, 1 + x.a.toNat, none⟩ (.int .i64 v) = w5 := ⟨_, rfl⟩
  rw [hw5] at O2 P1 P2 hb2
  clear hvb hvc ST SR hus ra rb rc
  have HV := hide hv
  clear hv
  go_wp2_with (first | (go_at_call 54; refine (truthR_any _ _).mono ?_; rintro e uu ⟨rfl, rfl⟩; simp only [decide_eq_true_eq]; rw [HV.out]) | (refine load_cpu rfl _ rfl rfl O2 h8' ?_) | fail)
  refine (storedR_any _ h8' _).mono ?_
  rintro e u1 ⟨rfl, hb1⟩
  obtain ⟨E0, E1, E2, hbe⟩ := ends_2 (g := w.heap.size + 2) (P1.below hb1 P1.lt) (P2.below hb1 P2.lt) (hb2.trans (hb1.mono hb2.size)) (by omega) (Cp.stored (Cp.put c x.a v)) Cp.done
  have O1 := P1.below hb1 P1.lt
  clear hb1 P1 P2 O2 hb2 hw5 q1 z1
  go_wp2_with (first | (refine store_cpu rfl _ _ rfl rfl (c := Cp.stored (Cp.put c x.a v)) rfl O1 rfl h8' ?_) | (refine store_act rfl _ _ rfl rfl (c := Cp.done) rfl E1 rfl rfl ?_) | fail)
  refine bodyPost_ret (ret_two rfl _ rfl E0 h8' rfl E2 rfl) rfl ?_
  rw [HR.out]
  exact ⟨rfl, hbe⟩
set_option maxRecDepth 100000 in
set_option maxHeartbeats 8000000 in
theorem three_7 (c : Cp.Cpu) (x : Cd.Ins) (h8 : c.regs.length = 8) (ho : x.op = 7) (HA : Hid (Cp.isReg x.a = true)) (HB : Hid (Cp.isReg x.b = true)) (HC : Hid (Cp.isReg x.c = true)) (v : Int) (HV0 : Hid ((if Cp.get c x.b = Cp.get c x.c then 1 else 0) = v)) (w : World) : Calls Try.prog 33 #[.agg (cc c), .agg #[.int .i64 x.op, .int .i64 x.a, .int .i64 x.b, .int .i64 x.c]] w (TwoPost (Cp.loaded c x.a v, Cp.done) w) := by
  obtain ⟨w1, hw, ST, SR⟩ := start_b w c x
  have k0 := ST.xo
  have k1 := ST.xa
  have k2 := ST.xb
  have k3 := ST.xc
  rw [ho] at k0
  clear ho
  have ra := isReg_iff.1 HA.out
  have rb := isReg_iff.1 HB.out
  have rc := isReg_iff.1 HC.out
  have ra0 := ra.1
  have ra1 := ra.2
  have rb0 := rb.1
  have rb1 := rb.2
  have rc0 := rc.1
  have rc1 := rc.2
  have HR : Hid (Cp.loaded c x.a v = Cp.stored (Cp.put c x.a v)) := hide (by unfold Cp.loaded; rw [HA.out]; rfl)
  go_enter Try.func33, Try.ntmps33
  go_wp2_with (first | (go_at_call 32; refine (register_any _ _).mono ?_; rintro e v ⟨rfl, hvv⟩; rw [hvv, HA.out]; clear hvv v) | (go_at_call 32; refine (register_any _ _).mono ?_; rintro e v ⟨rfl, hvv⟩; rw [hvv, HB.out]; clear hvv v) | (go_at_call 32; refine (register_any _ _).mono ?_; rintro e v ⟨rfl, hvv⟩; rw [hvv, HC.out]; clear hvv v) | (refine load_cpu rfl _ rfl rfl ST.o0 h8 ?_) | fail)
  refine region_B (by kernel_rfl) (w.heap.size + 2) ?_
  replace ST := ST.drew
  replace SR := SR.drew
  replace k0 : w1.drew.cell? ⟨w.heap.size + 1, 0, none⟩ = some (.int .i64 7) := k0
  replace k1 : w1.drew.cell? ⟨w.heap.size + 1, 1, none⟩ = some (.int .i64 x.a) := k1
  generalize w1.drew = u at *
  have hus := ST.size
  clear hw k2 k3
  refine takeB 0 rfl (by kernel_rfl) (fun _ _ _ h => h) (by rfl) (by intro w' hg; go_simp; try with_reducible rfl) ?_
  refine takeB 1 rfl (by kernel_rfl) (fun _ _ _ h => h) (by rfl) (by intro w' hg; have g1 := (ST.next hg).xb; go_simp; try with_reducible rfl) ?_
  refine takeB 2 rfl (by kernel_rfl) (fun _ _ _ h => h) (by rfl) (by intro w' hg; go_simp; try with_reducible rfl) ?_
  refine takeB 3 rfl (by kernel_rfl) (fun _ _ _ h => h) (by rfl) (by intro w' hg; go_simp; try with_reducible rfl) ?_
  refine takeB 4 rfl (by kernel_rfl) (fun _ _ _ h => h) (by rfl) (by intro w' hg; have g1 := (ST.next hg).reg h8 rb; go_simp; try with_reducible rfl) ?_
  refine takeB 5 rfl (by kernel_rfl) (fun _ _ _ h => h) (by rfl) (by intro w' hg; go_simp; try with_reducible rfl) ?_
  refine takeB 6 rfl (by kernel_rfl) (fun _ _ _ h => h) (by rfl) (by intro w' hg; have g1 := (ST.next hg).xc; go_simp; try with_reducible rfl) ?_
  refine takeB 7 rfl (by kernel_rfl) (fun _ _ _ h => h) (by rfl) (by intro w' hg; go_simp; try with_reducible rfl) ?_
  refine takeB 8 rfl (by kernel_rfl) (fun _ _ _ h => h) (by rfl) (by intro w' hg; go_simp; try with_reducible rfl) ?_
  refine takeB 9 rfl (by kernel_rfl) (fun _ _ _ h => h) (by rfl) (by intro w' hg; have g1 := (ST.next hg).reg h8 rc; go_simp; try with_reducible rfl) ?_
  refine takeB 10 rfl (by kernel_rfl) (fun _ _ _ h => h) (by rfl) (by intro w' hg; go_simp; try with_reducible rfl) ?_
  refine takeB 11 rfl (by kernel_rfl) (fun _ _ _ h => h) (by rfl) (by intro w' hg; go_simp; try with_reducible rfl) ?_
  refine doneB (by kernel_rfl) ?_
  go_simp
  obtain ⟨vb, hvb⟩ : ∃ v, Cp.get c x.b = v := ⟨_, rfl⟩
  obtain ⟨vc, hvc⟩ : ∃ v, Cp.get c x.c = v := ⟨_, rfl⟩
  rw [hvb, hvc]
  have hv := HV0.out
  rw [hvb, hvc] at hv
  have q1 := ST.reg h8 ra
  have z1 := ST.o0.free (1 + x.a.toNat)
  have O2 := ST.o0.put (1 + x.a.toNat) (.int .i64 v)
  rw [cc_put] at O2
  have P1 := SR.o1.put_other (b' := w.heap.size) (by omega) (1 + x.a.toNat) (.int .i64 v)
  have P2 := SR.o2.put_other (b' := w.heap.size) (by omega) (1 + x.a.toNat) (.int .i64 v)
  have hb2 := ST.bel.setCell (p := ⟨w.heap.size, 1 + x.a.toNat, none⟩) (Nat.le_refl _) (.int .i64 v)
  have h8' : (Cp.put c x.a v).regs.length = 8 := by simp [Cp.put, h8]
  obtain ⟨w5, hw5⟩ : ∃ w5, u.setCell ⟨w.heap.size, 1 + x.a.toNat, none⟩ (.int .i64 v) = w5 := ⟨_, rfl⟩
  rw [hw5] at O2 P1 P2 hb2
  clear hvb hvc ST SR hus ra rb rc
  have HV := hide hv
  clear hv
  go_wp2_with (first | (go_at_call 54; refine (truthR_any _ _).mono ?_; rintro e uu ⟨rfl, rfl⟩; simp only [beq_iff_eq]; rw [HV.out]) | (refine load_cpu rfl _ rfl rfl O2 h8' ?_) | fail)
  refine (storedR_any _ h8' _).mono ?_
  rintro e u1 ⟨rfl, hb1⟩
  obtain ⟨E0, E1, E2, hbe⟩ := ends_2 (g := w.heap.size + 2) (P1.below hb1 P1.lt) (P2.below hb1 P2.lt) (hb2.trans (hb1.mono hb2.size)) (by omega) (Cp.stored (Cp.put c x.a v)) Cp.done
  have O1 := P1.below hb1 P1.lt
  clear hb1 P1 P2 O2 hb2 hw5 q1 z1
  go_wp2_with (first | (refine store_cpu rfl _ _ rfl rfl (c := Cp.stored (Cp.put c x.a v)) rfl O1 rfl h8' ?_) | (refine store_act rfl _ _ rfl rfl (c := Cp.done) rfl E1 rfl rfl ?_) | fail)
  refine bodyPost_ret (ret_two rfl _ rfl E0 h8' rfl E2 rfl) rfl ?_
  rw [HR.out]
  exact ⟨rfl, hbe⟩
theorem exec_three {c : Cp.Cpu} {x : Cd.Ins} (h : 3 ≤ x.op ∧ x.op ≤ 7) : Cp.exec c x = if Cp.isReg x.a && (Cp.isReg x.b && Cp.isReg x.c) then (Cp.loaded c x.a (Cp.two x.op (Cp.get c x.b) (Cp.get c x.c)), Cp.done) else (c, Cp.fault) := by
  unfold Cp.exec
  rw [if_neg (by omega), if_neg (by omega), if_neg (by omega), if_pos h]
theorem three_any (c : Cp.Cpu) (x : Cd.Ins) (h8 : c.regs.length = 8) (h : 3 ≤ x.op ∧ x.op ≤ 7) (w : World) : Calls Try.prog 33 #[.agg (cc c), .agg #[.int .i64 x.op, .int .i64 x.a, .int .i64 x.b, .int .i64 x.c]] w (TwoPost (Cp.exec c x) w) := by
  rw [exec_three h]
  cases ha : Cp.isReg x.a with
  | false => exact three_a c x h8 (hide ha) w
  | true =>
    cases hb : Cp.isReg x.b with
    | false => exact three_b c x h8 (hide ha) (hide hb) w
    | true =>
      cases hc : Cp.isReg x.c with
      | false => exact three_c c x h8 (hide ha) (hide hb) (hide hc) w
      | true =>
        rw [if_pos (show (true && (true && true)) = true from rfl)]
        rcases (show x.op = 3 ∨ x.op = 4 ∨ x.op = 5 ∨ x.op = 6 ∨ x.op = 7 by omega) with ho | ho | ho | ho | ho
        · exact three_3 c x h8 ho (hide ha) (hide hb) (hide hc) _ (hide (by unfold Cp.two; simp [ho])) w
        · exact three_4 c x h8 ho (hide ha) (hide hb) (hide hc) _ (hide (by unfold Cp.two; simp [ho])) w
        · exact three_5 c x h8 ho (hide ha) (hide hb) (hide hc) _ (hide (by unfold Cp.two; simp [ho])) w
        · exact three_6 c x h8 ho (hide ha) (hide hb) (hide hc) _ (hide (by unfold Cp.two; simp [ho])) w
        · exact three_7 c x h8 ho (hide ha) (hide hb) (hide hc) _ (hide (by unfold Cp.two; simp [ho])) w
end Go.Proofs.Ytkcegdnjgkideaa
