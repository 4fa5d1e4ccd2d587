/- Layer 5: what the laws share: one instruction alone, the sanity check. -/
import Derived.Test.YtkcegdnjgkideaaCpuNext
namespace Go.Proofs.Ytkcegdnjgkideaa
open Go.RowKit

/-- Two new blocks for what Next gave. -/
theorem start_out (u : World) : ∃ u', (u.alloc (.cells #[.int .i64 0, .int .i64 0, .int .i64 0, .int .i64 0, .int .i64 0, .int .i64 0, .int .i64 0, .int .i64 0, .int .i64 0] 24)).alloc (.cells #[.int .i64 0, .int .i64 0, .int .i64 0, .int .i64 0, .int .i64 0, .int .i64 0, .int .i64 0, .int .i64 0] 42) = u' ∧ (Obl u' u.heap.size 24 zc ∧ Obl u' (u.heap.size + 1) 42 za) ∧ Below u.heap.size u u' := by
  refine ⟨_, rfl, ⟨(Obl.make u 24 zc).alloc _, ?_⟩, ((Below.refl _ _).alloc (Nat.le_refl _) _).alloc (by simp) _⟩
  have := Obl.make (u.alloc (.cells zc 24)) 42 za
  rwa [World.size_alloc] at this
/-- .. and both laid there. -/
theorem out_2 {u u' : World} (h : Obl u' u.heap.size 24 zc) (h' : Obl u' (u.heap.size + 1) 42 za) (hb : Below u.heap.size u u') (c : Cp.Cpu) (x : Cp.Act) :
    Obl ((u'.setRow u.heap.size (cc c)).setRow (u.heap.size + 1) (ac x)) u.heap.size 24 (cc c) ∧ Obl (u'.setRow u.heap.size (cc c)) (u.heap.size + 1) 42 za ∧ Obl ((u'.setRow u.heap.size (cc c)).setRow (u.heap.size + 1) (ac x)) (u.heap.size + 1) 42 (ac x) ∧ Below u.heap.size u ((u'.setRow u.heap.size (cc c)).setRow (u.heap.size + 1) (ac x)) :=
  ends_2 h h' hb (Nat.le_refl _) c x
/-- One instruction in a slice of its own. -/
theorem start_one (u : World) (x : Cd.Ins) : ∃ u', u.alloc (.cells #[.int .i64 x.op, .int .i64 x.a, .int .i64 x.b, .int .i64 x.c] 31) = u' ∧ Inss u' u'.heap.size (some ⟨u.heap.size, 0, none⟩) 1 [x] ∧ Below u.heap.size u u' ∧ u.heap.size < u'.heap.size := by
  refine ⟨_, rfl, ⟨rfl, ?_⟩, (Below.refl _ _).alloc (Nat.le_refl _) _, by simp⟩
  have := Row.four u x 31
  rw [World.size_alloc]
  exact this
theorem next_fit (c : Cp.Cpu) (code : List Cd.Ins) (h8 : c.regs.length = 8) : (Cp.next c code).1.regs.length = 8 ∧ (Cp.next c code).2.args.length = 3 := by
  unfold Cp.next
  split
  · exact exec_fit c _ h8
  · exact ⟨h8, rfl⟩

/-- What carries out one instruction, from place 0. -/
def aft (c : Cp.Cpu) (x : Cd.Ins) : Cp.Cpu := (Cp.next ⟨0, c.regs⟩ [x]).1
theorem aft_8 {c : Cp.Cpu} (h : c.regs.length = 8) (x : Cd.Ins) : (aft c x).regs.length = 8 := (next_fit ⟨0, c.regs⟩ [x] h).1
set_option maxRecDepth 100000 in
set_option maxHeartbeats 2000000 in
theorem after_any (c : Cp.Cpu) (x : Cd.Ins) (h8 : c.regs.length = 8) (h64 : Cd.in64 x) (w : World) : Calls Try.prog 23 #[.agg (cc c), .agg #[.int .i64 x.op, .int .i64 x.a, .int .i64 x.b, .int .i64 x.c]] w (CpuPost (aft c x) w) := by
  obtain ⟨w0, hw0, ST0⟩ := start_a w c x
  obtain ⟨w1, hw1, O1, hb1, hs1⟩ : ∃ w1, w0.alloc (.cells #[.int .i64 0, .int .i64 0, .int .i64 0, .int .i64 0, .int .i64 0, .int .i64 0, .int .i64 0, .int .i64 0, .int .i64 0] 24) = w1 ∧ Obl w1 w0.heap.size 24 zc ∧ Below w0.heap.size w0 w1 ∧ w0.heap.size < w1.heap.size := ⟨_, rfl, Obl.make w0 24 zc, (Below.refl _ _).alloc (Nat.le_refl _) _, by simp⟩
  have hs0 : w0.heap.size = w.heap.size + 2 := by rw [← hw0]; simp
  rw [hs0] at O1 hs1
  have ST := ST0.next (ST0.later hb1)
  have z0 := ST.o0.free 0
  have k0 := cc_pc ST.o0
  have O0 := ST.o0.put 0 (.int .i64 0)
  rw [cc_putpc] at O0
  have OI := ST.oi.put_other (b' := w.heap.size) (by omega) 0 (.int .i64 0)
  have O2 := O1.put_other (b' := w.heap.size) (by omega) 0 (.int .i64 0)
  have hb2 := ST.bel.setCell (p := ⟨w.heap.size, 0, none⟩) (Nat.le_refl _) (.int .i64 0)
  obtain ⟨u2, hu2, hI, hb3, _⟩ := start_one (w1.setCell ⟨w.heap.size, 0, none⟩ (.int .i64 0)) x
  have hs2 : (w1.setCell ⟨w.heap.size, 0, none⟩ (.int .i64 0)).heap.size = w1.heap.size := by simp [World.setCell]
  have hN := next_fit ⟨0, c.regs⟩ [x] h8
  have hI2 := hide hI
  have O2' := O2.below hb3 O2.lt
  have HB3 := hide (hb2.trans (hb3.mono hb2.size))
  clear hI O1 hb1 ST ST0 hb2 hb3 O2
  rw [hs2] at hI2
  clear hs2
  go_enter Try.func23, Try.ntmps23
  go_wp2_with (first | (refine load_cpu rfl _ rfl rfl O0 h8 ?_) | (refine load_ins rfl _ rfl rfl OI ?_) | fail)
  refine (next_any ⟨0, c.regs⟩ h8 [x] (some ⟨w1.heap.size, 0, none⟩) none 1 1 0 0 0 u2.heap.size u2 hI2.out (Nat.le_refl _) (by simpa using h64)).mono ?_
  rintro e u3 ⟨rfl, hb4⟩
  have HA : Hid (aft c x = (Cp.next ⟨0, c.regs⟩ [x]).1) := hide rfl
  generalize Cp.next ⟨0, c.regs⟩ [x] = r at *
  obtain ⟨y, z⟩ := r
  have hy := hN.1
  have hz := hN.2
  simp only at hy hz
  obtain ⟨u4, hu4, ⟨Oa, Ob⟩, hb5⟩ := start_out u3
  obtain ⟨E0, E1, E2, hbe⟩ := out_2 Oa Ob hb5 y z
  have O5 := (O2'.below hb4 O2'.lt).below hbe (by have := (O2'.below hb4 O2'.lt).lt; exact this)
  have hlt3 := (O2'.below hb4 O2'.lt).lt
  have HBF := hide (below_row (HB3.out.trans ((hb4.trans (hbe.mono hb4.size)).mono HB3.out.size)) (g := w.heap.size + 2) (by omega) (cc y))
  have HO5 := hide O5
  clear hb4 hN hI2 O2' HB3 hu2 O0 OI z0 k0 hbe hw0 hw1 hb5 O5 E2
  go_wp2_with (first | (refine store_cpu rfl _ _ rfl rfl (c := y) rfl Oa rfl hy ?_) | (refine store_act rfl _ _ rfl rfl (c := z) rfl E1 rfl hz ?_) | (refine load_cpu rfl _ rfl rfl E0 hy ?_) | (refine store_cpu rfl _ _ rfl rfl (c := y) rfl HO5.out rfl hy ?_) | fail)
  refine bodyPost_ret (ret_cpu rfl _ rfl (HO5.out.row_same _) hy) rfl ?_
  rw [HA.out]
  exact ⟨rfl, HBF.out⟩

theorem field_pc (u : World) (p a b c d e f g h : Value) : (Instr.field 24 (.agg #[p, a, b, c, d, e, f, g, h]) 0).run Try.prog u = .ok p u := by kernel_rfl
def sc0 : Cp.Cpu := ⟨0, [0, 3, 4, 0, 0, 0, 0, 0]⟩
def sc1 : Cp.Cpu := ⟨1, [7, 3, 4, 0, 0, 0, 0, 0]⟩
def sx : Cd.Ins := ⟨3, 0, 1, 2⟩
theorem sane_1 : Cp.next sc0 [sx] = (sc1, Cp.done) := by kernel_rfl
theorem sane_2 : Cp.next sc1 [] = (sc1, Cp.fault) := by kernel_rfl
theorem built_regs : Try.prog.built 22 [(0, .int .i64 0), (1, .int .i64 3), (2, .int .i64 4)] = some #[.int .i64 0, .int .i64 3, .int .i64 4, .int .i64 0, .int .i64 0, .int .i64 0, .int .i64 0, .int .i64 0] := by kernel_rfl
set_option maxRecDepth 100000 in
set_option maxHeartbeats 2000000 in
theorem sane_any (w : World) : Calls Try.prog 8 #[] w fun e w' => e = .returned (.bool true) ∧ Below w.heap.size w w' := by
  obtain ⟨w1, hw1, O1, hb1⟩ : ∃ w1, w.alloc (.cells #[.int .i64 0, .int .i64 0, .int .i64 0, .int .i64 0, .int .i64 0, .int .i64 0, .int .i64 0, .int .i64 0, .int .i64 0] 24) = w1 ∧ Obl w1 w.heap.size 24 zc ∧ Below w.heap.size w w1 := ⟨_, rfl, Obl.make w 24 zc, (Below.refl _ _).alloc (Nat.le_refl _) _⟩
  have O2 := O1.row_same (cc sc0)
  have hb2 := below_row hb1 (Nat.le_refl _) (cc sc0)
  obtain ⟨w2, hw2⟩ : ∃ w2, w1.setRow w.heap.size (cc sc0) = w2 := ⟨_, rfl⟩
  rw [hw2] at O2 hb2
  obtain ⟨u2, hu2, hI, hb3, _⟩ := start_one w2 sx
  have O3 := hide (O2.below hb3 O2.lt)
  have HB3 := hide (hb2.trans (hb3.mono hb2.size))
  simp only [sx] at hu2
  have hI2 := hide hI
  clear hb1 hb2 hb3 hI
  go_enter Try.func8, Try.ntmps8
  go_wp2_with (first | (refine store_cpu rfl _ _ rfl rfl (c := sc0) rfl O1 rfl rfl ?_; rw [hw2]) | (refine load_cpu rfl _ rfl rfl O2 rfl ?_) | fail)
  refine (next_any sc0 rfl [sx] (some ⟨w2.heap.size, 0, none⟩) none 1 1 0 0 0 u2.heap.size u2 hI2.out (Nat.le_refl _) (by simp [sx, Cd.in64])).mono ?_
  rintro e u3 h
  rw [sane_1] at h
  obtain ⟨rfl, hb4⟩ := h
  obtain ⟨u4, hu4, ⟨Oa, Ob⟩, hb5⟩ := start_out u3
  obtain ⟨E0, E1, E2, hbe⟩ := out_2 Oa Ob hb5 sc1 Cp.done
  have O5 := hide (((O3.out.below hb4 O3.out.lt)).below hbe (O3.out.below hb4 O3.out.lt).lt)
  have HB5 := hide (HB3.out.trans ((hb4.trans (hbe.mono hb4.size)).mono HB3.out.size))
  obtain ⟨w5, hw5⟩ : ∃ w5, (u4.setRow u3.heap.size (cc sc1)).setRow (u3.heap.size + 1) (ac Cp.done) = w5 := ⟨_, rfl⟩
  rw [hw5] at E0 E2 O5 HB5
  clear hb4 hbe hb5 O3 HB3 hI2 hu2 hw2 hw1 O1 O2
  go_wp2_with (first | (refine store_cpu rfl _ _ rfl rfl (c := sc1) rfl Oa rfl rfl ?_) | (refine store_act rfl _ _ rfl rfl (c := Cp.done) rfl E1 rfl rfl ?_; rw [hw5]) | (refine load_cpu rfl _ rfl rfl E0 rfl ?_) | fail)
  refine (next_any sc1 rfl [] none none 0 0 0 0 0 0 w5 Inss.nil (Nat.zero_le _) (by simp)).mono ?_
  rintro e u6 h
  rw [sane_2] at h
  obtain ⟨rfl, hb6⟩ := h
  obtain ⟨u7, hu7, ⟨Oc, Od⟩, hb7⟩ := start_out u6
  obtain ⟨F0, F1, F2, hbf⟩ := out_2 Oc Od hb7 sc1 Cp.fault
  have O7 := ((O5.out.below hb6 O5.out.lt)).below hbf (O5.out.below hb6 O5.out.lt).lt
  have G0 := (E0.below hb6 E0.lt).below hbf (E0.below hb6 E0.lt).lt
  have G2 := (E2.below hb6 E2.lt).below hbf (E2.below hb6 E2.lt).lt
  have HB7 := hide (HB5.out.trans ((hb6.trans (hbf.mono hb6.size)).mono HB5.out.size))
  obtain ⟨w8, hw8⟩ : ∃ w8, (u7.setRow u6.heap.size (cc sc1)).setRow (u6.heap.size + 1) (ac Cp.fault) = w8 := ⟨_, rfl⟩
  rw [hw8] at F0 F2 O7 G0 G2 HB7
  have k0 := G0.cell 0
  have k1 := G0.cell 1
  have k2 := G2.cell 0
  have k3 := F2.cell 0
  have d0 := O7.cell 0
  have d1 := O7.cell 1
  have d2 := O7.cell 2
  have d3 := O7.cell 3
  have d4 := O7.cell 4
  have d5 := O7.cell 5
  have d6 := O7.cell 6
  have d7 := O7.cell 7
  have d8 := O7.cell 8
  simp [cc, ac, nv, sc1, Cp.done, Cp.fault] at k0 k1 k2 k3
  simp [cc, nv, sc0] at d0 d1 d2 d3 d4 d5 d6 d7 d8
  have hst : ca (Cp.stored sc0) = .agg #[.int .i64 1, .int .i64 0, .int .i64 3, .int .i64 4, .int .i64 0, .int .i64 0, .int .i64 0, .int .i64 0, .int .i64 0] := by kernel_rfl
  have HS := hide hst
  have hfd := field_pc
  clear hb6 hbf hb7 O5 HB5 hw5 hu4 Oa Ob E0 E1 E2 G0 G2 F0 F2 hst
  go_wp2_with (first | (refine store_cpu rfl _ _ rfl rfl (c := sc1) rfl Oc rfl rfl ?_) | (refine store_act rfl _ _ rfl rfl (c := Cp.fault) rfl F1 rfl rfl ?_; rw [hw8]) | (refine load_cpu rfl _ rfl rfl O7 rfl ?_) | (go_at_call 17; refine (stored_any sc0 rfl _).mono ?_; rintro e w9 ⟨rfl, hb9⟩; rw [HS.out]) | fail)
  go_ret
  exact ⟨rfl, HB7.out.trans (hb9.mono HB7.out.size)⟩
end Go.Proofs.Ytkcegdnjgkideaa
