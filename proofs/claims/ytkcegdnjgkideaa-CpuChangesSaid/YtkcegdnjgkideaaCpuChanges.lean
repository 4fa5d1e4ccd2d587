/- Layer 5: an instruction changes at most one register and the place (CpuChanges): the walk. -/
import Derived.Test.YtkcegdnjgkideaaCpuLaw
import Derived.Test.YtkcegdnjgkideaaEql
import Derived.Test.YtkcegdnjgkideaaMadeProg
import Derived.Test.YtkcegdnjgkideaaRegionX
namespace Go.Proofs.Ytkcegdnjgkideaa
open Go.RowKit

theorem CodeMade.good64 {l : List Cd.Ins} (h : CodeMade l) : ∀ x ∈ l, Cd.in64 x := fun x hx => (h x hx).2.1
/-- A right program faults just behind its last instruction. -/
theorem next_kind {c : Cp.Cpu} {code : List Cd.Ins} (h : CodeMade code) (hp : 0 ≤ c.pc ∧ c.pc ≤ (code.length : Int)) : decide ((Cp.next c code).2.kind = 4) = decide (c.pc = (code.length : Int)) := by
  by_cases hl : c.pc < (code.length : Int)
  · obtain ⟨k, hk⟩ := Int.eq_ofNat_of_zero_le hp.1
    have hkl : k < code.length := by omega
    rw [Cp.next_at hkl hk]
    have h1 := Cp.exec_right ((h _ (List.getElem_mem hkl)).1 code.length (Nat.le_refl _)) c
    rw [decide_eq_false h1, decide_eq_false (by omega)]
  · rw [Cp.next_out (by omega), decide_eq_true (show Cp.fault.kind = 4 from rfl), decide_eq_true (by omega)]

set_option maxRecDepth 100000 in
set_option maxHeartbeats 8000000 in
theorem cpuChanges_any (c : Cp.Cpu) (h8 : c.regs.length = 8) (S : Option Addr) (q r : Nat) (l : List UInt8) (t : Nat) (ht : t < 256) (W : World) (h : Bytes W W.heap.size S q l) (hq : q ≤ r ∧ r ≤ 9223372036854775807) :
    Calls Try.prog 5 #[.agg (cc c), .slice S q r, .int .u8 t] W fun e w' => e = .returned (.bool true) ∧ Below W.heap.size W w' := by
  obtain ⟨w1, hw, O0, hb1⟩ : ∃ w1, W.alloc (.cells (cc c) 24) = w1 ∧ Obl w1 W.heap.size 24 (cc c) ∧ Below W.heap.size W w1 := ⟨_, rfl, Obl.make W 24 (cc c), (Below.refl _ _).alloc (Nat.le_refl _) _⟩
  have HB1 := hide hb1
  have HS1 := hide (h.below hb1)
  clear hb1 h
  go_enter Try.func5, Try.ntmps5
  go_wp2_with fail
  refine (sane_any _).mono ?_
  rintro e w2 ⟨rfl, hb⟩
  have O2 := O0.below hb O0.lt
  have HB2 := hide (HB1.out.trans (hb.mono HB1.out.size))
  have HS2 := hide (HS1.out.belowLe hb HB1.out.size)
  have hl2 := O2.lt
  clear hb HB1 O0 hw HS1
  go_wp2_with fail
  refine (new_dice W.heap.size S q r l _ HS2.out (by omega) hq).mono ?_
  rintro e w3 ⟨rfl, hD, hb, hsz⟩
  have O3 := O2.below hb hl2
  have HB3 := hide (HB2.out.trans (hb.mono HB2.out.size))
  have HD3 := hide hD
  have hbW : W.heap.size ≠ w2.heap.size := by omega
  generalize w2.heap.size = b at *
  clear hb HB2 O2 HS2 hD
  go_wp2_with fail
  refine (program_dice b b _ HD3.out (by omega)).mono ?_
  rintro e w4 ⟨A, n, cp, D, m, d, p, rfl, hownA, hownD, ⟨hcm, hcl, hps, hpg⟩, hD, hB⟩
  obtain ⟨code, strs, pg⟩ := p
  simp only at hownA hownD hcm hcl hps hpg
  simp only [pa]
  have O4 := hB.obl' O3 hbW
  have HB4 := hide (HB3.out.trans (hB.below (C := W.heap.size) (by omega) (by omega)))
  have hnl := own_inss hownA
  have hl4 := O4.lt
  have HCM := hide hcm
  clear hD hB HD3 O3 HB3 hownD hps hcm
  obtain ⟨w5, hw5, OP5, O5, hown5, hb5⟩ : ∃ w5, w4.alloc (.cells #[.slice A n cp, .slice D m d, .int .i64 pg] 28) = w5 ∧ Obl w5 w4.heap.size 28 #[.slice A n cp, .slice D m d, .int .i64 pg] ∧ Obl w5 W.heap.size 24 (cc c) ∧
      w5.ownsRow w3.heap.size 31 4 (.slice A n cp) n (iv code) ∧ Below W.heap.size W w5 := ⟨_, rfl, Obl.make w4 _ _, O4.alloc _, hownA.alloc _, HB4.out.alloc (by omega) _⟩
  have hne : (Value.slice A n cp).ownBlock ≠ some W.heap.size := by rw [ownBlock_slice]; exact fun e => O5.apart hown5 (by decide) e.symm
  have hmod2 : ((t : Int)) % ((n : Int) + 1) = ((t % (n + 1) : Nat) : Int) := by rw [Int.natCast_emod, Int.natCast_add]; rfl
  have hmod : ((t : Int)).tmod ((n : Int) + 1) = ((t % (n + 1) : Nat) : Int) := by rw [Int.tmod_eq_emod_of_nonneg (by omega)]; exact hmod2
  have hpl : t % (n + 1) ≤ n := by have := Nat.mod_lt t (show 0 < n + 1 by omega); omega
  have z0 := O5.free 0
  have k0 := cc_pc O5
  have y0 := OP5.cell 0
  have y1 := OP5.cell 1
  have y2 := OP5.cell 2
  simp at y0 y1 y2
  clear hownA O4 HB4
  obtain ⟨gp, hgp⟩ : ∃ g, w4.heap.size = g := ⟨_, rfl⟩
  rw [hgp] at OP5 y0 y1 y2 hl4
  obtain ⟨pc, hpc⟩ : ∃ pc : Nat, t % (n + 1) = pc := ⟨_, rfl⟩
  rw [hpc] at hmod hmod2 hpl
  have O6 := O5.put 0 (.int .i64 pc)
  rw [cc_putpc] at O6
  have OP6 := OP5.put_other (b' := W.heap.size) (by omega) 0 (.int .i64 pc)
  have hown6 := ownsRow_setCell_other (a := ⟨W.heap.size, 0, none⟩) hown5 hne (.int .i64 pc)
  have hb6 := hb5.setCell (p := ⟨W.heap.size, 0, none⟩) (Nat.le_refl _) (.int .i64 pc)
  have hI6 := Inss.of_own hown6
  obtain ⟨w6, hw6⟩ : ∃ w6, w5.setCell ⟨W.heap.size, 0, none⟩ (.int .i64 pc) = w6 := ⟨_, rfl⟩
  rw [hw6] at O6 OP6 hb6 hI6
  have v0 := OP6.cell 0
  have v1 := OP6.cell 1
  have v2 := OP6.cell 2
  simp at v0 v1 v2
  clear hown6 hown5 OP5 O5 hb5 hne
  go_wp2_with (first | (refine load_cpu rfl _ rfl rfl O6 h8 ?_) | fail)
  refine (next_any ⟨pc, c.regs⟩ h8 code A D n cp m d pg w6.heap.size w6 hI6 (Nat.le_refl _) HCM.out.good64).mono ?_
  rintro e u3 ⟨rfl, hb4⟩
  have hfit := next_fit ⟨pc, c.regs⟩ code h8
  have hdiff := Cp.next_diff ⟨pc, c.regs⟩ code 8
  have hact := Cp.next_act ⟨pc, c.regs⟩ code
  have hkind := next_kind (c := ⟨pc, c.regs⟩) HCM.out ⟨by show (0 : Int) ≤ pc; omega, by show (pc : Int) ≤ (code.length : Int); omega⟩
  rw [hnl] at hkind
  generalize Cp.next ⟨pc, c.regs⟩ code = xy at *
  obtain ⟨x, y⟩ := xy
  simp only at hfit hdiff hact hkind
  have hx8 := hfit.1
  have hy3 := hfit.2
  obtain ⟨u4, hu4, ⟨Oa, Ob⟩, hb5⟩ := start_out u3
  obtain ⟨E0, E1, E2, hbe⟩ := out_2 Oa Ob hb5 x y
  obtain ⟨gx, hgx⟩ : ∃ g, u3.heap.size = g := ⟨_, rfl⟩
  rw [hgx] at Oa Ob E0 E1 E2
  obtain ⟨w7, hw7⟩ : ∃ w7, (u4.setRow gx (cc x)).setRow (gx + 1) (ac y) = w7 := ⟨_, rfl⟩
  rw [hgx, hw7] at hbe
  rw [hw7] at E0 E2
  have hbb := hb4.trans (hbe.mono (by rw [← hgx]; exact hb4.size))
  have O7 := O6.below hbb O6.lt
  have OP7 := OP6.below hbb OP6.lt
  have HB7 := hide (hb6.trans (hbb.mono hb6.size))
  have HD := hide hdiff
  have HA := hide hact
  have HK := hide hkind
  clear hb4 hb5 hbe hbb O6 OP6 hb6 hI6 hw5 hw6 v0 v1 v2 y0 y1 y2 z0 k0 hmod hmod2 hfit hdiff hact hkind hpc hgp HCM
  go_wp2_with (first | (refine store_cpu rfl _ _ rfl rfl (c := x) rfl Oa rfl hx8 ?_) | (refine store_act rfl _ _ rfl rfl (c := y) rfl E1 rfl hy3 ?_; rw [hw7]) | fail)
  clear hw7 hu4 hgx Oa Ob E1
  go_loopw [10, 31] (fun s10 s31 wr => ∃ k : Nat, s31 = .int .i64 (k : Int) ∧ k ≤ 8 ∧ s10 = .int .i64 (Cp.diff x.regs c.regs k : Int) ∧ Obl wr gx 24 (cc x) ∧ Obl wr (gx + 1) 42 (ac y) ∧ Obl wr W.heap.size 24 (cc ⟨pc, c.regs⟩) ∧ Obl wr gp 28 #[.slice A n cp, .slice D m d, .int .i64 pg] ∧ Hid (Below W.heap.size W wr)) (fun _ s31 _ => 8 - (intOf s31).toNat)
  case atStart => exact ⟨0, rfl, by omega, rfl, E0, E2, O7, OP7, HB7⟩
  case round =>
    clear E0 E2 O7 OP7 HB7
    obtain ⟨k, rfl, hk, rfl, hX, hY, hC, hP, HB⟩ := hrel
    have hdk := Cp.diff_le x.regs c.regs k
    have hds := Cp.diff_succ x.regs c.regs k
    by_cases hlt : k < 8
    · have hk0 : (0 : Int) ≤ k := by omega
      have hk1 : (k : Int) < 8 := by omega
      have hlX := hX.lt
      have hlC := hC.lt
      obtain ⟨vx, hvx⟩ : ∃ v, Cp.get x (k : Int) = v := ⟨_, rfl⟩
      obtain ⟨vc, hvc⟩ : ∃ v, Cp.get ⟨pc, c.regs⟩ (k : Int) = v := ⟨_, rfl⟩
      have ex : x.regs.getD k 0 = vx := hvx
      have ec : c.regs.getD k 0 = vc := hvc
      rw [ex, ec] at hds
      have HDS := hide hds
      obtain ⟨dk, hdke⟩ : ∃ v, Cp.diff x.regs c.regs k = v := ⟨_, rfl⟩
      rw [hdke] at hdk HDS ⊢
      clear hds ex ec
      by_cases he : vx = vc
      · subst he
        have HDS2 : Hid (Cp.diff x.regs c.regs (k + 1) = dk) := hide (by rw [HDS.out]; simp)
        clear HDS
        go_wp2_with fail
        refine region_B (by kernel_rfl) wr.heap.size ?_
        have hu : ∃ u, wr.drew = u ∧ Obl u gx 24 (cc x) ∧ Obl u (gx + 1) 42 (ac y) ∧ Obl u W.heap.size 24 (cc ⟨pc, c.regs⟩) ∧ Obl u gp 28 #[.slice A n cp, .slice D m d, .int .i64 pg] ∧ Hid (Below W.heap.size W u) ∧ u.heap.size = wr.heap.size :=
          ⟨_, rfl, hX, hY, hC, hP, hide ⟨HB.out.os, HB.out.tape, HB.out.output, HB.out.size, HB.out.block⟩, rfl⟩
        obtain ⟨u, hu, hX, hY, hC, hP, HB, hsz'⟩ := hu
        rw [hu]
        rw [← hsz'] at hlX hlC ⊢
        clear hu
        refine takeB 0 rfl (by kernel_rfl) (fun _ _ _ h => h) (by rfl) (by intro w' hg; go_simp; try with_reducible rfl) ?_
        refine takeB 1 rfl (by kernel_rfl) (fun _ _ _ h => h) (by rfl) (by intro w' hg; go_simp; try with_reducible rfl) ?_
        refine takeB 2 rfl (by kernel_rfl) (fun _ _ _ h => h) (by rfl) (by intro w' hg; go_simp; try with_reducible rfl) ?_
        refine takeB 3 rfl (by kernel_rfl) (fun _ _ _ h => h) (by rfl) (by intro w' hg; have g1 := cc_reg (hX.below hg hlX) hx8 (i := (k : Int)) ⟨hk0, hk1⟩; simp only [Int.toNat_natCast] at g1; rw [hvx] at g1; go_simp; try with_reducible rfl) ?_
        refine takeB 4 rfl (by kernel_rfl) (fun _ _ _ h => h) (by rfl) (by intro w' hg; go_simp; try with_reducible rfl) ?_
        refine takeB 5 rfl (by kernel_rfl) (fun _ _ _ h => h) (by rfl) (by intro w' hg; go_simp; try with_reducible rfl) ?_
        refine takeB 6 rfl (by kernel_rfl) (fun _ _ _ h => h) (by rfl) (by intro w' hg; go_simp; try with_reducible rfl) ?_
        refine takeB 7 rfl (by kernel_rfl) (fun _ _ _ h => h) (by rfl) (by intro w' hg; have g1 := cc_reg (hC.below hg hlC) h8 (i := (k : Int)) ⟨hk0, hk1⟩; simp only [Int.toNat_natCast] at g1; rw [hvc] at g1; go_simp; try with_reducible rfl) ?_
        refine takeB 8 rfl (by kernel_rfl) (fun _ _ _ h => h) (by rfl) (by intro w' hg; go_simp; try with_reducible rfl) ?_
        refine doneB (by kernel_rfl) ?_
        go_simp
        go_wp2_with fail
        go_roundw
        case rel => exact ⟨k + 1, by go_num, by omega, by rw [HDS2.out], hX, hY, hC, hP, HB⟩
        case measure => simp [intOf]; omega
      · have HDS2 : Hid (Cp.diff x.regs c.regs (k + 1) = dk + 1) := hide (by rw [HDS.out, if_neg he])
        have hb1 : (vx == vc) = false := by simpa using he
        have hb2 : (vx != vc) = true := by simpa using he
        clear HDS
        go_wp2_with fail
        refine region_B (by kernel_rfl) wr.heap.size ?_
        have hu : ∃ u, wr.drew = u ∧ Obl u gx 24 (cc x) ∧ Obl u (gx + 1) 42 (ac y) ∧ Obl u W.heap.size 24 (cc ⟨pc, c.regs⟩) ∧ Obl u gp 28 #[.slice A n cp, .slice D m d, .int .i64 pg] ∧ Hid (Below W.heap.size W u) ∧ u.heap.size = wr.heap.size :=
          ⟨_, rfl, hX, hY, hC, hP, hide ⟨HB.out.os, HB.out.tape, HB.out.output, HB.out.size, HB.out.block⟩, rfl⟩
        obtain ⟨u, hu, hX, hY, hC, hP, HB, hsz'⟩ := hu
        rw [hu]
        rw [← hsz'] at hlX hlC ⊢
        clear hu
        refine takeB 0 rfl (by kernel_rfl) (fun _ _ _ h => h) (by rfl) (by intro w' hg; go_simp; try with_reducible rfl) ?_
        refine takeB 1 rfl (by kernel_rfl) (fun _ _ _ h => h) (by rfl) (by intro w' hg; go_simp; try with_reducible rfl) ?_
        refine takeB 2 rfl (by kernel_rfl) (fun _ _ _ h => h) (by rfl) (by intro w' hg; go_simp; try with_reducible rfl) ?_
        refine takeB 3 rfl (by kernel_rfl) (fun _ _ _ h => h) (by rfl) (by intro w' hg; have g1 := cc_reg (hX.below hg hlX) hx8 (i := (k : Int)) ⟨hk0, hk1⟩; simp only [Int.toNat_natCast] at g1; rw [hvx] at g1; go_simp; try with_reducible rfl) ?_
        refine takeB 4 rfl (by kernel_rfl) (fun _ _ _ h => h) (by rfl) (by intro w' hg; go_simp; try with_reducible rfl) ?_
        refine takeB 5 rfl (by kernel_rfl) (fun _ _ _ h => h) (by rfl) (by intro w' hg; go_simp; try with_reducible rfl) ?_
        refine takeB 6 rfl (by kernel_rfl) (fun _ _ _ h => h) (by rfl) (by intro w' hg; go_simp; try with_reducible rfl) ?_
        refine takeB 7 rfl (by kernel_rfl) (fun _ _ _ h => h) (by rfl) (by intro w' hg; have g1 := cc_reg (hC.below hg hlC) h8 (i := (k : Int)) ⟨hk0, hk1⟩; simp only [Int.toNat_natCast] at g1; rw [hvc] at g1; go_simp; try with_reducible rfl) ?_
        refine takeB 8 rfl (by kernel_rfl) (fun _ _ _ h => h) (by rfl) (by intro w' hg; go_simp; try with_reducible rfl) ?_
        refine doneB (by kernel_rfl) ?_
        go_simp
        go_wp2_with fail
        go_roundw
        case rel => exact ⟨k + 1, by go_num, by omega, by rw [HDS2.out]; go_num, hX, hY, hC, hP, HB⟩
        case measure => simp [intOf]; omega
    · obtain rfl : k = 8 := by omega
      clear hlt hds
      have HD2 := HD.out
      generalize Cp.diff x.regs c.regs 8 = dk at *
      have p0 := hP.cell 0
      have a0 := hY.cell 0
      have c0 := cc_pc hC
      simp [ac] at p0 a0 c0
      obtain ⟨bb, hb4, hb5⟩ : ∃ bb : Bool, (y.kind == 4) = bb ∧ ((pc : Int) == (n : Int)) = bb := ⟨_, rfl, by
        have h' : (y.kind = 4) ↔ ((pc : Int) = (n : Int)) := by simpa only [decide_eq_decide] using HK.out
        rw [Bool.eq_iff_iff]
        simp only [beq_iff_eq]
        exact h'.symm⟩
      by_cases hz : y.kind = 0
      · rw [hz] at a0 hb4
        obtain rfl : bb = false := by rw [← hb4]; rfl
        clear hz hb4
        go_wp2_with fail
        go_ret
        exact ⟨rfl, HB.out⟩
      · have hxc := HA.out.resolve_left hz
        have HE : Hid (decide (x = (⟨pc, c.regs⟩ : Cp.Cpu)) = true) := hide (by simpa using hxc)
        have hz1 : (y.kind == 0) = false := by simpa using hz
        clear hxc hz
        cases bb with
        | true =>
          go_wp2_with (first | (refine wpList_val (by rfl) (exec_load_cpu rfl rfl hX hx8) ?_) | (refine wpList_val (by rfl) (exec_load_cpu rfl rfl hC h8) ?_) | (refine wpList_val (by rfl) (exec_eql_cpu (y := ⟨pc, c.regs⟩) rfl rfl rfl hx8 h8) ?_; rw [HE.out]) | fail)
          go_ret
          exact ⟨rfl, HB.out⟩
        | false =>
          go_wp2_with (first | (refine wpList_val (by rfl) (exec_load_cpu rfl rfl hX hx8) ?_) | (refine wpList_val (by rfl) (exec_load_cpu rfl rfl hC h8) ?_) | (refine wpList_val (by rfl) (exec_eql_cpu (y := ⟨pc, c.regs⟩) rfl rfl rfl hx8 h8) ?_; rw [HE.out]) | fail)
          go_ret
          exact ⟨rfl, HB.out⟩
end Go.Proofs.Ytkcegdnjgkideaa
