/- The reference of layer 5: Next: a contract. (Written by tools/mkref.py.) -/
import Derived.Test.YtkcegdnjgkideaaCpuThree
import Derived.Test.YtkcegdnjgkideaaCpuNext
import Derived.Test.YtkcegdnjgkideaaRegionD
namespace Go.Proofs.Ytkcegdnjgkideaa
open Go.RowKit

set_option maxRecDepth 100000 in
set_option maxHeartbeats 2000000 in
theorem refNext_out (c : Cp.Cpu) (h8 : c.regs.length = 8) (A D : Option Addr) (n k m d : Nat) (pages : Int) (hp : ¬ (0 ≤ c.pc ∧ c.pc < (n : Int))) (w : World) :
    Calls Try.prog 14 #[.agg (cc c), .agg #[.slice A n k, .slice D m d, .int .i64 pages]] w (TwoPost (c, Cp.fault) w) := by
  obtain ⟨w1, hw, ST, SR⟩ := start_p w c A D n k m d pages
  have k0 := cc_pc ST.o0
  have k1 := ST.code
  by_cases h0 : c.pc < 0
  · clear hp
    go_enter Try.func14, Try.ntmps14
    go_wp2_with (first | (refine load_cpu rfl _ rfl rfl ST.o0 h8 ?_) | fail)
    refine (faultR_any c h8 _).mono ?_
    rintro e w4 ⟨rfl, hb4⟩
    obtain ⟨E0, E1, E2, hbe⟩ := ends_2 (g := w.heap.size + 2) (SR.next hb4).o1 (SR.next hb4).o2 (ST.next (ST.later hb4)).bel (by omega) c Cp.fault
    have O1 := (SR.next hb4).o1
    clear hb4 ST SR k0 k1
    go_wp2_with (first | (refine store_cpu rfl _ _ rfl rfl rfl O1 rfl h8 ?_) | (refine store_act rfl _ _ rfl rfl (c := Cp.fault) rfl E1 rfl rfl ?_) | fail)
    refine bodyPost_ret (ret_two rfl _ rfl E0 h8 rfl E2 rfl) rfl ?_
    exact ⟨rfl, hbe⟩
  · have h0' : 0 ≤ c.pc := by omega
    have h1' : (n : Int) ≤ c.pc := by omega
    clear hp h0
    go_enter Try.func14, Try.ntmps14
    go_wp2_with (first | (refine load_cpu rfl _ rfl rfl ST.o0 h8 ?_) | fail)
    refine (faultR_any c h8 _).mono ?_
    rintro e w4 ⟨rfl, hb4⟩
    obtain ⟨E0, E1, E2, hbe⟩ := ends_2 (g := w.heap.size + 2) (SR.next hb4).o1 (SR.next hb4).o2 (ST.next (ST.later hb4)).bel (by omega) c Cp.fault
    have O1 := (SR.next hb4).o1
    clear hb4 ST SR k0 k1
    go_wp2_with (first | (refine store_cpu rfl _ _ rfl rfl rfl O1 rfl h8 ?_) | (refine store_act rfl _ _ rfl rfl (c := Cp.fault) rfl E1 rfl rfl ?_) | fail)
    refine bodyPost_ret (ret_two rfl _ rfl E0 h8 rfl E2 rfl) rfl ?_
    exact ⟨rfl, hbe⟩

theorem wrap_spell (n : Int) : IntKind.i64.wrap n = wrap64 n := by
  unfold wrap64
  exact IntKind.wrap_i64 _
theorem Bel.rowSelf {B b : Nat} {w : World} (cells : Array Value) : Bel B b w (w.setRow b cells) :=
  ⟨rfl, rfl, rfl, by simp [World.setRow], fun k _ hne => setRow_other w b cells hne⟩
set_option maxRecDepth 100000 in
set_option maxHeartbeats 16000000 in
theorem refNext_in (c : Cp.Cpu) (h8 : c.regs.length = 8) (code : List Cd.Ins) (A D : Option Addr) (n k m d : Nat) (pages : Int) (B : Nat) (w : World) (h : Inss w B A n code) (hB : B ≤ w.heap.size) (h64 : ∀ x ∈ code, Cd.in64 x) (j : Nat) (hj : j < n) (hp : c.pc = (j : Int)) :
    Calls Try.prog 14 #[.agg (cc c), .agg #[.slice A n k, .slice D m d, .int .i64 pages]] w (TwoPost (Cp.next c code) w) := by
  obtain ⟨w1, hw, ST, SR⟩ := start_p w c A D n k m d pages
  have k0 := cc_pc ST.o0
  rw [hp] at k0
  have k1 := ST.code
  have hI := h.belowLe ST.bel hB
  obtain ⟨b, o, hjl, rfl, hb, c0, c1, c2, c3⟩ := hI.at_ hj
  have HN : Hid (Cp.next c code = Cp.exec c code[j]) := hide (Cp.next_at hjl hp)
  have H64 := hide (h64 _ (List.getElem_mem hjl))
  generalize code[j] = x at *
  obtain ⟨w2, hw2, ⟨ST2, SR2⟩, OI, hb2⟩ := start_ins ST SR
  have hg4 : w.heap.size + 3 < w1.heap.size := SR.o2.lt
  have hgi : w.heap.size + 2 ≤ w1.heap.size := ST.size
  have OI3 := OI.row_same #[.int .i64 x.op, .int .i64 x.a, .int .i64 x.b, .int .i64 x.c]
  have hb3 : Below w1.heap.size w2 (w2.setRow w1.heap.size #[.int .i64 x.op, .int .i64 x.a, .int .i64 x.b, .int .i64 x.c]) := below_row (Below.refl _ _) (Nat.le_refl _) _
  have ST3 := ST2.next (hb3.mono ST.size)
  have SR3 : StB w (w2.setRow w1.heap.size #[.int .i64 x.op, .int .i64 x.a, .int .i64 x.b, .int .i64 x.c]) := ⟨SR2.o1.row_other (by have := SR.o1.lt; omega) _, SR2.o2.row_other (by have := SR.o2.lt; omega) _⟩
  have hgs : w1.heap.size < w2.heap.size := OI.lt
  clear hI h h64 hB hb hp ST2 SR2 SR hb2 hb3 ST
  obtain ⟨v, hv⟩ : ∃ v, w2.setRow w1.heap.size #[.int .i64 x.op, .int .i64 x.a, .int .i64 x.b, .int .i64 x.c] = v := ⟨_, rfl⟩
  rw [hv] at OI3 ST3 SR3
  go_enter Try.func14, Try.ntmps14
  go_upto_region 4 with (first | (refine store_ins rfl _ _ rfl rfl rfl OI rfl ?_; rw [hv]) | fail)
  have ko := OI3.cell 0
  have ka := OI3.cell 1
  have kb := OI3.cell 2
  have kc := OI3.cell 3
  simp at ko ka kb kc
  clear hw hw2 hv OI k0 k1 c0 c1 c2 c3 hgs
  have ST := ST3
  have SR := SR3
  have OX := OI3
  clear ST3 SR3 OI3
  have hgi' := OX.lt
  obtain ⟨gi, hgie⟩ : ∃ g, w1.heap.size = g := ⟨_, rfl⟩
  rw [hgie] at hgi hgi' hg4 OX ko ka kb kc ⊢
  by_cases hx : 0 ≤ x.op ∧ x.op < 13
  · rcases (show x.op = 0 ∨ x.op = 1 ∨ x.op = 2 ∨ x.op = 3 ∨ x.op = 4 ∨ x.op = 5 ∨ x.op = 6 ∨ x.op = 7 ∨ x.op = 8 ∨ x.op = 9 ∨ x.op = 10 ∨ x.op = 11 ∨ x.op = 12 by omega) with ho | ho | ho | ho | ho | ho | ho | ho | ho | ho | ho | ho | ho
    · clear hx
      have HX : Hid (Cp.exec c x = (Cp.stored c, Cp.done)) := hide (by unfold Cp.exec; simp [ho])
      rw [ho] at ko
      clear ho
      go_wp2_with (first | (refine load_cpu rfl _ rfl rfl ST.o0 h8 ?_) | (refine load_ins rfl _ rfl rfl OX ?_) | fail)
      refine (storedR_any c h8 _).mono ?_
      rintro e u1 ⟨rfl, hb1⟩
      replace ST := ST.next (ST.later hb1)
      replace SR := SR.next hb1
      clear hb1 OX ko ka kb kc
      obtain ⟨E0, E1, E2, hbe⟩ := ends_2 (g := w.heap.size + 2) (SR.o1) (SR.o2) (ST.bel) (by omega) (Cp.stored c) Cp.done
      have O1 := SR.o1
      go_wp2_with (first | (refine store_cpu rfl _ _ rfl rfl (c := (Cp.stored c)) rfl O1 rfl h8 ?_) | (refine store_act rfl _ _ rfl rfl (c := Cp.done) rfl E1 rfl rfl ?_) | fail)
      refine bodyPost_ret (ret_two rfl _ rfl E0 h8 rfl E2 rfl) rfl ?_
      rw [HN.out, HX.out]
      exact ⟨rfl, hbe⟩
    · clear hx
      cases ha : Cp.isReg x.a with
      | false =>
        have HA := hide ha
        clear ha
        have HX : Hid (Cp.exec c x = (c, Cp.fault)) := hide (by unfold Cp.exec; simp [ho, HA.out])
        rw [ho] at ko
        clear ho
        go_wp2_with (first | (go_at_call 32; refine (register_any _ _).mono ?_; rintro e vv ⟨rfl, hvv⟩; rw [hvv, HA.out]; clear hvv vv) | (refine load_cpu rfl _ rfl rfl ST.o0 h8 ?_) | (refine load_ins rfl _ rfl rfl OX ?_) | fail)
        refine (faultR_any c h8 _).mono ?_
        rintro e u1 ⟨rfl, hb1⟩
        replace ST := ST.next (ST.later hb1)
        replace SR := SR.next hb1
        clear hb1 OX ko ka kb kc
        obtain ⟨E0, E1, E2, hbe⟩ := ends_2 (g := w.heap.size + 2) (SR.o1) (SR.o2) (ST.bel) (by omega) c Cp.fault
        have O1 := SR.o1
        go_wp2_with (first | (refine store_cpu rfl _ _ rfl rfl (c := c) rfl O1 rfl h8 ?_) | (refine store_act rfl _ _ rfl rfl (c := Cp.fault) rfl E1 rfl rfl ?_) | fail)
        refine bodyPost_ret (ret_two rfl _ rfl E0 h8 rfl E2 rfl) rfl ?_
        rw [HN.out, HX.out]
        exact ⟨rfl, hbe⟩
      | true =>
        have HA := hide ha
        have ra := isReg_iff.1 ha
        have ra0 := ra.1
        have ra1 := ra.2
        clear ha
        have hl := loaded_8 h8 x.a x.b
        have HX : Hid (Cp.exec c x = (Cp.loaded c x.a x.b, Cp.done)) := hide (by unfold Cp.exec; simp [ho, HA.out])
        rw [ho] at ko
        clear ho
        go_wp2_with (first | (go_at_call 32; refine (register_any _ _).mono ?_; rintro e vv ⟨rfl, hvv⟩; rw [hvv, HA.out]; clear hvv vv) | (refine load_cpu rfl _ rfl rfl ST.o0 h8 ?_) | (refine load_ins rfl _ rfl rfl OX ?_) | fail)
        refine (loadedR_any c h8 _ _ _).mono ?_
        rintro e u1 ⟨rfl, hb1⟩
        replace ST := ST.next (ST.later hb1)
        replace SR := SR.next hb1
        clear hb1 OX ko ka kb kc
        obtain ⟨E0, E1, E2, hbe⟩ := ends_2 (g := w.heap.size + 2) (SR.o1) (SR.o2) (ST.bel) (by omega) (Cp.loaded c x.a x.b) Cp.done
        have O1 := SR.o1
        go_wp2_with (first | (refine store_cpu rfl _ _ rfl rfl (c := (Cp.loaded c x.a x.b)) rfl O1 rfl hl ?_) | (refine store_act rfl _ _ rfl rfl (c := Cp.done) rfl E1 rfl rfl ?_) | fail)
        refine bodyPost_ret (ret_two rfl _ rfl E0 hl rfl E2 rfl) rfl ?_
        rw [HN.out, HX.out]
        exact ⟨rfl, hbe⟩
    · clear hx
      cases ha : Cp.isReg x.a with
      | false =>
        have HA := hide ha
        clear ha
        have HX : Hid (Cp.exec c x = (c, Cp.fault)) := hide (by unfold Cp.exec; simp [ho, HA.out])
        rw [ho] at ko
        clear ho
        go_wp2_with (first | (go_at_call 32; refine (register_any _ _).mono ?_; rintro e vv ⟨rfl, hvv⟩; rw [hvv, HA.out]; clear hvv vv) | (refine load_cpu rfl _ rfl rfl ST.o0 h8 ?_) | (refine load_ins rfl _ rfl rfl OX ?_) | fail)
        refine (faultR_any c h8 _).mono ?_
        rintro e u1 ⟨rfl, hb1⟩
        replace ST := ST.next (ST.later hb1)
        replace SR := SR.next hb1
        clear hb1 OX ko ka kb kc
        obtain ⟨E0, E1, E2, hbe⟩ := ends_2 (g := w.heap.size + 2) (SR.o1) (SR.o2) (ST.bel) (by omega) c Cp.fault
        have O1 := SR.o1
        go_wp2_with (first | (refine store_cpu rfl _ _ rfl rfl (c := c) rfl O1 rfl h8 ?_) | (refine store_act rfl _ _ rfl rfl (c := Cp.fault) rfl E1 rfl rfl ?_) | fail)
        refine bodyPost_ret (ret_two rfl _ rfl E0 h8 rfl E2 rfl) rfl ?_
        rw [HN.out, HX.out]
        exact ⟨rfl, hbe⟩
      | true =>
        have HA := hide ha
        have ra := isReg_iff.1 ha
        have ra0 := ra.1
        have ra1 := ra.2
        clear ha
        cases hb : Cp.isReg x.b with
        | false =>
          have HB := hide hb
          clear hb
          have HX : Hid (Cp.exec c x = (c, Cp.fault)) := hide (by unfold Cp.exec; simp [ho, HA.out, HB.out])
          rw [ho] at ko
          clear ho
          go_wp2_with (first | (go_at_call 32; refine (register_any _ _).mono ?_; rintro e vv ⟨rfl, hvv⟩; rw [hvv, HA.out]; clear hvv vv) | (go_at_call 32; refine (register_any _ _).mono ?_; rintro e vv ⟨rfl, hvv⟩; rw [hvv, HB.out]; clear hvv vv) | (refine load_cpu rfl _ rfl rfl ST.o0 h8 ?_) | (refine load_ins rfl _ rfl rfl OX ?_) | fail)
          refine (faultR_any c h8 _).mono ?_
          rintro e u1 ⟨rfl, hb1⟩
          replace ST := ST.next (ST.later hb1)
          replace SR := SR.next hb1
          clear hb1 OX ko ka kb kc
          obtain ⟨E0, E1, E2, hbe⟩ := ends_2 (g := w.heap.size + 2) (SR.o1) (SR.o2) (ST.bel) (by omega) c Cp.fault
          have O1 := SR.o1
          go_wp2_with (first | (refine store_cpu rfl _ _ rfl rfl (c := c) rfl O1 rfl h8 ?_) | (refine store_act rfl _ _ rfl rfl (c := Cp.fault) rfl E1 rfl rfl ?_) | fail)
          refine bodyPost_ret (ret_two rfl _ rfl E0 h8 rfl E2 rfl) rfl ?_
          rw [HN.out, HX.out]
          exact ⟨rfl, hbe⟩
        | true =>
          have HB := hide hb
          have rb := isReg_iff.1 hb
          have rb0 := rb.1
          have rb1 := rb.2
          clear hb
          have hl := loaded_8 h8 x.a (Cp.get c x.b)
          have HX : Hid (Cp.exec c x = ((Cp.loaded c x.a (Cp.get c x.b)), Cp.done)) := hide (by unfold Cp.exec; simp [ho, HA.out, HB.out])
          rw [ho] at ko
          clear ho
          go_wp2_with (first | (go_at_call 32; refine (register_any _ _).mono ?_; rintro e vv ⟨rfl, hvv⟩; rw [hvv, HA.out]; clear hvv vv) | (go_at_call 32; refine (register_any _ _).mono ?_; rintro e vv ⟨rfl, hvv⟩; rw [hvv, HB.out]; clear hvv vv) | (refine load_cpu rfl _ rfl rfl ST.o0 h8 ?_) | (refine load_ins rfl _ rfl rfl OX ?_) | fail)
          refine region_D (by kernel_rfl) (gi + 1) (w.heap.size + 2) [11] ?_
          obtain ⟨u, hu, ST, SR, OX⟩ : ∃ u, v.drew = u ∧ StP w u c (some ⟨b, o, none⟩) n k D m d pages ∧ StB w u ∧ Obl u gi 31 #[.int .i64 x.op, .int .i64 x.a, .int .i64 x.b, .int .i64 x.c] := ⟨_, rfl, ⟨ST.o0, ST.op, ⟨ST.bel.os, ST.bel.tape, ST.bel.output, ST.bel.size, ST.bel.block⟩, ST.size⟩, ⟨SR.o1, SR.o2⟩, OX⟩
          rw [hu]
          clear hu ko ka kb kc
          have hul := OX.lt
          refine takeD 0 [0, 8, 10, 11] rfl (by kernel_rfl) (fun _ _ _ h => h) (by rfl) (by intro w' hg; exact exec_load_cpu rfl rfl (hg.obl ST.o0 (by omega) (by omega)) h8) ?_
          refine takeDX 1 rfl (by kernel_rfl) (fun _ _ _ h => h) (by rfl) (by intro w'; go_simp; try with_reducible rfl) ?_
          refine takeD 2 [2, 8, 10, 11] rfl (by kernel_rfl) (fun _ _ _ h => h) (by rfl) (by intro w' hg; have g1 := (hg.obl OX (by omega) (by omega)).cell 1; simp at g1; go_simp; try with_reducible rfl) ?_
          refine takeDX 3 rfl (by kernel_rfl) (fun _ _ _ h => h) (by rfl) (by intro w'; go_simp; try with_reducible rfl) ?_
          refine takeD 4 [4, 6, 7, 8, 10, 11] rfl (by kernel_rfl) (fun _ _ _ h => h) (by rfl) (by intro w' hg; have g1 := (hg.obl OX (by omega) (by omega)).cell 2; simp at g1; go_simp; try with_reducible rfl) ?_
          refine takeDX 5 rfl (by kernel_rfl) (fun _ _ _ h => h) (by rfl) (by intro w'; go_simp; try with_reducible rfl) ?_
          refine takeDX 6 rfl (by kernel_rfl) (fun _ _ _ h => h) (by rfl) (by intro w'; go_simp; try with_reducible rfl) ?_
          refine takeD 7 [7, 8, 10, 11] rfl (by kernel_rfl) (fun _ _ _ h => h) (by rfl) (by intro w' hg; have g1 := cc_reg (hg.obl ST.o0 (by omega) (by omega)) h8 rb; go_simp; try with_reducible rfl) ?_
          refine takeDX 9 rfl (by kernel_rfl) (fun _ _ _ h => h) (by rfl) (by intro w'; go_simp; try with_reducible rfl) ?_
          refine onlyD 8 rfl (by kernel_rfl) (by rfl) ?_
          intro K hK
          go_simp
          refine (loadedR_any c h8 _ _ _).mono ?_
          rintro e u1 ⟨rfl, hb1⟩
          replace ST := ST.next (ST.later hb1)
          replace SR := SR.next hb1
          refine hK _ _ (fun _ => Bel.of (hb1.mono (by omega))) ?_
          clear hK K
          refine onlyD 10 rfl (by kernel_rfl) (by rfl) ?_
          intro K hK
          obtain ⟨E0, E1, E2, hbe⟩ := ends_2 (g := w.heap.size + 2) SR.o1 SR.o2 ST.bel (by omega) (Cp.loaded c x.a (Cp.get c x.b)) Cp.done
          refine wp_store_cpu rfl rfl (c := (Cp.loaded c x.a (Cp.get c x.b))) rfl SR.o1 rfl hl ?_
          refine hK _ _ (fun _ => Bel.rowSelf _) ?_
          clear hK K
          refine onlyD 11 rfl (by kernel_rfl) (by rfl) ?_
          intro K hK
          refine wp_store_act rfl rfl (c := Cp.done) rfl E1 rfl rfl ?_
          refine hK _ _ (fun h => absurd h (by decide)) ?_
          clear hK K
          refine doneD (by kernel_rfl) ?_
          go_simp
          go_wp2_with fail
          refine bodyPost_ret (ret_two rfl _ rfl E0 hl rfl E2 rfl) rfl ?_
          rw [HN.out, HX.out]
          exact ⟨rfl, hbe⟩
    · clear hx
      have HX := hide (exec_fit c x h8)
      have h8' := HX.out.1
      have h3' := HX.out.2
      have ht : Hid (3 ≤ x.op ∧ x.op ≤ 7) := hide (by omega)
      rw [ho] at ko
      clear ho
      go_wp2_with (first | (refine load_cpu rfl _ rfl rfl ST.o0 h8 ?_) | (refine load_ins rfl _ rfl rfl OX ?_) | fail)
      refine (three_any c x h8 ht.out _).mono ?_
      rintro e u1 ⟨rfl, hb1⟩
      replace ST := ST.next (ST.later hb1)
      replace SR := SR.next hb1
      clear hb1 OX ko ka kb kc
      obtain ⟨E0, E1, E2, hbe⟩ := ends_2 (g := w.heap.size + 2) (SR.o1) (SR.o2) (ST.bel) (by omega) (Cp.exec c x).1 (Cp.exec c x).2
      have O1 := SR.o1
      go_wp2_with (first | (refine store_cpu rfl _ _ rfl rfl (c := (Cp.exec c x).1) rfl O1 rfl h8' ?_) | (refine store_act rfl _ _ rfl rfl (c := (Cp.exec c x).2) rfl E1 rfl h3' ?_) | fail)
      refine bodyPost_ret (ret_two rfl _ rfl E0 h8' rfl E2 h3') rfl ?_
      rw [HN.out]
      exact ⟨rfl, hbe⟩
    · clear hx
      have HX := hide (exec_fit c x h8)
      have h8' := HX.out.1
      have h3' := HX.out.2
      have ht : Hid (3 ≤ x.op ∧ x.op ≤ 7) := hide (by omega)
      rw [ho] at ko
      clear ho
      go_wp2_with (first | (refine load_cpu rfl _ rfl rfl ST.o0 h8 ?_) | (refine load_ins rfl _ rfl rfl OX ?_) | fail)
      refine (three_any c x h8 ht.out _).mono ?_
      rintro e u1 ⟨rfl, hb1⟩
      replace ST := ST.next (ST.later hb1)
      replace SR := SR.next hb1
      clear hb1 OX ko ka kb kc
      obtain ⟨E0, E1, E2, hbe⟩ := ends_2 (g := w.heap.size + 2) (SR.o1) (SR.o2) (ST.bel) (by omega) (Cp.exec c x).1 (Cp.exec c x).2
      have O1 := SR.o1
      go_wp2_with (first | (refine store_cpu rfl _ _ rfl rfl (c := (Cp.exec c x).1) rfl O1 rfl h8' ?_) | (refine store_act rfl _ _ rfl rfl (c := (Cp.exec c x).2) rfl E1 rfl h3' ?_) | fail)
      refine bodyPost_ret (ret_two rfl _ rfl E0 h8' rfl E2 h3') rfl ?_
      rw [HN.out]
      exact ⟨rfl, hbe⟩
    · clear hx
      have HX := hide (exec_fit c x h8)
      have h8' := HX.out.1
      have h3' := HX.out.2
      have ht : Hid (3 ≤ x.op ∧ x.op ≤ 7) := hide (by omega)
      rw [ho] at ko
      clear ho
      go_wp2_with (first | (refine load_cpu rfl _ rfl rfl ST.o0 h8 ?_) | (refine load_ins rfl _ rfl rfl OX ?_) | fail)
      refine (three_any c x h8 ht.out _).mono ?_
      rintro e u1 ⟨rfl, hb1⟩
      replace ST := ST.next (ST.later hb1)
      replace SR := SR.next hb1
      clear hb1 OX ko ka kb kc
      obtain ⟨E0, E1, E2, hbe⟩ := ends_2 (g := w.heap.size + 2) (SR.o1) (SR.o2) (ST.bel) (by omega) (Cp.exec c x).1 (Cp.exec c x).2
      have O1 := SR.o1
      go_wp2_with (first | (refine store_cpu rfl _ _ rfl rfl (c := (Cp.exec c x).1) rfl O1 rfl h8' ?_) | (refine store_act rfl _ _ rfl rfl (c := (Cp.exec c x).2) rfl E1 rfl h3' ?_) | fail)
      refine bodyPost_ret (ret_two rfl _ rfl E0 h8' rfl E2 h3') rfl ?_
      rw [HN.out]
      exact ⟨rfl, hbe⟩
    · clear hx
      have HX := hide (exec_fit c x h8)
      have h8' := HX.out.1
      have h3' := HX.out.2
      have ht : Hid (3 ≤ x.op ∧ x.op ≤ 7) := hide (by omega)
      rw [ho] at ko
      clear ho
      go_wp2_with (first | (refine load_cpu rfl _ rfl rfl ST.o0 h8 ?_) | (refine load_ins rfl _ rfl rfl OX ?_) | fail)
      refine (three_any c x h8 ht.out _).mono ?_
      rintro e u1 ⟨rfl, hb1⟩
      replace ST := ST.next (ST.later hb1)
      replace SR := SR.next hb1
      clear hb1 OX ko ka kb kc
      obtain ⟨E0, E1, E2, hbe⟩ := ends_2 (g := w.heap.size + 2) (SR.o1) (SR.o2) (ST.bel) (by omega) (Cp.exec c x).1 (Cp.exec c x).2
      have O1 := SR.o1
      go_wp2_with (first | (refine store_cpu rfl _ _ rfl rfl (c := (Cp.exec c x).1) rfl O1 rfl h8' ?_) | (refine store_act rfl _ _ rfl rfl (c := (Cp.exec c x).2) rfl E1 rfl h3' ?_) | fail)
      refine bodyPost_ret (ret_two rfl _ rfl E0 h8' rfl E2 h3') rfl ?_
      rw [HN.out]
      exact ⟨rfl, hbe⟩
    · clear hx
      have HX := hide (exec_fit c x h8)
      have h8' := HX.out.1
      have h3' := HX.out.2
      have ht : Hid (3 ≤ x.op ∧ x.op ≤ 7) := hide (by omega)
      rw [ho] at ko
      clear ho
      go_wp2_with (first | (refine load_cpu rfl _ rfl rfl ST.o0 h8 ?_) | (refine load_ins rfl _ rfl rfl OX ?_) | fail)
      refine (three_any c x h8 ht.out _).mono ?_
      rintro e u1 ⟨rfl, hb1⟩
      replace ST := ST.next (ST.later hb1)
      replace SR := SR.next hb1
      clear hb1 OX ko ka kb kc
      obtain ⟨E0, E1, E2, hbe⟩ := ends_2 (g := w.heap.size + 2) (SR.o1) (SR.o2) (ST.bel) (by omega) (Cp.exec c x).1 (Cp.exec c x).2
      have O1 := SR.o1
      go_wp2_with (first | (refine store_cpu rfl _ _ rfl rfl (c := (Cp.exec c x).1) rfl O1 rfl h8' ?_) | (refine store_act rfl _ _ rfl rfl (c := (Cp.exec c x).2) rfl E1 rfl h3' ?_) | fail)
      refine bodyPost_ret (ret_two rfl _ rfl E0 h8' rfl E2 h3') rfl ?_
      rw [HN.out]
      exact ⟨rfl, hbe⟩
    · clear hx
      have HX : Hid (Cp.exec c x = ((⟨x.a, c.regs⟩ : Cp.Cpu), Cp.done)) := hide (by unfold Cp.exec; simp [ho])
      rw [ho] at ko
      clear ho
      have q0 := cc_pc ST.o0
      have z0 := ST.o0.free 0
      have O2 := ST.o0.put 0 (.int .i64 x.a)
      rw [cc_putpc] at O2
      have P1 := hide (SR.o1.put_other (b' := w.heap.size) (by omega) 0 (.int .i64 x.a))
      have P2 := hide (SR.o2.put_other (b' := w.heap.size) (by omega) 0 (.int .i64 x.a))
      have hb2 := hide (ST.bel.setCell (p := ⟨w.heap.size, 0, none⟩) (Nat.le_refl _) (.int .i64 x.a))
      go_wp2_with (first | (refine load_cpu rfl _ rfl rfl O2 h8 ?_) | (refine store_cpu rfl _ _ rfl rfl (c := ⟨x.a, c.regs⟩) rfl P1.out rfl h8 ?_) | (refine store_act rfl _ _ rfl rfl (c := Cp.done) rfl (P2.out.row_other (g := w.heap.size + 2) (by omega) (cc ⟨x.a, c.regs⟩)) rfl rfl ?_) | fail)
      obtain ⟨E0, E1, E2, hbe⟩ := ends_2 (g := w.heap.size + 2) P1.out P2.out hb2.out (by omega) (⟨x.a, c.regs⟩ : Cp.Cpu) Cp.done
      refine bodyPost_ret (ret_two rfl _ rfl E0 h8 rfl E2 rfl) rfl ?_
      rw [HN.out, HX.out]
      exact ⟨rfl, hbe⟩
    · clear hx
      cases ha : Cp.isReg x.a with
      | false =>
        have HA := hide ha
        clear ha
        have HX : Hid (Cp.exec c x = (c, Cp.fault)) := hide (by unfold Cp.exec; simp [ho, HA.out])
        rw [ho] at ko
        clear ho
        go_wp2_with (first | (go_at_call 32; refine (register_any _ _).mono ?_; rintro e vv ⟨rfl, hvv⟩; rw [hvv, HA.out]; clear hvv vv) | (refine load_cpu rfl _ rfl rfl ST.o0 h8 ?_) | (refine load_ins rfl _ rfl rfl OX ?_) | fail)
        refine (faultR_any c h8 _).mono ?_
        rintro e u1 ⟨rfl, hb1⟩
        replace ST := ST.next (ST.later hb1)
        replace SR := SR.next hb1
        clear hb1 OX ko ka kb kc
        obtain ⟨E0, E1, E2, hbe⟩ := ends_2 (g := w.heap.size + 2) (SR.o1) (SR.o2) (ST.bel) (by omega) c Cp.fault
        have O1 := SR.o1
        go_wp2_with (first | (refine store_cpu rfl _ _ rfl rfl (c := c) rfl O1 rfl h8 ?_) | (refine store_act rfl _ _ rfl rfl (c := Cp.fault) rfl E1 rfl rfl ?_) | fail)
        refine bodyPost_ret (ret_two rfl _ rfl E0 h8 rfl E2 rfl) rfl ?_
        rw [HN.out, HX.out]
        exact ⟨rfl, hbe⟩
      | true =>
        have HA := hide ha
        have ra := isReg_iff.1 ha
        have ra0 := ra.1
        have ra1 := ra.2
        clear ha
        have rg := ST.reg' h8 ra
        by_cases hz : Cp.get c x.a = 0
        · have HZ := hide hz
          have HX : Hid (Cp.exec c x = (Cp.stored c, Cp.done)) := hide (by unfold Cp.exec; simp [ho, HA.out, HZ.out])
          rw [ho] at ko
          clear ho
          rw [hz] at rg
          clear hz
          go_wp2_with (first | (go_at_call 32; refine (register_any _ _).mono ?_; rintro e vv ⟨rfl, hvv⟩; rw [hvv, HA.out]; clear hvv vv) | (refine load_cpu rfl _ rfl rfl ST.o0 h8 ?_) | (refine load_ins rfl _ rfl rfl OX ?_) | fail)
          clear rg
          refine (storedR_any c h8 _).mono ?_
          rintro e u1 ⟨rfl, hb1⟩
          replace ST := ST.next (ST.later hb1)
          replace SR := SR.next hb1
          clear hb1 OX ko ka kb kc
          obtain ⟨E0, E1, E2, hbe⟩ := ends_2 (g := w.heap.size + 2) (SR.o1) (SR.o2) (ST.bel) (by omega) (Cp.stored c) Cp.done
          have O1 := SR.o1
          go_wp2_with (first | (refine store_cpu rfl _ _ rfl rfl (c := (Cp.stored c)) rfl O1 rfl h8 ?_) | (refine store_act rfl _ _ rfl rfl (c := Cp.done) rfl E1 rfl rfl ?_) | fail)
          refine bodyPost_ret (ret_two rfl _ rfl E0 h8 rfl E2 rfl) rfl ?_
          rw [HN.out, HX.out]
          exact ⟨rfl, hbe⟩
        · have HZ := hide hz
          have HX : Hid (Cp.exec c x = ((⟨x.b, c.regs⟩ : Cp.Cpu), Cp.done)) := hide (by unfold Cp.exec; simp [ho, HA.out, HZ.out])
          rw [ho] at ko
          clear ho
          have q0 := cc_pc ST.o0
          have z0 := ST.o0.free 0
          have O2 := ST.o0.put 0 (.int .i64 x.b)
          rw [cc_putpc] at O2
          have P1 := hide (SR.o1.put_other (b' := w.heap.size) (by omega) 0 (.int .i64 x.b))
          have P2 := hide (SR.o2.put_other (b' := w.heap.size) (by omega) 0 (.int .i64 x.b))
          have hb2 := hide (ST.bel.setCell (p := ⟨w.heap.size, 0, none⟩) (Nat.le_refl _) (.int .i64 x.b))
          have hz1 : (Cp.get c x.a == 0) = false := by simpa using hz
          clear hz
          generalize Cp.get c x.a = gv at *
          go_wp2_with (first | (go_at_call 32; refine (register_any _ _).mono ?_; rintro e vv ⟨rfl, hvv⟩; rw [hvv, HA.out]; clear hvv vv) | (refine load_cpu rfl _ rfl rfl O2 h8 ?_) | (refine store_cpu rfl _ _ rfl rfl (c := ⟨x.b, c.regs⟩) rfl P1.out rfl h8 ?_) | (refine store_act rfl _ _ rfl rfl (c := Cp.done) rfl (P2.out.row_other (g := w.heap.size + 2) (by omega) (cc ⟨x.b, c.regs⟩)) rfl rfl ?_) | fail)
          obtain ⟨E0, E1, E2, hbe⟩ := ends_2 (g := w.heap.size + 2) P1.out P2.out hb2.out (by omega) (⟨x.b, c.regs⟩ : Cp.Cpu) Cp.done
          refine bodyPost_ret (ret_two rfl _ rfl E0 h8 rfl E2 rfl) rfl ?_
          rw [HN.out, HX.out]
          exact ⟨rfl, hbe⟩
    · clear hx
      cases ha : Cp.isReg x.a with
      | false =>
        have HA := hide ha
        clear ha
        have HX : Hid (Cp.exec c x = (c, Cp.fault)) := hide (by unfold Cp.exec; simp [ho, HA.out])
        rw [ho] at ko
        clear ho
        go_wp2_with (first | (go_at_call 32; refine (register_any _ _).mono ?_; rintro e vv ⟨rfl, hvv⟩; rw [hvv, HA.out]; clear hvv vv) | (refine load_cpu rfl _ rfl rfl ST.o0 h8 ?_) | (refine load_ins rfl _ rfl rfl OX ?_) | fail)
        refine (faultR_any c h8 _).mono ?_
        rintro e u1 ⟨rfl, hb1⟩
        replace ST := ST.next (ST.later hb1)
        replace SR := SR.next hb1
        clear hb1 OX ko ka kb kc
        obtain ⟨E0, E1, E2, hbe⟩ := ends_2 (g := w.heap.size + 2) (SR.o1) (SR.o2) (ST.bel) (by omega) c Cp.fault
        have O1 := SR.o1
        go_wp2_with (first | (refine store_cpu rfl _ _ rfl rfl (c := c) rfl O1 rfl h8 ?_) | (refine store_act rfl _ _ rfl rfl (c := Cp.fault) rfl E1 rfl rfl ?_) | fail)
        refine bodyPost_ret (ret_two rfl _ rfl E0 h8 rfl E2 rfl) rfl ?_
        rw [HN.out, HX.out]
        exact ⟨rfl, hbe⟩
      | true =>
        have HA := hide ha
        have ra := isReg_iff.1 ha
        have ra0 := ra.1
        have ra1 := ra.2
        clear ha
        cases hb : Cp.isReg x.b with
        | false =>
          have HB := hide hb
          clear hb
          have HX : Hid (Cp.exec c x = (c, Cp.fault)) := hide (by unfold Cp.exec; simp [ho, HA.out, HB.out])
          rw [ho] at ko
          clear ho
          go_wp2_with (first | (go_at_call 32; refine (register_any _ _).mono ?_; rintro e vv ⟨rfl, hvv⟩; rw [hvv, HA.out]; clear hvv vv) | (go_at_call 32; refine (register_any _ _).mono ?_; rintro e vv ⟨rfl, hvv⟩; rw [hvv, HB.out]; clear hvv vv) | (refine load_cpu rfl _ rfl rfl ST.o0 h8 ?_) | (refine load_ins rfl _ rfl rfl OX ?_) | fail)
          refine (faultR_any c h8 _).mono ?_
          rintro e u1 ⟨rfl, hb1⟩
          replace ST := ST.next (ST.later hb1)
          replace SR := SR.next hb1
          clear hb1 OX ko ka kb kc
          obtain ⟨E0, E1, E2, hbe⟩ := ends_2 (g := w.heap.size + 2) (SR.o1) (SR.o2) (ST.bel) (by omega) c Cp.fault
          have O1 := SR.o1
          go_wp2_with (first | (refine store_cpu rfl _ _ rfl rfl (c := c) rfl O1 rfl h8 ?_) | (refine store_act rfl _ _ rfl rfl (c := Cp.fault) rfl E1 rfl rfl ?_) | fail)
          refine bodyPost_ret (ret_two rfl _ rfl E0 h8 rfl E2 rfl) rfl ?_
          rw [HN.out, HX.out]
          exact ⟨rfl, hbe⟩
        | true =>
          have HB := hide hb
          have rb := isReg_iff.1 hb
          have rb0 := rb.1
          have rb1 := rb.2
          clear hb
          have HX : Hid (Cp.exec c x = (c, (⟨1, wrap64 (Cp.get c x.b + x.c), x.a, 0, 0, [0, 0, 0]⟩ : Cp.Act))) := hide (by unfold Cp.exec; simp [ho, HA.out, HB.out])
          rw [ho] at ko
          clear ho
          go_wp2_with (first | (go_at_call 32; refine (register_any _ _).mono ?_; rintro e vv ⟨rfl, hvv⟩; rw [hvv, HA.out]; clear hvv vv) | (go_at_call 32; refine (register_any _ _).mono ?_; rintro e vv ⟨rfl, hvv⟩; rw [hvv, HB.out]; clear hvv vv) | (refine load_cpu rfl _ rfl rfl ST.o0 h8 ?_) | (refine load_ins rfl _ rfl rfl OX ?_) | fail)
          refine region_D (by kernel_rfl) (gi + 1) (w.heap.size + 2) [13] ?_
          obtain ⟨u, hu, ST, SR, OX⟩ : ∃ u, v.drew = u ∧ StP w u c (some ⟨b, o, none⟩) n k D m d pages ∧ StB w u ∧ Obl u gi 31 #[.int .i64 x.op, .int .i64 x.a, .int .i64 x.b, .int .i64 x.c] := ⟨_, rfl, ⟨ST.o0, ST.op, ⟨ST.bel.os, ST.bel.tape, ST.bel.output, ST.bel.size, ST.bel.block⟩, ST.size⟩, ⟨SR.o1, SR.o2⟩, OX⟩
          rw [hu]
          clear hu ko ka kb kc
          have hul := OX.lt
          refine takeD 0 [0, 12, 13] rfl (by kernel_rfl) (fun _ _ _ h => h) (by rfl) (by intro w' hg; exact exec_load_cpu rfl rfl (hg.obl ST.o0 (by omega) (by omega)) h8) ?_
          refine takeDX 1 rfl (by kernel_rfl) (fun _ _ _ h => h) (by rfl) (by intro w'; go_simp; try with_reducible rfl) ?_
          refine takeD 2 [2, 4, 5, 8, 11, 13] rfl (by kernel_rfl) (fun _ _ _ h => h) (by rfl) (by intro w' hg; have g1 := (hg.obl OX (by omega) (by omega)).cell 2; simp at g1; go_simp; try with_reducible rfl) ?_
          refine takeDX 3 rfl (by kernel_rfl) (fun _ _ _ h => h) (by rfl) (by intro w'; go_simp; try with_reducible rfl) ?_
          refine takeDX 4 rfl (by kernel_rfl) (fun _ _ _ h => h) (by rfl) (by intro w'; go_simp; try with_reducible rfl) ?_
          refine takeD 5 [5, 8, 11, 13] rfl (by kernel_rfl) (fun _ _ _ h => h) (by rfl) (by intro w' hg; have g1 := cc_reg (hg.obl ST.o0 (by omega) (by omega)) h8 rb; go_simp; try with_reducible rfl) ?_
          refine takeDX 6 rfl (by kernel_rfl) (fun _ _ _ h => h) (by rfl) (by intro w'; go_simp; try with_reducible rfl) ?_
          refine takeD 7 [7, 8, 11, 13] rfl (by kernel_rfl) (fun _ _ _ h => h) (by rfl) (by intro w' hg; have g1 := (hg.obl OX (by omega) (by omega)).cell 3; simp at g1; go_simp; try with_reducible rfl) ?_
          refine takeDX 8 rfl (by kernel_rfl) (fun _ _ _ h => h) (by rfl) (by intro w'; go_simp; try with_reducible rfl) ?_
          refine takeDX 9 rfl (by kernel_rfl) (fun _ _ _ h => h) (by rfl) (by intro w'; go_simp; try with_reducible rfl) ?_
          refine takeD 10 [10, 11, 13] rfl (by kernel_rfl) (fun _ _ _ h => h) (by rfl) (by intro w' hg; have g1 := (hg.obl OX (by omega) (by omega)).cell 1; simp at g1; go_simp; try with_reducible rfl) ?_
          refine takeDX 11 rfl (by kernel_rfl) (fun _ _ _ h => h) (by rfl) (by intro w'; go_simp; try with_reducible rfl) ?_
          go_simp
          simp only [wrap_spell]
          refine onlyD 12 rfl (by kernel_rfl) (by rfl) ?_
          intro K hK
          obtain ⟨E0, E1, E2, hbe⟩ := ends_2 (g := w.heap.size + 2) SR.o1 SR.o2 ST.bel (by omega) c ⟨1, wrap64 (Cp.get c x.b + x.c), x.a, 0, 0, [0, 0, 0]⟩
          refine wp_store_cpu rfl rfl (c := c) rfl SR.o1 rfl h8 ?_
          refine hK _ _ (fun _ => Bel.rowSelf _) ?_
          clear hK K
          refine onlyD 13 rfl (by kernel_rfl) (by rfl) ?_
          intro K hK
          refine wp_store_act rfl rfl (c := ⟨1, wrap64 (Cp.get c x.b + x.c), x.a, 0, 0, [0, 0, 0]⟩) rfl E1 rfl rfl ?_
          refine hK _ _ (fun h => absurd h (by decide)) ?_
          clear hK K
          refine doneD (by kernel_rfl) ?_
          go_simp
          go_wp2_with fail
          refine bodyPost_ret (ret_two rfl _ rfl E0 h8 rfl E2 rfl) rfl ?_
          rw [HN.out, HX.out]
          exact ⟨rfl, hbe⟩
    · clear hx
      cases ha : Cp.isReg x.a with
      | false =>
        have HA := hide ha
        clear ha
        have HX : Hid (Cp.exec c x = (c, Cp.fault)) := hide (by unfold Cp.exec; simp [ho, HA.out])
        rw [ho] at ko
        clear ho
        go_wp2_with (first | (go_at_call 32; refine (register_any _ _).mono ?_; rintro e vv ⟨rfl, hvv⟩; rw [hvv, HA.out]; clear hvv vv) | (refine load_cpu rfl _ rfl rfl ST.o0 h8 ?_) | (refine load_ins rfl _ rfl rfl OX ?_) | fail)
        refine (faultR_any c h8 _).mono ?_
        rintro e u1 ⟨rfl, hb1⟩
        replace ST := ST.next (ST.later hb1)
        replace SR := SR.next hb1
        clear hb1 OX ko ka kb kc
        obtain ⟨E0, E1, E2, hbe⟩ := ends_2 (g := w.heap.size + 2) (SR.o1) (SR.o2) (ST.bel) (by omega) c Cp.fault
        have O1 := SR.o1
        go_wp2_with (first | (refine store_cpu rfl _ _ rfl rfl (c := c) rfl O1 rfl h8 ?_) | (refine store_act rfl _ _ rfl rfl (c := Cp.fault) rfl E1 rfl rfl ?_) | fail)
        refine bodyPost_ret (ret_two rfl _ rfl E0 h8 rfl E2 rfl) rfl ?_
        rw [HN.out, HX.out]
        exact ⟨rfl, hbe⟩
      | true =>
        have HA := hide ha
        have ra := isReg_iff.1 ha
        have ra0 := ra.1
        have ra1 := ra.2
        clear ha
        cases hb : Cp.isReg x.b with
        | false =>
          have HB := hide hb
          clear hb
          have HX : Hid (Cp.exec c x = (c, Cp.fault)) := hide (by unfold Cp.exec; simp [ho, HA.out, HB.out])
          rw [ho] at ko
          clear ho
          go_wp2_with (first | (go_at_call 32; refine (register_any _ _).mono ?_; rintro e vv ⟨rfl, hvv⟩; rw [hvv, HA.out]; clear hvv vv) | (go_at_call 32; refine (register_any _ _).mono ?_; rintro e vv ⟨rfl, hvv⟩; rw [hvv, HB.out]; clear hvv vv) | (refine load_cpu rfl _ rfl rfl ST.o0 h8 ?_) | (refine load_ins rfl _ rfl rfl OX ?_) | fail)
          refine (faultR_any c h8 _).mono ?_
          rintro e u1 ⟨rfl, hb1⟩
          replace ST := ST.next (ST.later hb1)
          replace SR := SR.next hb1
          clear hb1 OX ko ka kb kc
          obtain ⟨E0, E1, E2, hbe⟩ := ends_2 (g := w.heap.size + 2) (SR.o1) (SR.o2) (ST.bel) (by omega) c Cp.fault
          have O1 := SR.o1
          go_wp2_with (first | (refine store_cpu rfl _ _ rfl rfl (c := c) rfl O1 rfl h8 ?_) | (refine store_act rfl _ _ rfl rfl (c := Cp.fault) rfl E1 rfl rfl ?_) | fail)
          refine bodyPost_ret (ret_two rfl _ rfl E0 h8 rfl E2 rfl) rfl ?_
          rw [HN.out, HX.out]
          exact ⟨rfl, hbe⟩
        | true =>
          have HB := hide hb
          have rb := isReg_iff.1 hb
          have rb0 := rb.1
          have rb1 := rb.2
          clear hb
          have HX : Hid (Cp.exec c x = (c, (⟨2, wrap64 (Cp.get c x.b + x.c), 0, Cp.get c x.a, 0, [0, 0, 0]⟩ : Cp.Act))) := hide (by unfold Cp.exec; simp [ho, HA.out, HB.out])
          rw [ho] at ko
          clear ho
          go_wp2_with (first | (go_at_call 32; refine (register_any _ _).mono ?_; rintro e vv ⟨rfl, hvv⟩; rw [hvv, HA.out]; clear hvv vv) | (go_at_call 32; refine (register_any _ _).mono ?_; rintro e vv ⟨rfl, hvv⟩; rw [hvv, HB.out]; clear hvv vv) | (refine load_cpu rfl _ rfl rfl ST.o0 h8 ?_) | (refine load_ins rfl _ rfl rfl OX ?_) | fail)
          refine region_D (by kernel_rfl) (gi + 1) (w.heap.size + 2) [16] ?_
          obtain ⟨u, hu, ST, SR, OX⟩ : ∃ u, v.drew = u ∧ StP w u c (some ⟨b, o, none⟩) n k D m d pages ∧ StB w u ∧ Obl u gi 31 #[.int .i64 x.op, .int .i64 x.a, .int .i64 x.b, .int .i64 x.c] := ⟨_, rfl, ⟨ST.o0, ST.op, ⟨ST.bel.os, ST.bel.tape, ST.bel.output, ST.bel.size, ST.bel.block⟩, ST.size⟩, ⟨SR.o1, SR.o2⟩, OX⟩
          rw [hu]
          clear hu ko ka kb kc
          have hul := OX.lt
          refine takeD 0 [0, 15, 16] rfl (by kernel_rfl) (fun _ _ _ h => h) (by rfl) (by intro w' hg; exact exec_load_cpu rfl rfl (hg.obl ST.o0 (by omega) (by omega)) h8) ?_
          refine takeDX 1 rfl (by kernel_rfl) (fun _ _ _ h => h) (by rfl) (by intro w'; go_simp; try with_reducible rfl) ?_
          refine takeD 2 [2, 4, 5, 8, 14, 16] rfl (by kernel_rfl) (fun _ _ _ h => h) (by rfl) (by intro w' hg; have g1 := (hg.obl OX (by omega) (by omega)).cell 2; simp at g1; go_simp; try with_reducible rfl) ?_
          refine takeDX 3 rfl (by kernel_rfl) (fun _ _ _ h => h) (by rfl) (by intro w'; go_simp; try with_reducible rfl) ?_
          refine takeDX 4 rfl (by kernel_rfl) (fun _ _ _ h => h) (by rfl) (by intro w'; go_simp; try with_reducible rfl) ?_
          refine takeD 5 [5, 8, 14, 16] rfl (by kernel_rfl) (fun _ _ _ h => h) (by rfl) (by intro w' hg; have g1 := cc_reg (hg.obl ST.o0 (by omega) (by omega)) h8 rb; go_simp; try with_reducible rfl) ?_
          refine takeDX 6 rfl (by kernel_rfl) (fun _ _ _ h => h) (by rfl) (by intro w'; go_simp; try with_reducible rfl) ?_
          refine takeD 7 [7, 8, 14, 16] rfl (by kernel_rfl) (fun _ _ _ h => h) (by rfl) (by intro w' hg; have g1 := (hg.obl OX (by omega) (by omega)).cell 3; simp at g1; go_simp; try with_reducible rfl) ?_
          refine takeDX 8 rfl (by kernel_rfl) (fun _ _ _ h => h) (by rfl) (by intro w'; go_simp; try with_reducible rfl) ?_
          refine takeDX 9 rfl (by kernel_rfl) (fun _ _ _ h => h) (by rfl) (by intro w'; go_simp; try with_reducible rfl) ?_
          refine takeD 10 [10, 12, 13, 14, 16] rfl (by kernel_rfl) (fun _ _ _ h => h) (by rfl) (by intro w' hg; have g1 := (hg.obl OX (by omega) (by omega)).cell 1; simp at g1; go_simp; try with_reducible rfl) ?_
          refine takeDX 11 rfl (by kernel_rfl) (fun _ _ _ h => h) (by rfl) (by intro w'; go_simp; try with_reducible rfl) ?_
          refine takeDX 12 rfl (by kernel_rfl) (fun _ _ _ h => h) (by rfl) (by intro w'; go_simp; try with_reducible rfl) ?_
          refine takeD 13 [13, 14, 16] rfl (by kernel_rfl) (fun _ _ _ h => h) (by rfl) (by intro w' hg; have g1 := cc_reg (hg.obl ST.o0 (by omega) (by omega)) h8 ra; go_simp; try with_reducible rfl) ?_
          refine takeDX 14 rfl (by kernel_rfl) (fun _ _ _ h => h) (by rfl) (by intro w'; go_simp; try with_reducible rfl) ?_
          go_simp
          simp only [wrap_spell]
          refine onlyD 15 rfl (by kernel_rfl) (by rfl) ?_
          intro K hK
          obtain ⟨E0, E1, E2, hbe⟩ := ends_2 (g := w.heap.size + 2) SR.o1 SR.o2 ST.bel (by omega) c ⟨2, wrap64 (Cp.get c x.b + x.c), 0, Cp.get c x.a, 0, [0, 0, 0]⟩
          refine wp_store_cpu rfl rfl (c := c) rfl SR.o1 rfl h8 ?_
          refine hK _ _ (fun _ => Bel.rowSelf _) ?_
          clear hK K
          refine onlyD 16 rfl (by kernel_rfl) (by rfl) ?_
          intro K hK
          refine wp_store_act rfl rfl (c := ⟨2, wrap64 (Cp.get c x.b + x.c), 0, Cp.get c x.a, 0, [0, 0, 0]⟩) rfl E1 rfl rfl ?_
          refine hK _ _ (fun h => absurd h (by decide)) ?_
          clear hK K
          refine doneD (by kernel_rfl) ?_
          go_simp
          go_wp2_with fail
          refine bodyPost_ret (ret_two rfl _ rfl E0 h8 rfl E2 rfl) rfl ?_
          rw [HN.out, HX.out]
          exact ⟨rfl, hbe⟩
    · clear hx
      have HX : Hid (Cp.exec c x = (c, (⟨3, 0, 0, 0, x.a, [Cp.get c 1, Cp.get c 2, Cp.get c 3]⟩ : Cp.Act))) := hide (by unfold Cp.exec; simp [ho])
      rw [ho] at ko
      clear ho
      go_wp2_with (first | (refine load_cpu rfl _ rfl rfl ST.o0 h8 ?_) | (refine load_ins rfl _ rfl rfl OX ?_) | fail)
      refine region_D (by kernel_rfl) (gi + 1) (w.heap.size + 2) [15] ?_
      obtain ⟨u, hu, ST, SR, OX⟩ : ∃ u, v.drew = u ∧ StP w u c (some ⟨b, o, none⟩) n k D m d pages ∧ StB w u ∧ Obl u gi 31 #[.int .i64 x.op, .int .i64 x.a, .int .i64 x.b, .int .i64 x.c] := ⟨_, rfl, ⟨ST.o0, ST.op, ⟨ST.bel.os, ST.bel.tape, ST.bel.output, ST.bel.size, ST.bel.block⟩, ST.size⟩, ⟨SR.o1, SR.o2⟩, OX⟩
      rw [hu]
      clear hu ko ka kb kc
      have hul := OX.lt
      refine takeD 0 [0, 14, 15] rfl (by kernel_rfl) (fun _ _ _ h => h) (by rfl) (by intro w' hg; exact exec_load_cpu rfl rfl (hg.obl ST.o0 (by omega) (by omega)) h8) ?_
      refine takeDX 1 rfl (by kernel_rfl) (fun _ _ _ h => h) (by rfl) (by intro w'; go_simp; try with_reducible rfl) ?_
      refine takeD 2 [2, 13, 15] rfl (by kernel_rfl) (fun _ _ _ h => h) (by rfl) (by intro w' hg; have g1 := (hg.obl OX (by omega) (by omega)).cell 1; simp at g1; go_simp; try with_reducible rfl) ?_
      refine takeDX 3 rfl (by kernel_rfl) (fun _ _ _ h => h) (by rfl) (by intro w'; go_simp; try with_reducible rfl) ?_
      refine takeDX 4 rfl (by kernel_rfl) (fun _ _ _ h => h) (by rfl) (by intro w'; go_simp; try with_reducible rfl) ?_
      refine takeD 5 [5, 12, 13, 15] rfl (by kernel_rfl) (fun _ _ _ h => h) (by rfl) (by intro w' hg; have g1 := cc_reg (hg.obl ST.o0 (by omega) (by omega)) h8 (i := 1) (by omega); simp at g1; go_simp; try with_reducible rfl) ?_
      refine takeDX 6 rfl (by kernel_rfl) (fun _ _ _ h => h) (by rfl) (by intro w'; go_simp; try with_reducible rfl) ?_
      refine takeDX 7 rfl (by kernel_rfl) (fun _ _ _ h => h) (by rfl) (by intro w'; go_simp; try with_reducible rfl) ?_
      refine takeD 8 [8, 12, 13, 15] rfl (by kernel_rfl) (fun _ _ _ h => h) (by rfl) (by intro w' hg; have g1 := cc_reg (hg.obl ST.o0 (by omega) (by omega)) h8 (i := 2) (by omega); simp at g1; go_simp; try with_reducible rfl) ?_
      refine takeDX 9 rfl (by kernel_rfl) (fun _ _ _ h => h) (by rfl) (by intro w'; go_simp; try with_reducible rfl) ?_
      refine takeDX 10 rfl (by kernel_rfl) (fun _ _ _ h => h) (by rfl) (by intro w'; go_simp; try with_reducible rfl) ?_
      refine takeD 11 [11, 12, 13, 15] rfl (by kernel_rfl) (fun _ _ _ h => h) (by rfl) (by intro w' hg; have g1 := cc_reg (hg.obl ST.o0 (by omega) (by omega)) h8 (i := 3) (by omega); simp at g1; go_simp; try with_reducible rfl) ?_
      refine takeDX 12 rfl (by kernel_rfl) (fun _ _ _ h => h) (by rfl) (by intro w'; exact exec_build rfl (vs := [(0, .int .i64 (Cp.get c 1)), (1, .int .i64 (Cp.get c 2)), (2, .int .i64 (Cp.get c 3))]) (by go_simp) (built_args _ _ _)) ?_
      refine takeDX 13 rfl (by kernel_rfl) (fun _ _ _ h => h) (by rfl) (by intro w'; exact exec_build rfl (vs := [(0, .int .i64 3), (4, .int .i64 x.a), (5, .agg #[.int .i64 (Cp.get c 1), .int .i64 (Cp.get c 2), .int .i64 (Cp.get c 3)])]) (by go_simp) (built_call _ _ _ _)) ?_
      go_simp
      refine onlyD 14 rfl (by kernel_rfl) (by rfl) ?_
      intro K hK
      obtain ⟨E0, E1, E2, hbe⟩ := ends_2 (g := w.heap.size + 2) SR.o1 SR.o2 ST.bel (by omega) c ⟨3, 0, 0, 0, x.a, [Cp.get c 1, Cp.get c 2, Cp.get c 3]⟩
      refine wp_store_cpu rfl rfl (c := c) rfl SR.o1 rfl h8 ?_
      refine hK _ _ (fun _ => Bel.rowSelf _) ?_
      clear hK K
      refine onlyD 15 rfl (by kernel_rfl) (by rfl) ?_
      intro K hK
      refine wp_store_act rfl rfl (c := ⟨3, 0, 0, 0, x.a, [Cp.get c 1, Cp.get c 2, Cp.get c 3]⟩) rfl E1 rfl rfl ?_
      refine hK _ _ (fun h => absurd h (by decide)) ?_
      clear hK K
      refine doneD (by kernel_rfl) ?_
      go_simp
      go_wp2_with fail
      refine bodyPost_ret (ret_two rfl _ rfl E0 h8 rfl E2 rfl) rfl ?_
      rw [HN.out, HX.out]
      exact ⟨rfl, hbe⟩
  · skip
    have HX : Hid (Cp.exec c x = (c, Cp.fault)) := hide (exec_none hx)
    have n0 : (x.op == 0) = false := by simp; omega
    have n1 : (x.op == 1) = false := by simp; omega
    have n2 : (x.op == 2) = false := by simp; omega
    have n3 : (x.op == 3) = false := by simp; omega
    have n4 : (x.op == 4) = false := by simp; omega
    have n5 : (x.op == 5) = false := by simp; omega
    have n6 : (x.op == 6) = false := by simp; omega
    have n7 : (x.op == 7) = false := by simp; omega
    have n8 : (x.op == 8) = false := by simp; omega
    have n9 : (x.op == 9) = false := by simp; omega
    have n10 : (x.op == 10) = false := by simp; omega
    have n11 : (x.op == 11) = false := by simp; omega
    have n12 : (x.op == 12) = false := by simp; omega
    clear hx
    generalize x.op = xo at *
    go_wp2_with (first | (refine load_cpu rfl _ rfl rfl ST.o0 h8 ?_) | (refine load_ins rfl _ rfl rfl OX ?_) | fail)
    refine (faultR_any c h8 _).mono ?_
    rintro e u1 ⟨rfl, hb1⟩
    replace ST := ST.next (ST.later hb1)
    replace SR := SR.next hb1
    clear hb1 OX ko ka kb kc
    obtain ⟨E0, E1, E2, hbe⟩ := ends_2 (g := w.heap.size + 2) (SR.o1) (SR.o2) (ST.bel) (by omega) c Cp.fault
    have O1 := SR.o1
    go_wp2_with (first | (refine store_cpu rfl _ _ rfl rfl (c := c) rfl O1 rfl h8 ?_) | (refine store_act rfl _ _ rfl rfl (c := Cp.fault) rfl E1 rfl rfl ?_) | fail)
    refine bodyPost_ret (ret_two rfl _ rfl E0 h8 rfl E2 rfl) rfl ?_
    rw [HN.out, HX.out]
    exact ⟨rfl, hbe⟩
/-- The reference's Next. -/
theorem refNext_any (c : Cp.Cpu) (h8 : c.regs.length = 8) (code : List Cd.Ins) (A D : Option Addr) (n k m d : Nat) (pages : Int) (B : Nat) (w : World) (h : Inss w B A n code) (hB : B ≤ w.heap.size) (h64 : ∀ x ∈ code, Cd.in64 x) :
    Calls Try.prog 14 #[.agg (cc c), .agg #[.slice A n k, .slice D m d, .int .i64 pages]] w (TwoPost (Cp.next c code) w) := by
  have hl := h.len
  by_cases hp : 0 ≤ c.pc ∧ c.pc < (n : Int)
  · obtain ⟨j, hj⟩ := Int.eq_ofNat_of_zero_le hp.1
    exact refNext_in c h8 code A D n k m d pages B w h hB h64 j (by omega) hj
  · rw [Cp.next_out (by omega)]
    exact refNext_out c h8 A D n k m d pages hp w
end Go.Proofs.Ytkcegdnjgkideaa
