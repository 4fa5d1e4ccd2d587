/- What makes inputs of the statements: an instruction: a contract. -/
import Derived.Test.YtkcegdnjgkideaaMade
namespace Go.Proofs.Ytkcegdnjgkideaa
open Go.RowKit

theorem made_jump' (n : Nat) (hn : n ≤ 1000000) {v : Int} (hv : 0 ≤ v ∧ v ≤ n) : InsMade n ⟨8, v, 0, 0⟩ := by
  refine ⟨fun m hm => ?_, by unfold Cd.in64; simp only; omega, by simp⟩
  unfold Cd.right Cd.fits Cd.bnd Cd.opn
  simp [Cd.tbl]
  omega
theorem made_if (n : Nat) (hn : n ≤ 1000000) {r v : Int} (hr : 0 ≤ r ∧ r ≤ 7) (hv : 0 ≤ v ∧ v ≤ n) : InsMade n ⟨9, r, v, 0⟩ := by
  refine ⟨fun m hm => ?_, by unfold Cd.in64; simp only; omega, by simp⟩
  unfold Cd.right Cd.fits Cd.bnd Cd.opn
  simp [Cd.tbl]
  omega
theorem made_load (n : Nat) {r u v : Int} (hr : 0 ≤ r ∧ r ≤ 7) (hu : 0 ≤ u ∧ u ≤ 7) (hv : 0 ≤ v ∧ v ≤ 256) : InsMade n ⟨10, r, u, v⟩ := by
  refine ⟨fun m hm => ?_, by unfold Cd.in64; simp only; omega, by simp⟩
  unfold Cd.right Cd.fits Cd.bnd Cd.opn
  simp [Cd.tbl]
  omega
theorem made_store (n : Nat) {r u v : Int} (hr : 0 ≤ r ∧ r ≤ 7) (hu : 0 ≤ u ∧ u ≤ 7) (hv : 0 ≤ v ∧ v ≤ 256) : InsMade n ⟨11, r, u, v⟩ := by
  refine ⟨fun m hm => ?_, by unfold Cd.in64; simp only; omega, by simp⟩
  unfold Cd.right Cd.fits Cd.bnd Cd.opn
  simp [Cd.tbl]
  omega
theorem made_call (n : Nat) {v : Int} (hv : 1 ≤ v ∧ v ≤ 24) : InsMade n ⟨12, v, 0, 0⟩ := by
  refine ⟨fun m hm => ?_, by unfold Cd.in64; simp only; omega, by simp⟩
  unfold Cd.right Cd.fits Cd.bnd Cd.opn
  simp [Cd.tbl]
  omega
/-- An instruction, and the dice. -/
def InsThrown (n C b : Nat) (w : World) (e : Ending) (w' : World) : Prop := ∃ x : Cd.Ins, e = .returned (ia x) ∧ InsMade n x ∧ Dice w' C b ∧ Bel w.heap.size b w w'
theorem Dice.put_other {w : World} {C b g : Nat} (h : Dice w C b) (hne : b ≠ g) (hC : C ≤ g) (i : Nat) (u : Value) : Dice (w.setCell ⟨g, i, none⟩ u) C b := by
  obtain ⟨A, n, c, l, h1, h2, h3, h4⟩ := h
  exact ⟨A, n, c, l, h1.put_other hne i u, h2.below ((Below.refl _ _).setCell (p := ⟨g, i, none⟩) hC _), h3, h4⟩
theorem Bel.setGe {base b : Nat} {w w' : World} (h : Bel base b w w') {g : Nat} (hg : base ≤ g) (i : Nat) (u : Value) : Bel base b w (w'.setCell ⟨g, i, none⟩ u) := h.trans (Bel.of ((Below.refl base w').setCell (p := ⟨g, i, none⟩) hg u))

set_option maxRecDepth 100000 in
set_option maxHeartbeats 8000000 in
theorem instr_dice (C b n : Nat) (w : World) (h : Dice w C b) (hn : n ≤ 1000) :
    Calls Try.prog 12 #[.pointer (some ⟨b, 0, none⟩), .int .i64 (n : Int)] w (InsThrown n C b w) := by
  have O0 := Obl.make w 31 #[.int .i64 0, .int .i64 0, .int .i64 0, .int .i64 0]
  have hlt := h.lt
  have hCb : C ≤ w.heap.size := by obtain ⟨_, _, _, _, _, _, _, h4⟩ := h; omega
  have HD0 := hide (h.alloc (.cells #[.int .i64 0, .int .i64 0, .int .i64 0, .int .i64 0] 31))
  have HO0 := hide O0
  have HB0 := hide (Bel.of (b := b) ((Below.refl w.heap.size w).alloc (Nat.le_refl _) (.cells #[.int .i64 0, .int .i64 0, .int .i64 0, .int .i64 0] 31)))
  clear h O0
  go_enter Try.func12, Try.ntmps12
  go_wp2_with fail
  refine (register_dice C b _ HD0.out).mono ?_
  rintro e w1 ⟨r, rfl, hr, hD1, hB1⟩
  have HD1 := hide hD1
  have HO1 := hide (hB1.obl' HO0.out (by omega))
  have HB1 := hide (HB0.out.then hB1)
  clear hD1 hB1 HD0 HO0 HB0
  go_wp2_with fail
  refine (next_dice C b 10 _ HD1.out (by omega) (by omega)).mono ?_
  rintro e w2 ⟨v, rfl, hv, hD2, hB2⟩
  have HD2 := hide hD2
  have HO2 := hide (hB2.obl' HO1.out (by omega))
  have HB2 := hide (HB1.out.then hB2)
  clear hD2 hB2 HD1 HO1 HB1
  rcases (show v = 0 ∨ v = 1 ∨ v = 2 ∨ v = 3 ∨ v = 4 ∨ v = 5 ∨ v = 6 ∨ v = 7 ∨ v = 8 ∨ v = 9 by omega) with rfl | rfl | rfl | rfl | rfl | rfl | rfl | rfl | rfl | rfl
  · skip
    have p0 := HO2.out.cell 0
    have z0 := HO2.out.free 0
    have p1 := HO2.out.cell 1
    have z1 := HO2.out.free 1
    have p2 := HO2.out.cell 2
    have z2 := HO2.out.free 2
    have p3 := HO2.out.cell 3
    have z3 := HO2.out.free 3
    simp at p0 p1 p2 p3
    have OF : Obl ((((w2.setCell ⟨w.heap.size, 0, none⟩ (.int .i64 0)).setCell ⟨w.heap.size, 1, none⟩ (.int .i64 0)).setCell ⟨w.heap.size, 2, none⟩ (.int .i64 0)).setCell ⟨w.heap.size, 3, none⟩ (.int .i64 0)) w.heap.size 31 #[.int .i64 0, .int .i64 0, .int .i64 0, .int .i64 0] := ((((HO2.out.put 0 (.int .i64 0)).put 1 (.int .i64 0)).put 2 (.int .i64 0)).put 3 (.int .i64 0))
    have HDF := hide ((((HD2.out.put_other (g := w.heap.size) (by omega) hCb 0 (.int .i64 0)).put_other (g := w.heap.size) (by omega) hCb 1 (.int .i64 0)).put_other (g := w.heap.size) (by omega) hCb 2 (.int .i64 0)).put_other (g := w.heap.size) (by omega) hCb 3 (.int .i64 0))
    have HBF := hide ((((HB2.out.setGe (g := w.heap.size) (Nat.le_refl _) 0 (.int .i64 0)).setGe (g := w.heap.size) (Nat.le_refl _) 1 (.int .i64 0)).setGe (g := w.heap.size) (Nat.le_refl _) 2 (.int .i64 0)).setGe (g := w.heap.size) (Nat.le_refl _) 3 (.int .i64 0))
    go_wp2
    refine bodyPost_ret (results_cell_1 rfl _ (b := w.heap.size) rfl OF Try.underlying31 rfl insSize) rfl ?_
    exact ⟨⟨0, 0, 0, 0⟩, rfl, made_nop n, HDF.out, HBF.out⟩
  · skip
    go_wp2_with fail
    refine (register_dice C b _ HD2.out).mono ?_
    rintro e w3 ⟨x1, rfl, h1, hD, hB⟩
    have HD3 := hide hD
    have HO3 := hide (hB.obl' HO2.out (by omega))
    have HB3 := hide (HB2.out.then hB)
    clear hD hB
    have p0 := HO3.out.cell 0
    have z0 := HO3.out.free 0
    have p1 := HO3.out.cell 1
    have z1 := HO3.out.free 1
    have p2 := HO3.out.cell 2
    have z2 := HO3.out.free 2
    have p3 := HO3.out.cell 3
    have z3 := HO3.out.free 3
    simp at p0 p1 p2 p3
    have OF : Obl ((((w3.setCell ⟨w.heap.size, 0, none⟩ (.int .i64 2)).setCell ⟨w.heap.size, 1, none⟩ (.int .i64 (r))).setCell ⟨w.heap.size, 2, none⟩ (.int .i64 (x1))).setCell ⟨w.heap.size, 3, none⟩ (.int .i64 0)) w.heap.size 31 #[.int .i64 2, .int .i64 (r), .int .i64 (x1), .int .i64 0] := ((((HO3.out.put 0 (.int .i64 2)).put 1 (.int .i64 (r))).put 2 (.int .i64 (x1))).put 3 (.int .i64 0))
    have HDF := hide ((((HD3.out.put_other (g := w.heap.size) (by omega) hCb 0 (.int .i64 2)).put_other (g := w.heap.size) (by omega) hCb 1 (.int .i64 (r))).put_other (g := w.heap.size) (by omega) hCb 2 (.int .i64 (x1))).put_other (g := w.heap.size) (by omega) hCb 3 (.int .i64 0))
    have HBF := hide ((((HB3.out.setGe (g := w.heap.size) (Nat.le_refl _) 0 (.int .i64 2)).setGe (g := w.heap.size) (Nat.le_refl _) 1 (.int .i64 (r))).setGe (g := w.heap.size) (Nat.le_refl _) 2 (.int .i64 (x1))).setGe (g := w.heap.size) (Nat.le_refl _) 3 (.int .i64 0))
    go_wp2
    refine bodyPost_ret (results_cell_1 rfl _ (b := w.heap.size) rfl OF Try.underlying31 rfl insSize) rfl ?_
    exact ⟨⟨2, r, x1, 0⟩, rfl, made_move n hr h1, HDF.out, HBF.out⟩
  · skip
    go_wp2_with fail
    refine (next_dice C b 5 _ HD2.out (by omega) (by omega)).mono ?_
    rintro e w3 ⟨x1, rfl, h1, hD, hB⟩
    have HD3 := hide hD
    have HO3 := hide (hB.obl' HO2.out (by omega))
    have HB3 := hide (HB2.out.then hB)
    clear hD hB
    go_wp2_with fail
    refine (register_dice C b _ HD3.out).mono ?_
    rintro e w4 ⟨x2, rfl, h2, hD, hB⟩
    have HD4 := hide hD
    have HO4 := hide (hB.obl' HO3.out (by omega))
    have HB4 := hide (HB3.out.then hB)
    clear hD hB
    go_wp2_with fail
    refine (register_dice C b _ HD4.out).mono ?_
    rintro e w5 ⟨x3, rfl, h3, hD, hB⟩
    have HD5 := hide hD
    have HO5 := hide (hB.obl' HO4.out (by omega))
    have HB5 := hide (HB4.out.then hB)
    clear hD hB
    have p0 := HO5.out.cell 0
    have z0 := HO5.out.free 0
    have p1 := HO5.out.cell 1
    have z1 := HO5.out.free 1
    have p2 := HO5.out.cell 2
    have z2 := HO5.out.free 2
    have p3 := HO5.out.cell 3
    have z3 := HO5.out.free 3
    simp at p0 p1 p2 p3
    have OF : Obl ((((w5.setCell ⟨w.heap.size, 0, none⟩ (.int .i64 (3 + x1))).setCell ⟨w.heap.size, 1, none⟩ (.int .i64 (r))).setCell ⟨w.heap.size, 2, none⟩ (.int .i64 (x2))).setCell ⟨w.heap.size, 3, none⟩ (.int .i64 (x3))) w.heap.size 31 #[.int .i64 (3 + x1), .int .i64 (r), .int .i64 (x2), .int .i64 (x3)] := ((((HO5.out.put 0 (.int .i64 (3 + x1))).put 1 (.int .i64 (r))).put 2 (.int .i64 (x2))).put 3 (.int .i64 (x3)))
    have HDF := hide ((((HD5.out.put_other (g := w.heap.size) (by omega) hCb 0 (.int .i64 (3 + x1))).put_other (g := w.heap.size) (by omega) hCb 1 (.int .i64 (r))).put_other (g := w.heap.size) (by omega) hCb 2 (.int .i64 (x2))).put_other (g := w.heap.size) (by omega) hCb 3 (.int .i64 (x3)))
    have HBF := hide ((((HB5.out.setGe (g := w.heap.size) (Nat.le_refl _) 0 (.int .i64 (3 + x1))).setGe (g := w.heap.size) (Nat.le_refl _) 1 (.int .i64 (r))).setGe (g := w.heap.size) (Nat.le_refl _) 2 (.int .i64 (x2))).setGe (g := w.heap.size) (Nat.le_refl _) 3 (.int .i64 (x3)))
    go_wp2
    refine bodyPost_ret (results_cell_1 rfl _ (b := w.heap.size) rfl OF Try.underlying31 rfl insSize) rfl ?_
    exact ⟨⟨3 + x1, r, x2, x3⟩, rfl, made_three n (by omega) hr h2 h3, HDF.out, HBF.out⟩
  · skip
    go_wp2_with fail
    refine (next_dice C b ((n : Int) + 1) _ HD2.out (by omega) (by omega)).mono ?_
    rintro e w3 ⟨x1, rfl, h1, hD, hB⟩
    have HD3 := hide hD
    have HO3 := hide (hB.obl' HO2.out (by omega))
    have HB3 := hide (HB2.out.then hB)
    clear hD hB
    have p0 := HO3.out.cell 0
    have z0 := HO3.out.free 0
    have p1 := HO3.out.cell 1
    have z1 := HO3.out.free 1
    have p2 := HO3.out.cell 2
    have z2 := HO3.out.free 2
    have p3 := HO3.out.cell 3
    have z3 := HO3.out.free 3
    simp at p0 p1 p2 p3
    have OF : Obl ((((w3.setCell ⟨w.heap.size, 0, none⟩ (.int .i64 8)).setCell ⟨w.heap.size, 1, none⟩ (.int .i64 (x1))).setCell ⟨w.heap.size, 2, none⟩ (.int .i64 0)).setCell ⟨w.heap.size, 3, none⟩ (.int .i64 0)) w.heap.size 31 #[.int .i64 8, .int .i64 (x1), .int .i64 0, .int .i64 0] := ((((HO3.out.put 0 (.int .i64 8)).put 1 (.int .i64 (x1))).put 2 (.int .i64 0)).put 3 (.int .i64 0))
    have HDF := hide ((((HD3.out.put_other (g := w.heap.size) (by omega) hCb 0 (.int .i64 8)).put_other (g := w.heap.size) (by omega) hCb 1 (.int .i64 (x1))).put_other (g := w.heap.size) (by omega) hCb 2 (.int .i64 0)).put_other (g := w.heap.size) (by omega) hCb 3 (.int .i64 0))
    have HBF := hide ((((HB3.out.setGe (g := w.heap.size) (Nat.le_refl _) 0 (.int .i64 8)).setGe (g := w.heap.size) (Nat.le_refl _) 1 (.int .i64 (x1))).setGe (g := w.heap.size) (Nat.le_refl _) 2 (.int .i64 0)).setGe (g := w.heap.size) (Nat.le_refl _) 3 (.int .i64 0))
    go_wp2
    refine bodyPost_ret (results_cell_1 rfl _ (b := w.heap.size) rfl OF Try.underlying31 rfl insSize) rfl ?_
    exact ⟨⟨8, x1, 0, 0⟩, rfl, made_jump' n (by omega) (by omega), HDF.out, HBF.out⟩
  · skip
    go_wp2_with fail
    refine (next_dice C b ((n : Int) + 1) _ HD2.out (by omega) (by omega)).mono ?_
    rintro e w3 ⟨x1, rfl, h1, hD, hB⟩
    have HD3 := hide hD
    have HO3 := hide (hB.obl' HO2.out (by omega))
    have HB3 := hide (HB2.out.then hB)
    clear hD hB
    have p0 := HO3.out.cell 0
    have z0 := HO3.out.free 0
    have p1 := HO3.out.cell 1
    have z1 := HO3.out.free 1
    have p2 := HO3.out.cell 2
    have z2 := HO3.out.free 2
    have p3 := HO3.out.cell 3
    have z3 := HO3.out.free 3
    simp at p0 p1 p2 p3
    have OF : Obl ((((w3.setCell ⟨w.heap.size, 0, none⟩ (.int .i64 9)).setCell ⟨w.heap.size, 1, none⟩ (.int .i64 (r))).setCell ⟨w.heap.size, 2, none⟩ (.int .i64 (x1))).setCell ⟨w.heap.size, 3, none⟩ (.int .i64 0)) w.heap.size 31 #[.int .i64 9, .int .i64 (r), .int .i64 (x1), .int .i64 0] := ((((HO3.out.put 0 (.int .i64 9)).put 1 (.int .i64 (r))).put 2 (.int .i64 (x1))).put 3 (.int .i64 0))
    have HDF := hide ((((HD3.out.put_other (g := w.heap.size) (by omega) hCb 0 (.int .i64 9)).put_other (g := w.heap.size) (by omega) hCb 1 (.int .i64 (r))).put_other (g := w.heap.size) (by omega) hCb 2 (.int .i64 (x1))).put_other (g := w.heap.size) (by omega) hCb 3 (.int .i64 0))
    have HBF := hide ((((HB3.out.setGe (g := w.heap.size) (Nat.le_refl _) 0 (.int .i64 9)).setGe (g := w.heap.size) (Nat.le_refl _) 1 (.int .i64 (r))).setGe (g := w.heap.size) (Nat.le_refl _) 2 (.int .i64 (x1))).setGe (g := w.heap.size) (Nat.le_refl _) 3 (.int .i64 0))
    go_wp2
    refine bodyPost_ret (results_cell_1 rfl _ (b := w.heap.size) rfl OF Try.underlying31 rfl insSize) rfl ?_
    exact ⟨⟨9, r, x1, 0⟩, rfl, made_if n (by omega) hr (by omega), HDF.out, HBF.out⟩
  · skip
    go_wp2_with fail
    refine (register_dice C b _ HD2.out).mono ?_
    rintro e w3 ⟨x1, rfl, h1, hD, hB⟩
    have HD3 := hide hD
    have HO3 := hide (hB.obl' HO2.out (by omega))
    have HB3 := hide (HB2.out.then hB)
    clear hD hB
    go_wp2_with fail
    refine (next_dice C b 40 _ HD3.out (by omega) (by omega)).mono ?_
    rintro e w4 ⟨x2, rfl, h2, hD, hB⟩
    have HD4 := hide hD
    have HO4 := hide (hB.obl' HO3.out (by omega))
    have HB4 := hide (HB3.out.then hB)
    clear hD hB
    have p0 := HO4.out.cell 0
    have z0 := HO4.out.free 0
    have p1 := HO4.out.cell 1
    have z1 := HO4.out.free 1
    have p2 := HO4.out.cell 2
    have z2 := HO4.out.free 2
    have p3 := HO4.out.cell 3
    have z3 := HO4.out.free 3
    simp at p0 p1 p2 p3
    have OF : Obl ((((w4.setCell ⟨w.heap.size, 0, none⟩ (.int .i64 10)).setCell ⟨w.heap.size, 1, none⟩ (.int .i64 (r))).setCell ⟨w.heap.size, 2, none⟩ (.int .i64 (x1))).setCell ⟨w.heap.size, 3, none⟩ (.int .i64 (x2))) w.heap.size 31 #[.int .i64 10, .int .i64 (r), .int .i64 (x1), .int .i64 (x2)] := ((((HO4.out.put 0 (.int .i64 10)).put 1 (.int .i64 (r))).put 2 (.int .i64 (x1))).put 3 (.int .i64 (x2)))
    have HDF := hide ((((HD4.out.put_other (g := w.heap.size) (by omega) hCb 0 (.int .i64 10)).put_other (g := w.heap.size) (by omega) hCb 1 (.int .i64 (r))).put_other (g := w.heap.size) (by omega) hCb 2 (.int .i64 (x1))).put_other (g := w.heap.size) (by omega) hCb 3 (.int .i64 (x2)))
    have HBF := hide ((((HB4.out.setGe (g := w.heap.size) (Nat.le_refl _) 0 (.int .i64 10)).setGe (g := w.heap.size) (Nat.le_refl _) 1 (.int .i64 (r))).setGe (g := w.heap.size) (Nat.le_refl _) 2 (.int .i64 (x1))).setGe (g := w.heap.size) (Nat.le_refl _) 3 (.int .i64 (x2)))
    go_wp2
    refine bodyPost_ret (results_cell_1 rfl _ (b := w.heap.size) rfl OF Try.underlying31 rfl insSize) rfl ?_
    exact ⟨⟨10, r, x1, x2⟩, rfl, made_load n hr h1 (by omega), HDF.out, HBF.out⟩
  · skip
    go_wp2_with fail
    refine (register_dice C b _ HD2.out).mono ?_
    rintro e w3 ⟨x1, rfl, h1, hD, hB⟩
    have HD3 := hide hD
    have HO3 := hide (hB.obl' HO2.out (by omega))
    have HB3 := hide (HB2.out.then hB)
    clear hD hB
    go_wp2_with fail
    refine (next_dice C b 40 _ HD3.out (by omega) (by omega)).mono ?_
    rintro e w4 ⟨x2, rfl, h2, hD, hB⟩
    have HD4 := hide hD
    have HO4 := hide (hB.obl' HO3.out (by omega))
    have HB4 := hide (HB3.out.then hB)
    clear hD hB
    have p0 := HO4.out.cell 0
    have z0 := HO4.out.free 0
    have p1 := HO4.out.cell 1
    have z1 := HO4.out.free 1
    have p2 := HO4.out.cell 2
    have z2 := HO4.out.free 2
    have p3 := HO4.out.cell 3
    have z3 := HO4.out.free 3
    simp at p0 p1 p2 p3
    have OF : Obl ((((w4.setCell ⟨w.heap.size, 0, none⟩ (.int .i64 11)).setCell ⟨w.heap.size, 1, none⟩ (.int .i64 (r))).setCell ⟨w.heap.size, 2, none⟩ (.int .i64 (x1))).setCell ⟨w.heap.size, 3, none⟩ (.int .i64 (x2))) w.heap.size 31 #[.int .i64 11, .int .i64 (r), .int .i64 (x1), .int .i64 (x2)] := ((((HO4.out.put 0 (.int .i64 11)).put 1 (.int .i64 (r))).put 2 (.int .i64 (x1))).put 3 (.int .i64 (x2)))
    have HDF := hide ((((HD4.out.put_other (g := w.heap.size) (by omega) hCb 0 (.int .i64 11)).put_other (g := w.heap.size) (by omega) hCb 1 (.int .i64 (r))).put_other (g := w.heap.size) (by omega) hCb 2 (.int .i64 (x1))).put_other (g := w.heap.size) (by omega) hCb 3 (.int .i64 (x2)))
    have HBF := hide ((((HB4.out.setGe (g := w.heap.size) (Nat.le_refl _) 0 (.int .i64 11)).setGe (g := w.heap.size) (Nat.le_refl _) 1 (.int .i64 (r))).setGe (g := w.heap.size) (Nat.le_refl _) 2 (.int .i64 (x1))).setGe (g := w.heap.size) (Nat.le_refl _) 3 (.int .i64 (x2)))
    go_wp2
    refine bodyPost_ret (results_cell_1 rfl _ (b := w.heap.size) rfl OF Try.underlying31 rfl insSize) rfl ?_
    exact ⟨⟨11, r, x1, x2⟩, rfl, made_store n hr h1 (by omega), HDF.out, HBF.out⟩
  · skip
    go_wp2_with fail
    refine (next_dice C b 24 _ HD2.out (by omega) (by omega)).mono ?_
    rintro e w3 ⟨x1, rfl, h1, hD, hB⟩
    have HD3 := hide hD
    have HO3 := hide (hB.obl' HO2.out (by omega))
    have HB3 := hide (HB2.out.then hB)
    clear hD hB
    have p0 := HO3.out.cell 0
    have z0 := HO3.out.free 0
    have p1 := HO3.out.cell 1
    have z1 := HO3.out.free 1
    have p2 := HO3.out.cell 2
    have z2 := HO3.out.free 2
    have p3 := HO3.out.cell 3
    have z3 := HO3.out.free 3
    simp at p0 p1 p2 p3
    have OF : Obl ((((w3.setCell ⟨w.heap.size, 0, none⟩ (.int .i64 12)).setCell ⟨w.heap.size, 1, none⟩ (.int .i64 (1 + x1))).setCell ⟨w.heap.size, 2, none⟩ (.int .i64 0)).setCell ⟨w.heap.size, 3, none⟩ (.int .i64 0)) w.heap.size 31 #[.int .i64 12, .int .i64 (1 + x1), .int .i64 0, .int .i64 0] := ((((HO3.out.put 0 (.int .i64 12)).put 1 (.int .i64 (1 + x1))).put 2 (.int .i64 0)).put 3 (.int .i64 0))
    have HDF := hide ((((HD3.out.put_other (g := w.heap.size) (by omega) hCb 0 (.int .i64 12)).put_other (g := w.heap.size) (by omega) hCb 1 (.int .i64 (1 + x1))).put_other (g := w.heap.size) (by omega) hCb 2 (.int .i64 0)).put_other (g := w.heap.size) (by omega) hCb 3 (.int .i64 0))
    have HBF := hide ((((HB3.out.setGe (g := w.heap.size) (Nat.le_refl _) 0 (.int .i64 12)).setGe (g := w.heap.size) (Nat.le_refl _) 1 (.int .i64 (1 + x1))).setGe (g := w.heap.size) (Nat.le_refl _) 2 (.int .i64 0)).setGe (g := w.heap.size) (Nat.le_refl _) 3 (.int .i64 0))
    go_wp2
    refine bodyPost_ret (results_cell_1 rfl _ (b := w.heap.size) rfl OF Try.underlying31 rfl insSize) rfl ?_
    exact ⟨⟨12, 1 + x1, 0, 0⟩, rfl, made_call n (by omega), HDF.out, HBF.out⟩
  · skip
    go_wp2_with fail
    refine (word_dice C b _ HD2.out).mono ?_
    rintro e w3 ⟨x1, rfl, h1, hD, hB⟩
    have HD3 := hide hD
    have HO3 := hide (hB.obl' HO2.out (by omega))
    have HB3 := hide (HB2.out.then hB)
    clear hD hB
    have p0 := HO3.out.cell 0
    have z0 := HO3.out.free 0
    have p1 := HO3.out.cell 1
    have z1 := HO3.out.free 1
    have p2 := HO3.out.cell 2
    have z2 := HO3.out.free 2
    have p3 := HO3.out.cell 3
    have z3 := HO3.out.free 3
    simp at p0 p1 p2 p3
    have OF : Obl ((((w3.setCell ⟨w.heap.size, 0, none⟩ (.int .i64 1)).setCell ⟨w.heap.size, 1, none⟩ (.int .i64 (r))).setCell ⟨w.heap.size, 2, none⟩ (.int .i64 (x1))).setCell ⟨w.heap.size, 3, none⟩ (.int .i64 0)) w.heap.size 31 #[.int .i64 1, .int .i64 (r), .int .i64 (x1), .int .i64 0] := ((((HO3.out.put 0 (.int .i64 1)).put 1 (.int .i64 (r))).put 2 (.int .i64 (x1))).put 3 (.int .i64 0))
    have HDF := hide ((((HD3.out.put_other (g := w.heap.size) (by omega) hCb 0 (.int .i64 1)).put_other (g := w.heap.size) (by omega) hCb 1 (.int .i64 (r))).put_other (g := w.heap.size) (by omega) hCb 2 (.int .i64 (x1))).put_other (g := w.heap.size) (by omega) hCb 3 (.int .i64 0))
    have HBF := hide ((((HB3.out.setGe (g := w.heap.size) (Nat.le_refl _) 0 (.int .i64 1)).setGe (g := w.heap.size) (Nat.le_refl _) 1 (.int .i64 (r))).setGe (g := w.heap.size) (Nat.le_refl _) 2 (.int .i64 (x1))).setGe (g := w.heap.size) (Nat.le_refl _) 3 (.int .i64 0))
    go_wp2
    refine bodyPost_ret (results_cell_1 rfl _ (b := w.heap.size) rfl OF Try.underlying31 rfl insSize) rfl ?_
    exact ⟨⟨1, r, x1, 0⟩, rfl, made_set n hr h1, HDF.out, HBF.out⟩
  · skip
    go_wp2_with fail
    refine (word_dice C b _ HD2.out).mono ?_
    rintro e w3 ⟨x1, rfl, h1, hD, hB⟩
    have HD3 := hide hD
    have HO3 := hide (hB.obl' HO2.out (by omega))
    have HB3 := hide (HB2.out.then hB)
    clear hD hB
    have p0 := HO3.out.cell 0
    have z0 := HO3.out.free 0
    have p1 := HO3.out.cell 1
    have z1 := HO3.out.free 1
    have p2 := HO3.out.cell 2
    have z2 := HO3.out.free 2
    have p3 := HO3.out.cell 3
    have z3 := HO3.out.free 3
    simp at p0 p1 p2 p3
    have OF : Obl ((((w3.setCell ⟨w.heap.size, 0, none⟩ (.int .i64 1)).setCell ⟨w.heap.size, 1, none⟩ (.int .i64 (r))).setCell ⟨w.heap.size, 2, none⟩ (.int .i64 (x1))).setCell ⟨w.heap.size, 3, none⟩ (.int .i64 0)) w.heap.size 31 #[.int .i64 1, .int .i64 (r), .int .i64 (x1), .int .i64 0] := ((((HO3.out.put 0 (.int .i64 1)).put 1 (.int .i64 (r))).put 2 (.int .i64 (x1))).put 3 (.int .i64 0))
    have HDF := hide ((((HD3.out.put_other (g := w.heap.size) (by omega) hCb 0 (.int .i64 1)).put_other (g := w.heap.size) (by omega) hCb 1 (.int .i64 (r))).put_other (g := w.heap.size) (by omega) hCb 2 (.int .i64 (x1))).put_other (g := w.heap.size) (by omega) hCb 3 (.int .i64 0))
    have HBF := hide ((((HB3.out.setGe (g := w.heap.size) (Nat.le_refl _) 0 (.int .i64 1)).setGe (g := w.heap.size) (Nat.le_refl _) 1 (.int .i64 (r))).setGe (g := w.heap.size) (Nat.le_refl _) 2 (.int .i64 (x1))).setGe (g := w.heap.size) (Nat.le_refl _) 3 (.int .i64 0))
    go_wp2
    refine bodyPost_ret (results_cell_1 rfl _ (b := w.heap.size) rfl OF Try.underlying31 rfl insSize) rfl ?_
    exact ⟨⟨1, r, x1, 0⟩, rfl, made_set n hr h1, HDF.out, HBF.out⟩
end Go.Proofs.Ytkcegdnjgkideaa
