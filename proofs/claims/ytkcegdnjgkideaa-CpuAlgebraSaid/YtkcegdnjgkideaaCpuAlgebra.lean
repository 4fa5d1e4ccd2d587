/- Layer 5: adding and subtracting undo each other, the order does not matter (CpuAlgebra): the walk. (Written by tools/mkalg.py.) -/
import Derived.Test.YtkcegdnjgkideaaCpuLaw
namespace Go.Proofs.Ytkcegdnjgkideaa
open Go.RowKit

theorem new_cpu (u : World) : ∃ u', u.alloc (.cells #[.int .i64 0, .int .i64 0, .int .i64 0, .int .i64 0, .int .i64 0, .int .i64 0, .int .i64 0, .int .i64 0, .int .i64 0] 24) = u' ∧ Obl u' u.heap.size 24 zc ∧ Below u.heap.size u u' := ⟨_, rfl, Obl.make u 24 zc, (Below.refl _ _).alloc (Nat.le_refl _) _⟩
theorem back_add {a b : Int} (h : Cp.i64 a) : wrap64 (wrap64 (a + b) - b) = a := by
  unfold wrap64
  unfold Cp.i64 at h
  omega
theorem alg_1 (p a b x3 x4 x5 x6 x7 : Int) : aft ⟨p, [0, a, b, x3, x4, x5, x6, x7]⟩ ⟨3, 3, 1, 2⟩ = ⟨1, [0, a, b, wrap64 (a + b), x4, x5, x6, x7]⟩ := by kernel_rfl
theorem alg_2 (p a b x3 x4 x5 x6 x7 : Int) : aft ⟨p, [0, a, b, x3, x4, x5, x6, x7]⟩ ⟨4, 4, 3, 2⟩ = ⟨1, [0, a, b, x3, wrap64 (x3 - b), x5, x6, x7]⟩ := by kernel_rfl
theorem alg_3 (p a b x3 x4 x5 x6 x7 : Int) : aft ⟨p, [0, a, b, x3, x4, x5, x6, x7]⟩ ⟨3, 5, 2, 1⟩ = ⟨1, [0, a, b, x3, x4, wrap64 (b + a), x6, x7]⟩ := by kernel_rfl
theorem alg_4 (p a b x3 x4 x5 x6 x7 : Int) : aft ⟨p, [0, a, b, x3, x4, x5, x6, x7]⟩ ⟨5, 3, 1, 2⟩ = ⟨1, [0, a, b, wrap64 (a * b), x4, x5, x6, x7]⟩ := by kernel_rfl
theorem alg_5 (p a b x3 x4 x5 x6 x7 : Int) : aft ⟨p, [0, a, b, x3, x4, x5, x6, x7]⟩ ⟨5, 4, 2, 1⟩ = ⟨1, [0, a, b, x3, wrap64 (b * a), x5, x6, x7]⟩ := by kernel_rfl
theorem alg_6 (p a b x3 x4 x5 x6 x7 : Int) : aft ⟨p, [0, a, b, x3, x4, x5, x6, x7]⟩ ⟨6, 3, 1, 2⟩ = ⟨1, [0, a, b, if a < b then 1 else 0, x4, x5, x6, x7]⟩ := by kernel_rfl
theorem alg_7 (p a b x3 x4 x5 x6 x7 : Int) : aft ⟨p, [0, a, b, x3, x4, x5, x6, x7]⟩ ⟨6, 4, 2, 1⟩ = ⟨1, [0, a, b, x3, if b < a then 1 else 0, x5, x6, x7]⟩ := by kernel_rfl
theorem alg_8 (p a b x3 x4 x5 x6 x7 : Int) : aft ⟨p, [0, a, b, x3, x4, x5, x6, x7]⟩ ⟨7, 5, 1, 2⟩ = ⟨1, [0, a, b, x3, x4, if a = b then 1 else 0, x6, x7]⟩ := by kernel_rfl
theorem built_two (a b : Int) : Try.prog.built 22 [(0, .int .i64 0), (1, .int .i64 a), (2, .int .i64 b)] = some #[.int .i64 0, .int .i64 a, .int .i64 b, .int .i64 0, .int .i64 0, .int .i64 0, .int .i64 0, .int .i64 0] := by kernel_rfl

set_option maxRecDepth 100000 in
set_option maxHeartbeats 4000000 in
theorem cpuAlgebra_any (a b : Int) (ha : Cp.i64 a) (W : World) : Calls Try.prog 7 #[.int .i64 a, .int .i64 b] W fun e w' => e = .returned (.bool true) ∧ Below W.heap.size W w' := by
  have HA := hide ha
  clear ha
  obtain ⟨l, HL⟩ : ∃ l : Int, Hid (l = if a < b then 1 else 0) := ⟨_, rfl⟩
  obtain ⟨g, HG⟩ : ∃ l : Int, Hid (l = if b < a then 1 else 0) := ⟨_, rfl⟩
  obtain ⟨q, HQ⟩ : ∃ l : Int, Hid (l = if a = b then 1 else 0) := ⟨_, rfl⟩
  go_enter Try.func7, Try.ntmps7
  go_wp2_with fail
  refine (sane_any _).mono ?_
  rintro e w1 ⟨rfl, hb⟩
  have HB := hide hb
  clear hb
  obtain ⟨v, hv, O, hb⟩ := new_cpu w1
  obtain ⟨c0, hc0⟩ : ∃ c : Cp.Cpu, c = ⟨0, [0, a, b, 0, 0, 0, 0, 0]⟩ := ⟨_, rfl⟩
  obtain ⟨g5, hg5⟩ : ∃ g, w1.heap.size = g := ⟨_, rfl⟩
  rw [hg5] at O hb
  obtain ⟨w2, hw2⟩ : ∃ w, v.setRow g5 (cc ⟨0, [0, a, b, 0, 0, 0, 0, 0]⟩) = w := ⟨_, rfl⟩
  have O5 := O.row_same (cc ⟨0, [0, a, b, 0, 0, 0, 0, 0]⟩)
  have hbW : W.heap.size ≤ g5 := by rw [← hg5]; exact HB.out.size
  have HB2 := hide (below_row (HB.out.trans (hb.mono hbW)) hbW (cc ⟨0, [0, a, b, 0, 0, 0, 0, 0]⟩))
  rw [hw2] at O5 HB2
  clear hc0 c0 hb HB
  go_wp2_with (first | (refine store_cpu rfl _ _ rfl rfl (c := ⟨0, [0, a, b, 0, 0, 0, 0, 0]⟩) rfl O rfl rfl ?_; rw [hw2]) | (refine load_cpu rfl _ rfl rfl O5 rfl ?_) | fail)
  refine (after_any ⟨0, [0, a, b, 0, 0, 0, 0, 0]⟩ ⟨3, 3, 1, 2⟩ rfl (by simp [Cd.in64]) _).mono ?_
  rintro e u h
  rw [alg_1] at h
  obtain ⟨rfl, hb⟩ := h
  obtain ⟨v, hv, O, hb2⟩ := new_cpu u
  obtain ⟨g6, hg6⟩ : ∃ g, u.heap.size = g := ⟨_, rfl⟩
  rw [hg6] at O hb2
  have hl5 := O5.lt
  replace O5 := (O5.below hb O5.lt).below hb2 (by have := (O5.below hb O5.lt).lt; omega)
  have hbs := hb.size
  have hn56 : g5 ≠ g6 := by omega
  have hgW : W.heap.size ≤ g6 := by have := HB2.out.size; omega
  obtain ⟨w3, hw3⟩ : ∃ w, v.setRow g6 (cc ⟨1, [0, a, b, wrap64 (a + b), 0, 0, 0, 0]⟩) = w := ⟨_, rfl⟩
  have HB3 := hide (below_row ((HB2.out.trans (hb.mono HB2.out.size)).trans (hb2.mono hgW)) hgW (cc ⟨1, [0, a, b, wrap64 (a + b), 0, 0, 0, 0]⟩))
  replace O5 := O5.row_other hn56 (cc ⟨1, [0, a, b, wrap64 (a + b), 0, 0, 0, 0]⟩)
  have O6 := O.row_same (cc ⟨1, [0, a, b, wrap64 (a + b), 0, 0, 0, 0]⟩)
  rw [hw3] at HB3 O5 O6
  clear hb hb2 HB2 hbs hl5 hw2
  clear hbW
  go_wp2_with (first | (refine store_cpu rfl _ _ rfl rfl (c := ⟨1, [0, a, b, wrap64 (a + b), 0, 0, 0, 0]⟩) rfl O rfl rfl ?_; rw [hw3]) | (refine load_cpu rfl _ rfl rfl O6 rfl ?_) | fail)
  refine (after_any ⟨1, [0, a, b, wrap64 (a + b), 0, 0, 0, 0]⟩ ⟨4, 4, 3, 2⟩ rfl (by simp [Cd.in64]) _).mono ?_
  rintro e u h
  rw [alg_2, back_add HA.out] at h
  obtain ⟨rfl, hb⟩ := h
  replace O5 := O5.below hb O5.lt
  replace O6 := O6.below hb O6.lt
  have O := O6
  obtain ⟨w4, hw4⟩ : ∃ w, u.setRow g6 (cc ⟨1, [0, a, b, wrap64 (a + b), a, 0, 0, 0]⟩) = w := ⟨_, rfl⟩
  have HB4 := hide (below_row (HB3.out.trans (hb.mono HB3.out.size)) hgW (cc ⟨1, [0, a, b, wrap64 (a + b), a, 0, 0, 0]⟩))
  replace O5 := O5.row_other hn56 (cc ⟨1, [0, a, b, wrap64 (a + b), a, 0, 0, 0]⟩)
  replace O6 := O6.row_same (cc ⟨1, [0, a, b, wrap64 (a + b), a, 0, 0, 0]⟩)
  rw [hw4] at HB4 O5 O6
  clear hb HB3 hw3
  go_wp2_with (first | (refine store_cpu rfl _ _ rfl rfl (c := ⟨1, [0, a, b, wrap64 (a + b), a, 0, 0, 0]⟩) rfl O rfl rfl ?_; rw [hw4]) | (refine load_cpu rfl _ rfl rfl O6 rfl ?_) | fail)
  refine (after_any ⟨1, [0, a, b, wrap64 (a + b), a, 0, 0, 0]⟩ ⟨3, 5, 2, 1⟩ rfl (by simp [Cd.in64]) _).mono ?_
  rintro e u h
  rw [alg_3, Int.add_comm b a] at h
  obtain ⟨rfl, hb⟩ := h
  replace O5 := O5.below hb O5.lt
  replace O6 := O6.below hb O6.lt
  have O := O6
  obtain ⟨w5, hw5⟩ : ∃ w, u.setRow g6 (cc ⟨1, [0, a, b, wrap64 (a + b), a, wrap64 (a + b), 0, 0]⟩) = w := ⟨_, rfl⟩
  have HB5 := hide (below_row (HB4.out.trans (hb.mono HB4.out.size)) hgW (cc ⟨1, [0, a, b, wrap64 (a + b), a, wrap64 (a + b), 0, 0]⟩))
  replace O5 := O5.row_other hn56 (cc ⟨1, [0, a, b, wrap64 (a + b), a, wrap64 (a + b), 0, 0]⟩)
  replace O6 := O6.row_same (cc ⟨1, [0, a, b, wrap64 (a + b), a, wrap64 (a + b), 0, 0]⟩)
  rw [hw5] at HB5 O5 O6
  clear hb HB4 hw4
  go_wp2_with (first | (refine store_cpu rfl _ _ rfl rfl (c := ⟨1, [0, a, b, wrap64 (a + b), a, wrap64 (a + b), 0, 0]⟩) rfl O rfl rfl ?_; rw [hw5]) | (refine load_cpu rfl _ rfl rfl O5 rfl ?_) | fail)
  refine (after_any ⟨0, [0, a, b, 0, 0, 0, 0, 0]⟩ ⟨5, 3, 1, 2⟩ rfl (by simp [Cd.in64]) _).mono ?_
  rintro e u h
  rw [alg_4] at h
  obtain ⟨rfl, hb⟩ := h
  obtain ⟨v, hv, O, hb2⟩ := new_cpu u
  obtain ⟨g7, hg7⟩ : ∃ g, u.heap.size = g := ⟨_, rfl⟩
  rw [hg7] at O hb2
  have hl5 := O5.lt
  replace O5 := (O5.below hb O5.lt).below hb2 (by have := (O5.below hb O5.lt).lt; omega)
  have hl6 := O6.lt
  replace O6 := (O6.below hb O6.lt).below hb2 (by have := (O6.below hb O6.lt).lt; omega)
  have hbs := hb.size
  have hn57 : g5 ≠ g7 := by omega
  have hn67 : g6 ≠ g7 := by omega
  have hgW : W.heap.size ≤ g7 := by have := HB5.out.size; omega
  obtain ⟨w6, hw6⟩ : ∃ w, v.setRow g7 (cc ⟨1, [0, a, b, wrap64 (a * b), 0, 0, 0, 0]⟩) = w := ⟨_, rfl⟩
  have HB6 := hide (below_row ((HB5.out.trans (hb.mono HB5.out.size)).trans (hb2.mono hgW)) hgW (cc ⟨1, [0, a, b, wrap64 (a * b), 0, 0, 0, 0]⟩))
  replace O5 := O5.row_other hn57 (cc ⟨1, [0, a, b, wrap64 (a * b), 0, 0, 0, 0]⟩)
  replace O6 := O6.row_other hn67 (cc ⟨1, [0, a, b, wrap64 (a * b), 0, 0, 0, 0]⟩)
  have O7 := O.row_same (cc ⟨1, [0, a, b, wrap64 (a * b), 0, 0, 0, 0]⟩)
  rw [hw6] at HB6 O5 O6 O7
  clear hb hb2 HB5 hbs hl5 hl6 hw5
  go_wp2_with (first | (refine store_cpu rfl _ _ rfl rfl (c := ⟨1, [0, a, b, wrap64 (a * b), 0, 0, 0, 0]⟩) rfl O rfl rfl ?_; rw [hw6]) | (refine load_cpu rfl _ rfl rfl O7 rfl ?_) | fail)
  refine (after_any ⟨1, [0, a, b, wrap64 (a * b), 0, 0, 0, 0]⟩ ⟨5, 4, 2, 1⟩ rfl (by simp [Cd.in64]) _).mono ?_
  rintro e u h
  rw [alg_5, Int.mul_comm b a] at h
  obtain ⟨rfl, hb⟩ := h
  replace O5 := O5.below hb O5.lt
  replace O6 := O6.below hb O6.lt
  replace O7 := O7.below hb O7.lt
  have O := O7
  obtain ⟨w7, hw7⟩ : ∃ w, u.setRow g7 (cc ⟨1, [0, a, b, wrap64 (a * b), wrap64 (a * b), 0, 0, 0]⟩) = w := ⟨_, rfl⟩
  have HB7 := hide (below_row (HB6.out.trans (hb.mono HB6.out.size)) hgW (cc ⟨1, [0, a, b, wrap64 (a * b), wrap64 (a * b), 0, 0, 0]⟩))
  replace O5 := O5.row_other hn57 (cc ⟨1, [0, a, b, wrap64 (a * b), wrap64 (a * b), 0, 0, 0]⟩)
  replace O6 := O6.row_other hn67 (cc ⟨1, [0, a, b, wrap64 (a * b), wrap64 (a * b), 0, 0, 0]⟩)
  replace O7 := O7.row_same (cc ⟨1, [0, a, b, wrap64 (a * b), wrap64 (a * b), 0, 0, 0]⟩)
  rw [hw7] at HB7 O5 O6 O7
  clear hb HB6 hw6
  go_wp2_with (first | (refine store_cpu rfl _ _ rfl rfl (c := ⟨1, [0, a, b, wrap64 (a * b), wrap64 (a * b), 0, 0, 0]⟩) rfl O rfl rfl ?_; rw [hw7]) | (refine load_cpu rfl _ rfl rfl O5 rfl ?_) | fail)
  refine (after_any ⟨0, [0, a, b, 0, 0, 0, 0, 0]⟩ ⟨6, 3, 1, 2⟩ rfl (by simp [Cd.in64]) _).mono ?_
  rintro e u h
  rw [alg_6, ← HL.out] at h
  obtain ⟨rfl, hb⟩ := h
  obtain ⟨v, hv, O, hb2⟩ := new_cpu u
  obtain ⟨g8, hg8⟩ : ∃ g, u.heap.size = g := ⟨_, rfl⟩
  rw [hg8] at O hb2
  have hl5 := O5.lt
  replace O5 := (O5.below hb O5.lt).below hb2 (by have := (O5.below hb O5.lt).lt; omega)
  have hl6 := O6.lt
  replace O6 := (O6.below hb O6.lt).below hb2 (by have := (O6.below hb O6.lt).lt; omega)
  have hl7 := O7.lt
  replace O7 := (O7.below hb O7.lt).below hb2 (by have := (O7.below hb O7.lt).lt; omega)
  have hbs := hb.size
  have hn58 : g5 ≠ g8 := by omega
  have hn68 : g6 ≠ g8 := by omega
  have hn78 : g7 ≠ g8 := by omega
  have hgW : W.heap.size ≤ g8 := by have := HB7.out.size; omega
  obtain ⟨w8, hw8⟩ : ∃ w, v.setRow g8 (cc ⟨1, [0, a, b, l, 0, 0, 0, 0]⟩) = w := ⟨_, rfl⟩
  have HB8 := hide (below_row ((HB7.out.trans (hb.mono HB7.out.size)).trans (hb2.mono hgW)) hgW (cc ⟨1, [0, a, b, l, 0, 0, 0, 0]⟩))
  replace O5 := O5.row_other hn58 (cc ⟨1, [0, a, b, l, 0, 0, 0, 0]⟩)
  replace O6 := O6.row_other hn68 (cc ⟨1, [0, a, b, l, 0, 0, 0, 0]⟩)
  replace O7 := O7.row_other hn78 (cc ⟨1, [0, a, b, l, 0, 0, 0, 0]⟩)
  have O8 := O.row_same (cc ⟨1, [0, a, b, l, 0, 0, 0, 0]⟩)
  rw [hw8] at HB8 O5 O6 O7 O8
  clear hb hb2 HB7 hbs hl5 hl6 hl7 hw7
  go_wp2_with (first | (refine store_cpu rfl _ _ rfl rfl (c := ⟨1, [0, a, b, l, 0, 0, 0, 0]⟩) rfl O rfl rfl ?_; rw [hw8]) | (refine load_cpu rfl _ rfl rfl O8 rfl ?_) | fail)
  refine (after_any ⟨1, [0, a, b, l, 0, 0, 0, 0]⟩ ⟨6, 4, 2, 1⟩ rfl (by simp [Cd.in64]) _).mono ?_
  rintro e u h
  rw [alg_7, ← HG.out] at h
  obtain ⟨rfl, hb⟩ := h
  replace O5 := O5.below hb O5.lt
  replace O6 := O6.below hb O6.lt
  replace O7 := O7.below hb O7.lt
  replace O8 := O8.below hb O8.lt
  have O := O8
  obtain ⟨w9, hw9⟩ : ∃ w, u.setRow g8 (cc ⟨1, [0, a, b, l, g, 0, 0, 0]⟩) = w := ⟨_, rfl⟩
  have HB9 := hide (below_row (HB8.out.trans (hb.mono HB8.out.size)) hgW (cc ⟨1, [0, a, b, l, g, 0, 0, 0]⟩))
  replace O5 := O5.row_other hn58 (cc ⟨1, [0, a, b, l, g, 0, 0, 0]⟩)
  replace O6 := O6.row_other hn68 (cc ⟨1, [0, a, b, l, g, 0, 0, 0]⟩)
  replace O7 := O7.row_other hn78 (cc ⟨1, [0, a, b, l, g, 0, 0, 0]⟩)
  replace O8 := O8.row_same (cc ⟨1, [0, a, b, l, g, 0, 0, 0]⟩)
  rw [hw9] at HB9 O5 O6 O7 O8
  clear hb HB8 hw8
  go_wp2_with (first | (refine store_cpu rfl _ _ rfl rfl (c := ⟨1, [0, a, b, l, g, 0, 0, 0]⟩) rfl O rfl rfl ?_; rw [hw9]) | (refine load_cpu rfl _ rfl rfl O8 rfl ?_) | fail)
  refine (after_any ⟨1, [0, a, b, l, g, 0, 0, 0]⟩ ⟨7, 5, 1, 2⟩ rfl (by simp [Cd.in64]) _).mono ?_
  rintro e u h
  rw [alg_8, ← HQ.out] at h
  obtain ⟨rfl, hb⟩ := h
  replace O5 := O5.below hb O5.lt
  replace O6 := O6.below hb O6.lt
  replace O7 := O7.below hb O7.lt
  replace O8 := O8.below hb O8.lt
  have O := O8
  obtain ⟨w10, hw10⟩ : ∃ w, u.setRow g8 (cc ⟨1, [0, a, b, l, g, q, 0, 0]⟩) = w := ⟨_, rfl⟩
  have HB10 := hide (below_row (HB9.out.trans (hb.mono HB9.out.size)) hgW (cc ⟨1, [0, a, b, l, g, q, 0, 0]⟩))
  replace O5 := O5.row_other hn58 (cc ⟨1, [0, a, b, l, g, q, 0, 0]⟩)
  replace O6 := O6.row_other hn68 (cc ⟨1, [0, a, b, l, g, q, 0, 0]⟩)
  replace O7 := O7.row_other hn78 (cc ⟨1, [0, a, b, l, g, q, 0, 0]⟩)
  replace O8 := O8.row_same (cc ⟨1, [0, a, b, l, g, q, 0, 0]⟩)
  rw [hw10] at HB10 O5 O6 O7 O8
  clear hb HB9 hw9
  have k63 := O6.cell 4
  have k64 := O6.cell 5
  have k65 := O6.cell 6
  have k73 := O7.cell 4
  have k74 := O7.cell 5
  have k83 := O8.cell 4
  have k84 := O8.cell 5
  have k85 := O8.cell 6
  simp [cc, nv] at k63 k64 k65 k73 k74 k83 k84 k85
  clear O5 O6 O7 O8
  have fin : (l = 1 ∧ g = 0 ∧ q = 0 ∧ a < b) ∨ (l = 0 ∧ g = 1 ∧ q = 0 ∧ decide (a < b) = false) ∨ (l = 0 ∧ g = 0 ∧ q = 1 ∧ decide (a < b) = false) := by
    rw [HL.out, HG.out, HQ.out]
    rcases Int.lt_trichotomy a b with h | h | h
    · left; simp [h]; omega
    · right; right; simp [h]
    · right; left; simp [h]; omega
  clear HL HG HQ
  rcases fin with ⟨rfl, rfl, rfl, hlt⟩ | ⟨rfl, rfl, rfl, hlt⟩ | ⟨rfl, rfl, rfl, hlt⟩
  · go_wp2_with (first | (refine store_cpu rfl _ _ rfl rfl (c := ⟨1, [0, a, b, 1, 0, 0, 0, 0]⟩) rfl O rfl rfl ?_; rw [hw10]) | fail)
    go_ret
    exact ⟨rfl, HB10.out⟩
  · go_wp2_with (first | (refine store_cpu rfl _ _ rfl rfl (c := ⟨1, [0, a, b, 0, 1, 0, 0, 0]⟩) rfl O rfl rfl ?_; rw [hw10]) | fail)
    go_ret
    exact ⟨rfl, HB10.out⟩
  · go_wp2_with (first | (refine store_cpu rfl _ _ rfl rfl (c := ⟨1, [0, a, b, 0, 0, 1, 0, 0]⟩) rfl O rfl rfl ?_; rw [hw10]) | fail)
    go_ret
    exact ⟨rfl, HB10.out⟩
end Go.Proofs.Ytkcegdnjgkideaa
