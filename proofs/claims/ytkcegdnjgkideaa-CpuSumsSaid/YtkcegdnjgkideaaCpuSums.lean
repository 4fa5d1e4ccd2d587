/- Layer 5: a program that adds the numbers from 1 to n (CpuSums): the walk. -/
import Derived.Test.YtkcegdnjgkideaaCpuLaw
import Derived.Test.YtkcegdnjgkideaaEql
namespace Go.Proofs.Ytkcegdnjgkideaa
open Go.RowKit

/-- Seven instructions in a slice of their own. -/
theorem start_seven (u : World) (n : Nat) : ∃ u', u.alloc (.cells #[.int .i64 1, .int .i64 1, .int .i64 n, .int .i64 0, .int .i64 1, .int .i64 2, .int .i64 1, .int .i64 0, .int .i64 9, .int .i64 1, .int .i64 4, .int .i64 0, .int .i64 8, .int .i64 7, .int .i64 0, .int .i64 0,
      .int .i64 3, .int .i64 0, .int .i64 0, .int .i64 1, .int .i64 4, .int .i64 1, .int .i64 1, .int .i64 2, .int .i64 8, .int .i64 2, .int .i64 0, .int .i64 0] 31) = u' ∧ Inss u' u'.heap.size (some ⟨u.heap.size, 0, none⟩) 7 (Cp.sumL n) ∧ Below u.heap.size u u' := by
  refine ⟨_, rfl, ⟨rfl, ?_⟩, (Below.refl _ _).alloc (Nat.le_refl _) _⟩
  have := (Row.list u (iv (Cp.sumL n)) 31).rd
  rw [World.size_alloc]
  exact ⟨by simp [iv, Cp.sumL, ic], by simp, this⟩
theorem sum_64 {n : Nat} (hn : n ≤ 255) : ∀ x ∈ Cp.sumL n, Cd.in64 x := by
  intro x hx
  simp only [Cp.sumL, List.mem_cons, List.not_mem_nil, or_false] at hx
  rcases hx with rfl | rfl | rfl | rfl | rfl | rfl | rfl <;> (unfold Cd.in64; simp only; omega)
theorem st_8 (n k : Nat) : (Cp.st n k).regs.length = 8 := by
  unfold Cp.st
  repeat' split
  all_goals rfl
theorem st_last (n : Nat) : Cp.st n (4 * n + 4) = ⟨7, [Cp.S n n, 0, 1, 0, 0, 0, 0, 0]⟩ := by
  unfold Cp.st
  rw [if_neg (by omega), if_neg (by omega), show 4 * n + 4 - 2 = n * 4 + 2 by omega, show (n * 4 + 2) % 4 = 2 by omega, show (n * 4 + 2) / 4 = n by omega]
  simp
theorem st_over (n : Nat) : Cp.next (Cp.st n (4 * n + 4)) (Cp.sumL n) = (Cp.st n (4 * n + 4), Cp.fault) := by
  rw [st_last]
  exact Cp.next_out (by simp [Cp.sumL])

set_option maxRecDepth 100000 in
set_option maxHeartbeats 4000000 in
theorem cpuSums_any (n : Nat) (hn : n ≤ 255) (W : World) : Calls Try.prog 6 #[.int .u8 n] W fun e w' => e = .returned (.bool true) ∧ Below W.heap.size W w' := by
  go_enter Try.func6, Try.ntmps6
  go_wp2_with fail
  refine (sane_any _).mono ?_
  rintro e w1 ⟨rfl, hb⟩
  obtain ⟨w2, hw2, hI, hb2⟩ := start_seven w1 n
  obtain ⟨w3, hw3, OP, OC, hb3⟩ : ∃ w3, (w2.alloc (.cells #[.slice (some ⟨w1.heap.size, 0, none⟩) 7 7, .slice none 0 0, .int .i64 0] 28)).alloc (.cells #[.int .i64 0, .int .i64 0, .int .i64 0, .int .i64 0, .int .i64 0, .int .i64 0, .int .i64 0, .int .i64 0, .int .i64 0] 24) = w3 ∧ Obl w3 w2.heap.size 28 #[.slice (some ⟨w1.heap.size, 0, none⟩) 7 7, .slice none 0 0, .int .i64 0] ∧
      Obl w3 (w2.heap.size + 1) 24 (cc (Cp.st n 0)) ∧ Below w2.heap.size w2 w3 := by
    refine ⟨_, rfl, (Obl.make w2 _ _).alloc _, ?_, ((Below.refl _ _).alloc (Nat.le_refl _) _).alloc (by simp) _⟩
    have := Obl.make (w2.alloc (.cells #[.slice (some ⟨w1.heap.size, 0, none⟩) 7 7, .slice none 0 0, .int .i64 0] 28)) 24 (cc (Cp.st n 0))
    rw [World.size_alloc] at this
    exact this
  have HB3 := hide ((hb.trans (hb2.mono hb.size)).trans (hb3.mono (by have := hb.size; have := hb2.size; omega)))
  have HI3 := hide (hI.below hb3)
  have hWs : W.heap.size ≤ w2.heap.size := Nat.le_trans hb.size hb2.size
  obtain ⟨A, hA⟩ : ∃ A : Option Addr, A = some ⟨w1.heap.size, 0, none⟩ := ⟨_, rfl⟩
  clear hb hb2 hI hb3 hA A
  go_wp2_with fail
  generalize w2.heap.size = g at *
  clear hw2 hw3
  go_loopw [5] (fun s5 wr => ∃ k : Nat, s5 = .int .i64 (k : Int) ∧ k ≤ 4 * n + 4 ∧ Obl wr g 28 #[.slice (some ⟨w1.heap.size, 0, none⟩) 7 7, .slice none 0 0, .int .i64 0] ∧ Obl wr (g + 1) 24 (cc (Cp.st n k)) ∧ Hid (Inss wr g (some ⟨w1.heap.size, 0, none⟩) 7 (Cp.sumL n)) ∧ Hid (Below W.heap.size W wr)) (fun s5 _ => 4 * n + 4 - (intOf s5).toNat)
  case atStart => exact ⟨0, rfl, by omega, OP, OC, HI3, HB3⟩
  case round =>
    clear OP OC HI3 HB3
    obtain ⟨k, rfl, hk, hP, hC, HI, HB⟩ := hrel
    have p0 := hP.cell 0
    have p1 := hP.cell 1
    have p2 := hP.cell 2
    simp at p0 p1 p2
    have hlP := hP.lt
    have hlC := hC.lt
    by_cases hlt : k < 4 * n + 4
    · go_wp2_with (first | (refine load_cpu rfl _ rfl rfl hC (st_8 n k) ?_) | fail)
      refine (next_any (Cp.st n k) (st_8 n k) (Cp.sumL n) (some ⟨w1.heap.size, 0, none⟩) none 7 7 0 0 0 g wr HI.out (by omega) (sum_64 hn)).mono ?_
      rintro e u3 h
      rw [Cp.st_step hn k hlt] at h
      obtain ⟨rfl, hb4⟩ := h
      obtain ⟨u4, hu4, ⟨Oa, Ob⟩, hb5⟩ := start_out u3
      obtain ⟨E0, E1, E2, hbe⟩ := out_2 Oa Ob hb5 (Cp.st n (k + 1)) Cp.done
      obtain ⟨w5, hw5⟩ : ∃ w5, (u4.setRow u3.heap.size (cc (Cp.st n (k + 1)))).setRow (u3.heap.size + 1) (ac Cp.done) = w5 := ⟨_, rfl⟩
      rw [hw5] at E0 E2 hbe
      have hbb := hb4.trans (hbe.mono hb4.size)
      have hP5 := hP.below hbb hlP
      have hC5 := hC.below hbb hlC
      have HI5 := hide (HI.out.belowLe hbb (by omega))
      have HB5 := hide (HB.out.trans (hbb.mono HB.out.size))
      have kk := E2.cell 0
      simp [ac, Cp.done] at kk
      have hP6 := hP5.row_other (g := g + 1) (by omega) (cc (Cp.st n (k + 1)))
      have hC6 := hC5.row_same (cc (Cp.st n (k + 1)))
      have HB6 := hide (below_row HB5.out (g := g + 1) (by omega) (cc (Cp.st n (k + 1))))
      have HI6 : Hid (Inss (w5.setRow (g + 1) (cc (Cp.st n (k + 1)))) g (some ⟨w1.heap.size, 0, none⟩) 7 (Cp.sumL n)) := hide (HI5.out.below (below_row (Below.refl _ _) (by omega) _))
      have h81 := st_8 n (k + 1)
      clear hb4 hb5 hbe hbb hP hC HI HB HI5 HB5 E2 p0 p1 p2 hP5
      go_wp2_with (first | (refine store_cpu rfl _ _ rfl rfl (c := Cp.st n (k + 1)) rfl Oa rfl h81 ?_) | (refine store_act rfl _ _ rfl rfl (c := Cp.done) rfl E1 rfl rfl ?_; rw [hw5]) | (refine load_cpu rfl _ rfl rfl E0 h81 ?_) | (refine store_cpu rfl _ _ rfl rfl (c := Cp.st n (k + 1)) rfl hC5 (cc_size (st_8 n k)) h81 ?_) | fail)
      go_roundw
      case rel => exact ⟨k + 1, by go_num, by omega, hP6, hC6, HI6, HB6⟩
      case measure => simp [intOf]; omega
    · obtain rfl : k = 4 * n + 4 := by omega
      clear hlt
      have h8e := st_8 n (4 * n + 4)
      have hS := Cp.S_all n
      have hS0 := Cp.S_le hn n (Nat.le_refl _)
      go_wp2_with (first | (refine load_cpu rfl _ rfl rfl hC h8e ?_) | fail)
      refine (next_any (Cp.st n (4 * n + 4)) h8e (Cp.sumL n) (some ⟨w1.heap.size, 0, none⟩) none 7 7 0 0 0 g wr HI.out (by omega) (sum_64 hn)).mono ?_
      rintro e u3 h
      rw [st_over] at h
      obtain ⟨rfl, hb4⟩ := h
      obtain ⟨u4, hu4, ⟨Oa, Ob⟩, hb5⟩ := start_out u3
      obtain ⟨E0, E1, E2, hbe⟩ := out_2 Oa Ob hb5 (Cp.st n (4 * n + 4)) Cp.fault
      obtain ⟨w5, hw5⟩ : ∃ w5, (u4.setRow u3.heap.size (cc (Cp.st n (4 * n + 4)))).setRow (u3.heap.size + 1) (ac Cp.fault) = w5 := ⟨_, rfl⟩
      rw [hw5] at E0 E2 hbe
      have hbb := hb4.trans (hbe.mono hb4.size)
      have hC5 := hC.below hbb hlC
      have HB5 := hide (HB.out.trans (hbb.mono HB.out.size))
      have kk := E2.cell 0
      simp [ac, Cp.fault] at kk
      rw [st_last] at hC5
      have q0 := hC5.cell 0
      have q1 := hC5.cell 1
      have q2 := hC5.cell 2
      simp [cc, nv] at q0 q1 q2
      obtain ⟨s, hs⟩ : ∃ s, Cp.S n n = s := ⟨_, rfl⟩
      rw [hs] at q1 hS hS0
      obtain ⟨m, hm⟩ : ∃ m, (n : Int) * ((n : Int) + 1) = m := ⟨_, rfl⟩
      rw [hm] at hS
      have hm0 : 0 ≤ m ∧ m ≤ 130050 := by omega
      have hdiv : m / 2 = s := by omega
      clear hb4 hb5 hbe hbb hP hC HI HB E2 p0 p1 p2 hC5 hs E0
      go_wp2_with (first | (refine store_cpu rfl _ _ rfl rfl (c := Cp.st n (4 * n + 4)) rfl Oa rfl h8e ?_) | (refine store_act rfl _ _ rfl rfl (c := Cp.fault) rfl E1 rfl rfl ?_; rw [hw5]) | fail)
      go_ret
      exact ⟨rfl, HB5.out⟩
end Go.Proofs.Ytkcegdnjgkideaa
