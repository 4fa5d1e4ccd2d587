/- Layer 3: the walk of IdentGives. -/
import Derived.Test.YtgdhlghklnlahaaDoorIdentText
import Derived.Laws.StructEq
namespace Go.Proofs.YtgdhlghklnlahaaDoor
open Go.RowKit

set_option maxRecDepth 100000 in
set_option maxHeartbeats 2000000 in
theorem identGives_any (a : Int × Int × Int) (n nd bt : Int) (w : World) (hL : LaidT w) :
    Calls Tryd.prog 4 #[.agg (al a), .int .i64 n, .int .i64 nd, .int .i64 bt] w fun e w' => e = .returned (.bool true) ∧ Below w.heap.size w w' := by
  obtain ⟨a0, a1, a2⟩ := a
  have HL := hide hL
  clear hL
  simp only [al]
  go_enter Tryd.func4, Tryd.ntmps4
  go_wp2_with fail
  have hLa : LaidT (w.alloc (.cells #[.int .i64 a0, .int .i64 a1, .int .i64 a2] 34)) := HL.out.below ((Below.refl _ _).alloc (Nat.le_refl _) _)
  refine (sane3_any _ hLa).mono ?_
  rintro e w1 ⟨rfl, hb1⟩
  have O4 := (Obl.make w 34 #[.int .i64 a0, .int .i64 a1, .int .i64 a2]).below hb1 (by simp)
  have hbb : Below w.heap.size w w1 := ((Below.refl _ w).alloc (Nat.le_refl _) _).trans (hb1.mono (by simp))
  have q0 := O4.cell 0
  have q1 := O4.cell 1
  have q2 := O4.cell 2
  simp at q0 q1 q2
  clear hLa hb1
  go_wp2_with fail
  generalize bits .and .i64 a0 127 = b0
  generalize bits .and .i64 a1 65535 = b1
  generalize bits .and .i64 a2 1099511627775 = b2
  have OS := Obl.make w1 34 #[.int .i64 a0, .int .i64 a1, .int .i64 a2, .int .i64 b0, .int .i64 b1, .int .i64 b2]
  have hbs := hbb.alloc hbb.size (.cells #[.int .i64 a0, .int .i64 a1, .int .i64 a2, .int .i64 b0, .int .i64 b1, .int .i64 b2] 34)
  have hbl1 := hbb.size
  clear q0 q1 q2 O4
  generalize w1.alloc (.cells #[.int .i64 a0, .int .i64 a1, .int .i64 a2, .int .i64 b0, .int .i64 b1, .int .i64 b2] 34) = w2 at *
  generalize w1.heap.size = bs at *
  go_loopw [36] (fun s36 wr => ∃ k : Nat, s36 = .int .i64 (k : Int) ∧ k ≤ 2 ∧ Obl wr bs 34 #[.int .i64 a0, .int .i64 a1, .int .i64 a2, .int .i64 b0, .int .i64 b1, .int .i64 b2] ∧ Below w.heap.size w wr) (fun s36 _ => 2 - (intOf s36).toNat)
  case atStart => exact ⟨0, rfl, by omega, OS, hbs⟩
  case round =>
    clear OS hbs
    obtain ⟨k, rfl, hk, OS, hb⟩ := hrel
    have hB := hb.size
    have hlt := OS.lt
    rcases (show k = 0 ∨ k = 1 ∨ k = 2 by omega) with rfl | rfl | rfl
    · have q0 := OS.cell 0
      have q1 := OS.cell 1
      have q2 := OS.cell 2
      simp at q0 q1 q2
      go_wp2_with fail
      refine (next_any (a0, a1, a2) n _).mono ?_
      intro e w3 hp
      have HN := hide (refNext_any (a0, a1, a2) n)
      generalize Id.next (a0, a1, a2) n = r at *
      obtain ⟨l, ⟨y0, y1, y2⟩, er⟩ := r
      obtain ⟨A3, c3, rfl, hc3, hm3, hn3, hb3⟩ := hp
      have OX := (Obl.make wr 34 #[.int .i64 a0, .int .i64 a1, .int .i64 a2]).below hb3 (by simp)
      have OS3 := (OS.alloc (.cells #[.int .i64 a0, .int .i64 a1, .int .i64 a2] 34)).below hb3 (by simp; omega)
      have hb03 : Below w.heap.size w w3 := (hb.alloc hB _).trans (hb3.mono (by simp; omega))
      have hB3 := hb03.size
      have hl3 := OX.lt
      have x0 := OX.cell 0
      have x1 := OX.cell 1
      have x2 := OX.cell 2
      simp at x0 x1 x2
      simp only [al]
      have OY := Obl.make w3 34 #[.int .i64 y0, .int .i64 y1, .int .i64 y2]
      have OS3' := OS3.alloc (.cells #[.int .i64 y0, .int .i64 y1, .int .i64 y2] 34)
      go_wp2_with fail
      refine (HN.out _).mono ?_
      rintro e w4 ⟨A4, c4, rfl, hc4, hm4, hn4, hb4⟩
      have hb04 : Below w.heap.size w w4 := (hb03.alloc hB3 _).trans (hb4.mono (by simp; omega))
      have hB4 := hb04.size
      have OY4 := OY.below hb4 (by simp)
      have OS4 := OS3'.below hb4 OS3'.lt
      have hn34 : Nums .u64 w4 w4.heap.size A3 l.length l := ((hn3.alloc (Nat.le_refl _) _).belowLe hb4 (by simp)).mono (by have := hb4.size; simp at this; omega)
      have hl4 := OY4.lt
      have y0' := OY4.cell 0
      have y1' := OY4.cell 1
      have y2' := OY4.cell 2
      simp at y0' y1' y2'
      simp only [al]
      have ee : ((er : Int) == (er : Int)) = true := by simp
      have ee' : ((er : Int) != (er : Int)) = false := by simp
      have t0 : (y0 == y0) = true := by simp
      have t1 : (y1 == y1) = true := by simp
      have t2 : (y2 == y2) = true := by simp
      have hln : l.length ≤ 9223372036854775807 := Nat.le_trans hc3 hm3
      have hn34' := hn34.alloc (Nat.le_refl _) (.cells #[.int .i64 y0, .int .i64 y1, .int .i64 y2] 34)
      have hn44' := hn4.alloc (Nat.le_refl _) (.cells #[.int .i64 y0, .int .i64 y1, .int .i64 y2] 34)
      have OS5 := OS4.alloc (.cells #[.int .i64 y0, .int .i64 y1, .int .i64 y2] 34)
      have hb05 := hb04.alloc hB4 (.cells #[.int .i64 y0, .int .i64 y1, .int .i64 y2] 34)
      clear OX OS3 OY OS3' hn3 hn4 hn34 OS4 OS hb
      go_wp2_with fail
      refine (refSame3_any A3 A4 l.length l.length c3 c4 l l _ w4.heap.size hn34' hn44' hln hln).mono ?_
      rintro e w6 ⟨rfl, hb6⟩
      rw [decide_eq_true (rfl : l = l)]
      have OS6 := OS5.below hb6 OS5.lt
      have hb06 := hb05.trans (hb6.mono hb05.size)
      go_wp2_with fail
      go_roundw
      case rel => exact ⟨1, by go_num, by omega, OS6, hb06⟩
      case measure => simp [intOf]
    · have q0 := OS.cell 3
      have q1 := OS.cell 4
      have q2 := OS.cell 5
      simp at q0 q1 q2
      go_wp2_with fail
      refine (next_any (b0, b1, b2) n _).mono ?_
      intro e w3 hp
      have HN := hide (refNext_any (b0, b1, b2) n)
      generalize Id.next (b0, b1, b2) n = r at *
      obtain ⟨l, ⟨y0, y1, y2⟩, er⟩ := r
      obtain ⟨A3, c3, rfl, hc3, hm3, hn3, hb3⟩ := hp
      have OX := (Obl.make wr 34 #[.int .i64 b0, .int .i64 b1, .int .i64 b2]).below hb3 (by simp)
      have OS3 := (OS.alloc (.cells #[.int .i64 b0, .int .i64 b1, .int .i64 b2] 34)).below hb3 (by simp; omega)
      have hb03 : Below w.heap.size w w3 := (hb.alloc hB _).trans (hb3.mono (by simp; omega))
      have hB3 := hb03.size
      have hl3 := OX.lt
      have x0 := OX.cell 0
      have x1 := OX.cell 1
      have x2 := OX.cell 2
      simp at x0 x1 x2
      simp only [al]
      have OY := Obl.make w3 34 #[.int .i64 y0, .int .i64 y1, .int .i64 y2]
      have OS3' := OS3.alloc (.cells #[.int .i64 y0, .int .i64 y1, .int .i64 y2] 34)
      go_wp2_with fail
      refine (HN.out _).mono ?_
      rintro e w4 ⟨A4, c4, rfl, hc4, hm4, hn4, hb4⟩
      have hb04 : Below w.heap.size w w4 := (hb03.alloc hB3 _).trans (hb4.mono (by simp; omega))
      have hB4 := hb04.size
      have OY4 := OY.below hb4 (by simp)
      have OS4 := OS3'.below hb4 OS3'.lt
      have hn34 : Nums .u64 w4 w4.heap.size A3 l.length l := ((hn3.alloc (Nat.le_refl _) _).belowLe hb4 (by simp)).mono (by have := hb4.size; simp at this; omega)
      have hl4 := OY4.lt
      have y0' := OY4.cell 0
      have y1' := OY4.cell 1
      have y2' := OY4.cell 2
      simp at y0' y1' y2'
      simp only [al]
      have ee : ((er : Int) == (er : Int)) = true := by simp
      have ee' : ((er : Int) != (er : Int)) = false := by simp
      have t0 : (y0 == y0) = true := by simp
      have t1 : (y1 == y1) = true := by simp
      have t2 : (y2 == y2) = true := by simp
      have hln : l.length ≤ 9223372036854775807 := Nat.le_trans hc3 hm3
      have hn34' := hn34.alloc (Nat.le_refl _) (.cells #[.int .i64 y0, .int .i64 y1, .int .i64 y2] 34)
      have hn44' := hn4.alloc (Nat.le_refl _) (.cells #[.int .i64 y0, .int .i64 y1, .int .i64 y2] 34)
      have OS5 := OS4.alloc (.cells #[.int .i64 y0, .int .i64 y1, .int .i64 y2] 34)
      have hb05 := hb04.alloc hB4 (.cells #[.int .i64 y0, .int .i64 y1, .int .i64 y2] 34)
      clear OX OS3 OY OS3' hn3 hn4 hn34 OS4 OS hb
      go_wp2_with fail
      refine (refSame3_any A3 A4 l.length l.length c3 c4 l l _ w4.heap.size hn34' hn44' hln hln).mono ?_
      rintro e w6 ⟨rfl, hb6⟩
      rw [decide_eq_true (rfl : l = l)]
      have OS6 := OS5.below hb6 OS5.lt
      have hb06 := hb05.trans (hb6.mono hb05.size)
      go_wp2_with fail
      go_roundw
      case rel => exact ⟨2, by go_num, by omega, OS6, hb06⟩
      case measure => simp [intOf]
    · have HN := hide (refNew_any nd bt)
      have HM := hide (new_any nd bt)
      generalize Id.new nd bt = r at *
      obtain ⟨⟨y0, y1, y2⟩, er⟩ := r
      clear OS
      go_wp2_with fail
      refine (HM.out _).mono ?_
      rintro e w3 ⟨rfl, hb3⟩
      have hb03 := hb.trans (hb3.mono hB)
      have hB3 := hb03.size
      simp only [al]
      have OY := Obl.make w3 34 #[.int .i64 y0, .int .i64 y1, .int .i64 y2]
      go_wp2_with fail
      refine (HN.out _).mono ?_
      rintro e w4 ⟨rfl, hb4⟩
      have hb04 : Below w.heap.size w w4 := (hb03.alloc hB3 _).trans (hb4.mono (by simp; omega))
      have OY4 := OY.below hb4 (by simp)
      have hB4 := hb04.size
      have hl4 := OY4.lt
      have y0' := OY4.cell 0
      have y1' := OY4.cell 1
      have y2' := OY4.cell 2
      simp at y0' y1' y2'
      simp only [al]
      have ee : ((er : Int) == (er : Int)) = true := by simp
      have t0 : (y0 == y0) = true := by simp
      have t1 : (y1 == y1) = true := by simp
      have t2 : (y2 == y2) = true := by simp
      go_wp2
      go_ret
      exact ⟨rfl, hb04.alloc hB4 _⟩
end Go.Proofs.YtgdhlghklnlahaaDoor
