/- Layer 7: SpaceFinds: the walk. -/
import Derived.Test.YtoppkgmgjahloaaSpReplace
import Derived.Test.YtoppkgmgjahloaaSpSame
import Derived.Test.YtoppkgmgjahloaaSame3
namespace Go.Proofs.Ytoppkgmgjahloaa
open Go.RowKit

/-- Block g holds two address spaces. -/
def Spaces (w : World) (g : Nat) : Prop := g < w.heap.size ∧ ∀ k, k < 2 → ∃ A n c l, w.cell? ⟨g, k, none⟩ = some (.slice A n c) ∧ Refs w w.heap.size A n l ∧ (n ≤ c ∧ c ≤ 9223372036854775807) ∧ n ≤ 30
theorem Spaces.below {w w' : World} {g : Nat} (h : Spaces w g) (hb : Below w.heap.size w w') : Spaces w' g := by
  refine ⟨Nat.lt_of_lt_of_le h.1 hb.size, fun k hk => ?_⟩
  obtain ⟨A, n, c, l, h1, h2, h3, h4⟩ := h.2 k hk
  exact ⟨A, n, c, l, (hb.cell (p := ⟨g, k, none⟩) h.1).trans h1, h2.later hb, h3, h4⟩
theorem start_spaces (w : World) {A0 A1 : Option Addr} {n0 c0 n1 c1 : Nat} {l0 l1 : List Sp.Ref} (h0 : Refs w w.heap.size A0 n0 l0) (h1 : Refs w w.heap.size A1 n1 l1) (hc0 : n0 ≤ c0 ∧ c0 ≤ 9223372036854775807) (hc1 : n1 ≤ c1 ∧ c1 ≤ 9223372036854775807) (hn0 : n0 ≤ 30) (hn1 : n1 ≤ 30) :
    ∃ w1, w.alloc (.cells #[.slice A0 n0 c0, .slice A1 n1 c1] 22) = w1 ∧ Spaces w1 w.heap.size ∧ Below w.heap.size w w1 := by
  have hb : Below w.heap.size w (w.alloc (.cells #[.slice A0 n0 c0, .slice A1 n1 c1] 22)) := (Below.refl _ _).alloc (Nat.le_refl _) _
  have O := Obl.make w 22 #[.slice A0 n0 c0, .slice A1 n1 c1]
  refine ⟨_, rfl, ⟨by simp, fun k hk => ?_⟩, hb⟩
  rcases (show k = 0 ∨ k = 1 by omega) with rfl | rfl
  · exact ⟨A0, n0, c0, l0, O.cell 0, h0.later hb, hc0, hn0⟩
  · exact ⟨A1, n1, c1, l1, O.cell 1, h1.later hb, hc1, hn1⟩
/-- Block g holds two addresses. -/
def Places (w : World) (g : Nat) : Prop := g < w.heap.size ∧ ∀ k, k < 2 → ∃ v, w.cell? ⟨g, k, none⟩ = some (.int .i64 v)
theorem Places.below {w w' : World} {g : Nat} (h : Places w g) (hb : Below w.heap.size w w') : Places w' g := by
  refine ⟨Nat.lt_of_lt_of_le h.1 hb.size, fun k hk => ?_⟩
  obtain ⟨v, h1⟩ := h.2 k hk
  exact ⟨v, (hb.cell (p := ⟨g, k, none⟩) h.1).trans h1⟩
theorem start_places (w : World) (a b : Int) : ∃ w1, w.alloc (.cells #[.int .i64 a, .int .i64 b] 2) = w1 ∧ Places w1 w.heap.size ∧ Below w.heap.size w w1 := by
  have O := Obl.make w 2 #[.int .i64 a, .int .i64 b]
  refine ⟨_, rfl, ⟨by simp, fun k hk => ?_⟩, (Below.refl _ _).alloc (Nat.le_refl _) _⟩
  rcases (show k = 0 ∨ k = 1 by omega) with rfl | rfl
  · exact ⟨a, O.cell 0⟩
  · exact ⟨b, O.cell 1⟩
set_option maxRecDepth 100000 in
set_option maxHeartbeats 16000000 in
theorem spaceFinds_any (A0 : Option Addr) (n0 c0 : Nat) (l0 : List Sp.Ref) (S : Option Addr) (q r : Nat) (bs : List UInt8) (a : Int) (W : World) (h0 : Refs W W.heap.size A0 n0 l0) (hc0 : n0 ≤ c0 ∧ c0 ≤ 9223372036854775807) (h : Bytes W W.heap.size S q bs) (hq : q ≤ r ∧ r ≤ 9223372036854775807) :
    Calls Try.prog 3 #[.slice A0 n0 c0, .slice S q r, .int .i64 a] W (BoolPost true W) := by
  have HS := hide h
  have H0 := hide h0
  have hn0' : (n0 : Int) ≤ 9223372036854775807 := by omega
  clear h h0
  go_enter Try.func3, Try.ntmps3
  go_wp2_with fail
  refine (sane_any _).mono ?_
  rintro e w1 ⟨rfl, hb1⟩
  have HS1 := hide (HS.out.belowLe hb1 (Nat.le_refl _))
  have H1 := hide (H0.out.later hb1)
  have HB1 := hide hb1
  have hW1 := hb1.size
  clear hb1 HS H0
  by_cases h30 : 30 < n0
  · have h30' : (30 : Int) < (n0 : Int) := by omega
    go_wp2_with fail
    go_ret
    exact ⟨rfl, HB1.out⟩
  have h30' : ¬ (30 : Int) < (n0 : Int) := by omega
  go_wp2_with fail
  refine (made_any S q r bs _ (HS1.out.mono hW1) hq).mono ?_
  rintro e w2 ⟨A1, n1, c1, l1, rfl, hR, hc1, hok, hb2⟩
  have hn1 : n1 ≤ 30 := by have := hok.1; have := hR.len; omega
  obtain ⟨w3, hw3, hSp, hb3⟩ := start_spaces w2 (H1.out.later hb2) hR hc0 hc1 (by omega) hn1
  have HSp := hide hSp
  have HB3 := hide ((HB1.out.trans (hb2.mono hW1)).trans (hb3.mono (Nat.le_trans hW1 hb2.size)))
  obtain ⟨g, hg⟩ : ∃ g, w2.heap.size = g := ⟨_, rfl⟩
  rw [hg] at HSp
  clear hSp hb3 hb2 hR hok HS1 HB1 H1
  go_wp2_with fail
  go_loopw [27] (fun s27 wr => ∃ k : Nat, s27 = .int .i64 (k : Int) ∧ k ≤ 2 ∧ Hid (Spaces wr g) ∧ Hid (Below W.heap.size W wr)) (fun s27 _ => 2 - (intOf s27).toNat)
  case atStart => exact ⟨0, rfl, by omega, HSp, HB3⟩
  case round =>
    clear HSp HB3 hw3 hg
    obtain ⟨k, rfl, hk, HSp, HB⟩ := hrel
    by_cases hlt : k < 2
    · have hlt' : (k : Int) < 2 := by omega
      obtain ⟨A, n, c, l, ck, hR, hnc, hn30⟩ := HSp.out.2 k hlt
      have HR := hide hR
      clear hR
      obtain ⟨a2, ha2⟩ : ∃ a2, bits .and .i64 a 255 = a2 := ⟨_, rfl⟩
      obtain ⟨w4, hw4, hP, hb4⟩ := start_places wr a a2
      have HP := hide hP
      have HR4 := hide (HR.out.later hb4)
      have HSp4 := hide (HSp.out.below hb4)
      have HB4 := hide (HB.out.trans (hb4.mono HB.out.size))
      obtain ⟨g2, hg2⟩ : ∃ g2, wr.heap.size = g2 := ⟨_, rfl⟩
      rw [hg2] at HP
      clear hP hb4 HSp HB HR
      go_wp2_with fail
      go_loopw [36] (fun s36 wr => ∃ j : Nat, s36 = .int .i64 (j : Int) ∧ j ≤ 2 ∧ Hid (Places wr g2) ∧ Hid (Refs wr wr.heap.size A n l) ∧ Hid (Spaces wr g) ∧ Hid (Below W.heap.size W wr)) (fun s36 _ => 2 - (intOf s36).toNat)
      case atStart => exact ⟨0, rfl, by omega, HP, HR4, HSp4, HB4⟩
      case round =>
        clear HP HR4 HSp4 HB4 hw4 hg2 ha2 ck
        obtain ⟨j, rfl, hj, HP, HR, HSp, HB⟩ := hrel
        by_cases hjlt : j < 2
        · have hjlt' : (j : Int) < 2 := by omega
          obtain ⟨v, cj⟩ := HP.out.2 j hjlt
          obtain ⟨fi, fw, fe, hf⟩ : ∃ x y z, Sp.find l v = (x, y, z) := ⟨_, _, _, rfl⟩
          have HF := hide hf
          clear hf
          go_wp2_with fail
          refine (find_any l A n c v _ HR.out hnc).mono ?_
          intro e w5 hp
          obtain ⟨rfl, hb5⟩ := hp.got HF.out
          have HR5 := hide (HR.out.later hb5)
          have HP5 := hide (HP.out.below hb5)
          have HSp5 := hide (HSp.out.below hb5)
          have HB5 := hide (HB.out.trans (hb5.mono HB.out.size))
          clear hp hb5 cj HP HR HSp HB
          go_wp2_with fail
          refine (refFind_any l A n c v _ HR5.out hnc).mono ?_
          intro e w6 hp
          obtain ⟨rfl, hb6⟩ := hp.got HF.out
          have HR6 := hide (HR5.out.later hb6)
          have HP6 := hide (HP5.out.below hb6)
          have HSp6 := hide (HSp5.out.below hb6)
          have HB6 := hide (HB5.out.trans (hb6.mono HB5.out.size))
          clear hp hb6 HP5 HR5 HSp5 HB5
          have e1 : (fi == fi) = true := by simp
          have e2 : (fw == fw) = true := by simp
          have e3 : (fe == fe) = true := by simp
          go_wp2_with fail
          go_roundw
          case rel => exact ⟨j + 1, by go_num, by omega, HP6, HR6, HSp6, HB6⟩
          case measure => simp [intOf]; omega
        · obtain rfl : j = 2 := by omega
          clear HP
          go_wp2_with fail
          refine (valid_any l A n c _ HR.out hnc).mono ?_
          rintro e w5 ⟨rfl, hb5⟩
          have HR5 := hide (HR.out.later hb5)
          have HSp5 := hide (HSp.out.below hb5)
          have HB5 := hide (HB.out.trans (hb5.mono HB.out.size))
          clear hb5 HR HSp HB
          go_wp2_with fail
          refine (refValid_any l A n c _ HR5.out hnc).mono ?_
          rintro e w6 ⟨rfl, hb6⟩
          have HR6 := hide (HR5.out.later hb6)
          have HSp6 := hide (HSp5.out.below hb6)
          have HB6 := hide (HB5.out.trans (hb6.mono HB5.out.size))
          clear hb6 HR5 HSp5 HB5
          obtain ⟨L, hL⟩ : ∃ L, Sp.private_ l = L := ⟨_, rfl⟩
          have HL := hide hL
          clear hL
          generalize decide (Sp.Ok l) = okb at *
          have e1 : (okb == okb) = true := by simp
          have e2 : (okb != okb) = false := by simp
          go_wp2_with fail
          refine (private_any l A n c _ HR6.out hnc).mono ?_
          rw [HL.out]
          rintro e w7 ⟨A7, c7, rfl, hN7, hc7, hb7⟩
          have HN7 := hide hN7
          have HR7 := hide (HR6.out.later hb7)
          have HSp7 := hide (HSp6.out.below hb7)
          have HB7 := hide (HB6.out.trans (hb7.mono HB6.out.size))
          clear hb7 hN7 HR6 HSp6 HB6
          go_wp2_with fail
          refine (refPrivate_any l A n c _ HR7.out hnc).mono ?_
          rw [HL.out]
          rintro e w8 ⟨A8, c8, rfl, hN8, hc8, hb8⟩
          have HN8 := hide hN8
          have HN78 := hide ((HN7.out.below hb8).mono hb8.size)
          have HSp8 := hide (HSp7.out.below hb8)
          have HB8 := hide (HB7.out.trans (hb8.mono HB7.out.size))
          clear hb8 hN8 HN7 HR7 HSp7 HB7
          go_wp2_with fail
          refine (refSame3_any A7 A8 L.length L.length c7 c8 L L _ _ HN78.out HN8.out (by omega) (by omega)).mono ?_
          rintro e w9 ⟨rfl, hb9⟩
          rw [decide_eq_true (rfl : L = L)]
          have HSp9 := hide (HSp8.out.below hb9)
          have HB9 := hide (HB8.out.trans (hb9.mono HB8.out.size))
          clear hb9 HSp8 HB8 HN8 HN78
          go_wp2_with fail
          go_roundw
          case rel => exact ⟨k + 1, by go_num, by omega, HSp9, HB9⟩
          case measure => simp [intOf]; omega
    · obtain rfl : k = 2 := by omega
      go_wp2_with fail
      go_ret
      exact ⟨rfl, HB.out⟩
end Go.Proofs.Ytoppkgmgjahloaa
