/- Layer 7: SpaceChanges: the walk (written by tools/mkchanges.py). -/
import Derived.Test.YtoppkgmgjahloaaSpaceFinds
namespace Go.Proofs.Ytoppkgmgjahloaa
open Go.RowKit

set_option maxRecDepth 100000 in
set_option maxHeartbeats 16000000 in
theorem spaceChanges_any (A0 : Option Addr) (n0 c0 : Nat) (l0 : List Sp.Ref) (S : Option Addr) (qs r : Nat) (bs : List UInt8) (I : Option Addr) (q cq : Nat) (ids : List Int) (f : Nat) (hf : f < 256) (W : World) (h0 : Refs W W.heap.size A0 n0 l0) (hc0 : n0 ≤ c0 ∧ c0 ≤ 9223372036854775807) (h : Bytes W W.heap.size S qs bs) (hqs : qs ≤ r ∧ r ≤ 9223372036854775807) (hI : Nums .u64 W W.heap.size I q ids) (hcq : q ≤ cq ∧ cq ≤ 9223372036854775807) :
    Calls Try.prog 4 #[.slice A0 n0 c0, .slice S qs r, .slice I q cq, .int .u8 f] W (BoolPost true W) := by
  have HS := hide h
  have H0 := hide h0
  have HI := hide hI
  have hn0' : (n0 : Int) ≤ 9223372036854775807 := by omega
  have hq' : (q : Int) ≤ 9223372036854775807 := by omega
  obtain ⟨z, hz⟩ : ∃ z, f % 2 = z := ⟨_, rfl⟩
  have d3 : (f : Int) % 2 = (z : Int) := by omega
  have d4 : (f : Int).tmod 2 = (z : Int) := by rw [Int.tmod_eq_emod_of_nonneg (by omega)]; exact d3
  have hz2 : z < 2 := by omega
  clear h h0 hI hz
  go_enter Try.func4, Try.ntmps4
  go_wp2_with fail
  refine (sane_any _).mono ?_
  rintro e w1 ⟨rfl, hb1⟩
  have HS1 := hide (HS.out.belowLe hb1 (Nat.le_refl _))
  have H1 := hide (H0.out.later hb1)
  have HB1 := hide hb1
  have hW1 := hb1.size
  clear hb1 HS H0
  by_cases h30 : 30 < n0
  · have h30' : (30 : Int) < (n0 : Int) := by omega
    go_wp2_with fail
    go_ret
    exact ⟨rfl, HB1.out⟩
  have h30' : ¬ (30 : Int) < (n0 : Int) := by omega
  by_cases hq30 : 30 < q
  · have hq30' : (30 : Int) < (q : Int) := by omega
    go_wp2_with fail
    go_ret
    exact ⟨rfl, HB1.out⟩
  have hq30' : ¬ (30 : Int) < (q : Int) := by omega
  go_wp2_with fail
  refine (made_any S qs r bs _ (HS1.out.mono hW1) hqs).mono ?_
  rintro e w2 ⟨A1, n1, c1, l1, rfl, hR, hc1, hok, hb2⟩
  have hn1 : n1 ≤ 30 := by have := hok.1; have := hR.len; omega
  obtain ⟨w3, hw3, hSp, hb3⟩ := start_spaces w2 (H1.out.later hb2) hR hc0 hc1 (by omega) hn1
  have HSp := hide hSp
  have HB3 := hide ((HB1.out.trans (hb2.mono hW1)).trans (hb3.mono (Nat.le_trans hW1 hb2.size)))
  obtain ⟨g, hg⟩ : ∃ g, w2.heap.size = g := ⟨_, rfl⟩
  rw [hg] at HSp
  clear hSp hb3 hb2 hR hok HS1 HB1 H1
  go_wp2_with fail
  go_loopw [38] (fun s38 wr => ∃ k : Nat, s38 = .int .i64 (k : Int) ∧ k ≤ 2 ∧ Hid (Spaces wr g) ∧ Hid (Below W.heap.size W wr)) (fun s38 _ => 2 - (intOf s38).toNat)
  case atStart => exact ⟨0, rfl, by omega, HSp, HB3⟩
  case round =>
    clear HSp HB3 hw3 hg
    obtain ⟨k, rfl, hk, HSp, HB⟩ := hrel
    by_cases hlt : k < 2
    · have hlt' : (k : Int) < 2 := by omega
      obtain ⟨A, n, c, l, ck, hR, hnc, hn30⟩ := HSp.out.2 k hlt
      have HR := hide hR
      clear hR
      obtain ⟨L, hL⟩ : ∃ L, Sp.private_ l = L := ⟨_, rfl⟩
      have HL := hide hL
      obtain ⟨m, hm⟩ : ∃ m, L.length = m := ⟨_, rfl⟩
      have HM := hide hm
      clear hL hm
      go_wp2_with fail
      refine (refPrivate_any l A n c _ HR.out hnc).mono ?_
      rw [HL.out]
      rintro e w7 ⟨A7, c7, rfl, hN7, hc7, hb7⟩
      rw [HM.out] at hc7 hN7 ⊢
      have hm63 : (m : Int) ≤ 9223372036854775807 := by omega
      have HR8 := hide (HR.out.later hb7)
      have HSp8 := hide (HSp.out.below hb7)
      have HB8 := hide (HB.out.trans (hb7.mono HB.out.size))
      have HI8 := hide ((HI.out.below HB8.out).mono HB8.out.size)
      clear hb7 hN7 HR HSp HB ck
      by_cases hmq : m ≤ q
      · have hmq' : (m : Int) ≤ (q : Int) := by omega
        rcases (show z = 0 ∨ z = 1 by omega) with hz0 | hz1
        · have z0 : ((z : Int) == 0) = true := by simp; omega
          have hmc : (m : Int) ≤ (cq : Int) := by omega
          have HF8 := hide (HI8.out.takeN hmq)
          clear hz0
          go_wp2_with fail
          refine (attach_any l ids A I n c q cq _ HR8.out hnc HI8.out (by omega)).mono ?_
          obtain ⟨RA, RI, RE, hra⟩ : ∃ x y z, Sp.attach l ids = (x, y, z) := ⟨_, _, _, rfl⟩
          rw [hra]
          have HRA := hide hra
          clear hra
          rintro e w9 ⟨A9, c9, rfl, hN9, hc9, hb9⟩
          have HN9 := hide hN9
          have HR9 := hide (HR8.out.later hb9)
          have HI9 := hide ((HI8.out.below hb9).mono hb9.size)
          have HF9 := hide ((HF8.out.below hb9).mono hb9.size)
          have HSp9 := hide (HSp8.out.below hb9)
          have HB9 := hide (HB8.out.trans (hb9.mono HB8.out.size))
          clear hb9 hN9 HR8 HI8 HF8 HSp8 HB8
          go_wp2_with fail
          refine (refAttach_any l ids A I n c q cq _ HR9.out hnc HI9.out (by omega)).mono ?_
          rw [HRA.out]
          rintro e w10 ⟨A10, c10, rfl, hN10, hc10, hb10⟩
          have HN10 := hide hN10
          have HN9' := hide (HN9.out.later hb10)
          have HR10 := hide (HR9.out.later hb10)
          have HF10 := hide ((HF9.out.below hb10).mono hb10.size)
          have HSp10 := hide (HSp9.out.below hb10)
          have HB10 := hide (HB9.out.trans (hb10.mono HB9.out.size))
          clear hb10 hN10 HN9 HR9 HI9 HF9 HSp9 HB9
          simp only at hc9 hc10
          go_wp2_with fail
          refine (replace_any l (ids.take m) A I n c m cq _ HR10.out hnc HF10.out (by omega)).mono ?_
          obtain ⟨RB, RG, hrb⟩ : ∃ x y, Sp.replace l (ids.take m) = (x, y) := ⟨_, _, rfl⟩
          rw [hrb]
          have HRB := hide hrb
          clear hrb
          rintro e w11 ⟨A11, c11, rfl, hN11, hc11, hb11⟩
          have HN11 := hide hN11
          have HN9'' := hide (HN9'.out.later hb11)
          have HN10' := hide (HN10.out.later hb11)
          have HR11 := hide (HR10.out.later hb11)
          have HF11 := hide ((HF10.out.below hb11).mono hb11.size)
          have HSp11 := hide (HSp10.out.below hb11)
          have HB11 := hide (HB10.out.trans (hb11.mono HB10.out.size))
          clear hb11 hN11 HN9' HN10 HR10 HF10 HSp10 HB10
          go_wp2_with fail
          refine (refReplace_any l (ids.take m) A I n c m cq _ HR11.out hnc HF11.out (by omega)).mono ?_
          rw [HRB.out]
          rintro e w12 ⟨A12, c12, rfl, hN12, hc12, hb12⟩
          have HN12 := hide hN12
          have HN9 := hide (HN9''.out.later hb12)
          have HN10 := hide (HN10'.out.later hb12)
          have HN11' := hide (HN11.out.later hb12)
          have HSp12 := hide (HSp11.out.below hb12)
          have HB12 := hide (HB11.out.trans (hb12.mono HB11.out.size))
          clear hb12 hN12 HN9'' HN10' HN11 HR11 HF11 HSp11 HB11
          simp only at hc11 hc12 HN9 HN10 HN11' HN12
          have e1 : (RI == RI) = true := by simp
          have e2 : (RE == RE) = true := by simp
          have e3 : (RG == RG) = true := by simp
          go_wp2_with fail
          refine (sameRefs_any A9 A10 RA.length RA.length c9 c10 w12.heap.size RA RA _ HN9.out HN10.out (by omega) (by omega)).mono ?_
          rintro e w13 ⟨rfl, hb13⟩
          rw [decide_eq_true (rfl : RA = RA)]
          have HSp13 := hide (HSp12.out.below hb13)
          have HN11 := hide (HN11'.out.later hb13)
          have HN12' := hide (HN12.out.later hb13)
          have HB13 := hide (HB12.out.trans (hb13.mono HB12.out.size))
          clear hb13 HSp12 HB12 HN9 HN10 HN11' HN12
          go_wp2_with fail
          refine (sameRefs_any A11 A12 RB.length RB.length c11 c12 w13.heap.size RB RB _ HN11.out HN12'.out (by omega) (by omega)).mono ?_
          rintro e w14 ⟨rfl, hb14⟩
          rw [decide_eq_true (rfl : RB = RB)]
          have HSp14 := hide (HSp13.out.below hb14)
          have HB14 := hide (HB13.out.trans (hb14.mono HB13.out.size))
          clear hb14 HSp13 HB13 HN11 HN12'
          go_wp2_with fail
          go_roundw
          case rel => exact ⟨k + 1, by go_num, by omega, HSp14, HB14⟩
          case measure => simp [intOf]; omega
        · have z0 : ((z : Int) == 0) = false := by simp; omega
          have HF8 := HI8
          clear hz1
          go_wp2_with fail
          refine (attach_any l ids A I n c q cq _ HR8.out hnc HI8.out (by omega)).mono ?_
          obtain ⟨RA, RI, RE, hra⟩ : ∃ x y z, Sp.attach l ids = (x, y, z) := ⟨_, _, _, rfl⟩
          rw [hra]
          have HRA := hide hra
          clear hra
          rintro e w9 ⟨A9, c9, rfl, hN9, hc9, hb9⟩
          have HN9 := hide hN9
          have HR9 := hide (HR8.out.later hb9)
          have HI9 := hide ((HI8.out.below hb9).mono hb9.size)
          have HF9 := hide ((HF8.out.below hb9).mono hb9.size)
          have HSp9 := hide (HSp8.out.below hb9)
          have HB9 := hide (HB8.out.trans (hb9.mono HB8.out.size))
          clear hb9 hN9 HR8 HI8 HF8 HSp8 HB8
          go_wp2_with fail
          refine (refAttach_any l ids A I n c q cq _ HR9.out hnc HI9.out (by omega)).mono ?_
          rw [HRA.out]
          rintro e w10 ⟨A10, c10, rfl, hN10, hc10, hb10⟩
          have HN10 := hide hN10
          have HN9' := hide (HN9.out.later hb10)
          have HR10 := hide (HR9.out.later hb10)
          have HF10 := hide ((HF9.out.below hb10).mono hb10.size)
          have HSp10 := hide (HSp9.out.below hb10)
          have HB10 := hide (HB9.out.trans (hb10.mono HB9.out.size))
          clear hb10 hN10 HN9 HR9 HI9 HF9 HSp9 HB9
          simp only at hc9 hc10
          go_wp2_with fail
          refine (replace_any l ids A I n c q cq _ HR10.out hnc HF10.out hcq).mono ?_
          obtain ⟨RB, RG, hrb⟩ : ∃ x y, Sp.replace l ids = (x, y) := ⟨_, _, rfl⟩
          rw [hrb]
          have HRB := hide hrb
          clear hrb
          rintro e w11 ⟨A11, c11, rfl, hN11, hc11, hb11⟩
          have HN11 := hide hN11
          have HN9'' := hide (HN9'.out.later hb11)
          have HN10' := hide (HN10.out.later hb11)
          have HR11 := hide (HR10.out.later hb11)
          have HF11 := hide ((HF10.out.below hb11).mono hb11.size)
          have HSp11 := hide (HSp10.out.below hb11)
          have HB11 := hide (HB10.out.trans (hb11.mono HB10.out.size))
          clear hb11 hN11 HN9' HN10 HR10 HF10 HSp10 HB10
          go_wp2_with fail
          refine (refReplace_any l ids A I n c q cq _ HR11.out hnc HF11.out hcq).mono ?_
          rw [HRB.out]
          rintro e w12 ⟨A12, c12, rfl, hN12, hc12, hb12⟩
          have HN12 := hide hN12
          have HN9 := hide (HN9''.out.later hb12)
          have HN10 := hide (HN10'.out.later hb12)
          have HN11' := hide (HN11.out.later hb12)
          have HSp12 := hide (HSp11.out.below hb12)
          have HB12 := hide (HB11.out.trans (hb12.mono HB11.out.size))
          clear hb12 hN12 HN9'' HN10' HN11 HR11 HF11 HSp11 HB11
          simp only at hc11 hc12 HN9 HN10 HN11' HN12
          have e1 : (RI == RI) = true := by simp
          have e2 : (RE == RE) = true := by simp
          have e3 : (RG == RG) = true := by simp
          go_wp2_with fail
          refine (sameRefs_any A9 A10 RA.length RA.length c9 c10 w12.heap.size RA RA _ HN9.out HN10.out (by omega) (by omega)).mono ?_
          rintro e w13 ⟨rfl, hb13⟩
          rw [decide_eq_true (rfl : RA = RA)]
          have HSp13 := hide (HSp12.out.below hb13)
          have HN11 := hide (HN11'.out.later hb13)
          have HN12' := hide (HN12.out.later hb13)
          have HB13 := hide (HB12.out.trans (hb13.mono HB12.out.size))
          clear hb13 HSp12 HB12 HN9 HN10 HN11' HN12
          go_wp2_with fail
          refine (sameRefs_any A11 A12 RB.length RB.length c11 c12 w13.heap.size RB RB _ HN11.out HN12'.out (by omega) (by omega)).mono ?_
          rintro e w14 ⟨rfl, hb14⟩
          rw [decide_eq_true (rfl : RB = RB)]
          have HSp14 := hide (HSp13.out.below hb14)
          have HB14 := hide (HB13.out.trans (hb14.mono HB13.out.size))
          clear hb14 HSp13 HB13 HN11 HN12'
          go_wp2_with fail
          go_roundw
          case rel => exact ⟨k + 1, by go_num, by omega, HSp14, HB14⟩
          case measure => simp [intOf]; omega
      · have hmq' : ¬ (m : Int) ≤ (q : Int) := by omega
        have HF8 := HI8
        go_wp2_with fail
        refine (attach_any l ids A I n c q cq _ HR8.out hnc HI8.out (by omega)).mono ?_
        obtain ⟨RA, RI, RE, hra⟩ : ∃ x y z, Sp.attach l ids = (x, y, z) := ⟨_, _, _, rfl⟩
        rw [hra]
        have HRA := hide hra
        clear hra
        rintro e w9 ⟨A9, c9, rfl, hN9, hc9, hb9⟩
        have HN9 := hide hN9
        have HR9 := hide (HR8.out.later hb9)
        have HI9 := hide ((HI8.out.below hb9).mono hb9.size)
        have HF9 := hide ((HF8.out.below hb9).mono hb9.size)
        have HSp9 := hide (HSp8.out.below hb9)
        have HB9 := hide (HB8.out.trans (hb9.mono HB8.out.size))
        clear hb9 hN9 HR8 HI8 HF8 HSp8 HB8
        go_wp2_with fail
        refine (refAttach_any l ids A I n c q cq _ HR9.out hnc HI9.out (by omega)).mono ?_
        rw [HRA.out]
        rintro e w10 ⟨A10, c10, rfl, hN10, hc10, hb10⟩
        have HN10 := hide hN10
        have HN9' := hide (HN9.out.later hb10)
        have HR10 := hide (HR9.out.later hb10)
        have HF10 := hide ((HF9.out.below hb10).mono hb10.size)
        have HSp10 := hide (HSp9.out.below hb10)
        have HB10 := hide (HB9.out.trans (hb10.mono HB9.out.size))
        clear hb10 hN10 HN9 HR9 HI9 HF9 HSp9 HB9
        simp only at hc9 hc10
        go_wp2_with fail
        refine (replace_any l ids A I n c q cq _ HR10.out hnc HF10.out hcq).mono ?_
        obtain ⟨RB, RG, hrb⟩ : ∃ x y, Sp.replace l ids = (x, y) := ⟨_, _, rfl⟩
        rw [hrb]
        have HRB := hide hrb
        clear hrb
        rintro e w11 ⟨A11, c11, rfl, hN11, hc11, hb11⟩
        have HN11 := hide hN11
        have HN9'' := hide (HN9'.out.later hb11)
        have HN10' := hide (HN10.out.later hb11)
        have HR11 := hide (HR10.out.later hb11)
        have HF11 := hide ((HF10.out.below hb11).mono hb11.size)
        have HSp11 := hide (HSp10.out.below hb11)
        have HB11 := hide (HB10.out.trans (hb11.mono HB10.out.size))
        clear hb11 hN11 HN9' HN10 HR10 HF10 HSp10 HB10
        go_wp2_with fail
        refine (refReplace_any l ids A I n c q cq _ HR11.out hnc HF11.out hcq).mono ?_
        rw [HRB.out]
        rintro e w12 ⟨A12, c12, rfl, hN12, hc12, hb12⟩
        have HN12 := hide hN12
        have HN9 := hide (HN9''.out.later hb12)
        have HN10 := hide (HN10'.out.later hb12)
        have HN11' := hide (HN11.out.later hb12)
        have HSp12 := hide (HSp11.out.below hb12)
        have HB12 := hide (HB11.out.trans (hb12.mono HB11.out.size))
        clear hb12 hN12 HN9'' HN10' HN11 HR11 HF11 HSp11 HB11
        simp only at hc11 hc12 HN9 HN10 HN11' HN12
        have e1 : (RI == RI) = true := by simp
        have e2 : (RE == RE) = true := by simp
        have e3 : (RG == RG) = true := by simp
        go_wp2_with fail
        refine (sameRefs_any A9 A10 RA.length RA.length c9 c10 w12.heap.size RA RA _ HN9.out HN10.out (by omega) (by omega)).mono ?_
        rintro e w13 ⟨rfl, hb13⟩
        rw [decide_eq_true (rfl : RA = RA)]
        have HSp13 := hide (HSp12.out.below hb13)
        have HN11 := hide (HN11'.out.later hb13)
        have HN12' := hide (HN12.out.later hb13)
        have HB13 := hide (HB12.out.trans (hb13.mono HB12.out.size))
        clear hb13 HSp12 HB12 HN9 HN10 HN11' HN12
        go_wp2_with fail
        refine (sameRefs_any A11 A12 RB.length RB.length c11 c12 w13.heap.size RB RB _ HN11.out HN12'.out (by omega) (by omega)).mono ?_
        rintro e w14 ⟨rfl, hb14⟩
        rw [decide_eq_true (rfl : RB = RB)]
        have HSp14 := hide (HSp13.out.below hb14)
        have HB14 := hide (HB13.out.trans (hb14.mono HB13.out.size))
        clear hb14 HSp13 HB13 HN11 HN12'
        go_wp2_with fail
        go_roundw
        case rel => exact ⟨k + 1, by go_num, by omega, HSp14, HB14⟩
        case measure => simp [intOf]; omega
    · obtain rfl : k = 2 := by omega
      go_wp2_with fail
      go_ret
      exact ⟨rfl, HB.out⟩
end Go.Proofs.Ytoppkgmgjahloaa
