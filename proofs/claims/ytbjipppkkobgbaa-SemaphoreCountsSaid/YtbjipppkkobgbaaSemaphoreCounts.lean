/- Layer 13: the count is what was raised less what was lowered (SemaphoreCounts): the walk. -/
import Derived.Test.YtbjipppkkobgbaaSmLaw
import Derived.Deep.CutBlock
namespace Go.Proofs.Ytbjipppkkobgbaa
open Go.RowKit

/-- Block m is the semaphore 5 with the count n. -/
structure SemAt (W w : World) (m : Nat) (n : Nat) : Prop where
  ob : Obl w m 41 (oc (Ob.sem 5 (n : Int)))
  low : W.heap.size ≤ m
  below : Below W.heap.size W w
theorem SemAt.later {W w w' : World} {m n : Nat} (h : SemAt W w m n) (hb : Below w.heap.size w w') : SemAt W w' m n := ⟨h.ob.below hb h.ob.lt, h.low, h.below.trans (hb.mono h.below.size)⟩
theorem SemAt.turn {W w : World} {m n : Nat} (h : SemAt W w m n) (k : Nat) : SemAt W (w.setRow m (oc (Ob.sem 5 (k : Int)))) m k := ⟨h.ob.row_same _, h.low, below_row h.below h.low _⟩

set_option maxRecDepth 100000 in
set_option maxHeartbeats 8000000 in
theorem semaphoreCounts_any (S : Option Addr) (q r : Nat) (l : List UInt8) (t : Nat) (ht : t < 256) (W : World) (hS : Bytes W W.heap.size S q l) (hq : q ≤ 9223372036854775807) :
    Calls Try.prog 4 #[.slice S q r, .int .u8 (t : Int)] W (BoolPost true W) := by
  have HS := hide hS
  clear hS
  obtain ⟨c, hc⟩ : ∃ c, t % 4 = c := ⟨_, rfl⟩
  have hcw : (t : Int) % 4 = (c : Int) := by omega
  have hc3 : c ≤ 3 := by omega
  clear hc
  go_enter Try.func4, Try.ntmps4
  try dsimp only [List.append]
  go_wp2_with fail
  refine (smSane_any _).mono ?_
  rintro e w1 ⟨rfl, hb1⟩
  have HB1 := hide hb1
  clear hb1
  go_wp2_with fail
  refine (smNew_ok (id := 5) (n := (c : Int)) (by decide) (by omega) _).mono ?_
  rintro e w2 ⟨rfl, hb2⟩
  obtain ⟨w3, hw3, m, hm, w4, hw4, OZ, OM, hb4, hs4⟩ := laid_ob (Ob.sem 5 (c : Int)) w2
  have hmW : W.heap.size ≤ m := by have := HB1.out.size; have := hb2.size; omega
  have HK : Hid (SemAt W w4 m c) := hide ⟨OM, hmW, HB1.out.trans ((hb2.trans (hb4.mono hb2.size)).mono HB1.out.size)⟩
  clear hb2 hb4 HB1 OM
  go_upto_block 0 with (first | (refine store_ob rfl _ _ rfl rfl (c := Ob.sem 5 (c : Int)) rfl OZ rfl ?_; rw [hw4]) | fail)
  clear OZ hw4 hw3 hm hs4 hmW
  try rw [hcw]
  clear hcw
  go_cut [7] from 8 to 73 (fun s7 wx => ∃ n : Nat, s7 = .int .i64 (n : Int) ∧ Hid (SemAt W wx m n))
  case first =>
    go_wp2_with fail
    go_loopw [30, 7] (fun s30 s7 wr => ∃ k n : Nat, s30 = .int .i64 (k : Int) ∧ s7 = .int .i64 (n : Int) ∧ k ≤ q ∧ k ≤ 100 ∧ n ≤ 3 + k ∧ Hid (SemAt W wr m n)) (fun s30 _ _ => q - (intOf s30).toNat)
    case atStart => exact ⟨0, c, rfl, rfl, by omega, by omega, by omega, HK⟩
    case round =>
      clear HK
      obtain ⟨k, n, rfl, rfl, hk, hk2, hn, HK⟩ := hrel
      by_cases hlt : k < q
      · have hlt' : (k : Int) < (q : Int) := by omega
        obtain ⟨b, f, hl, rfl, hbb, hcc⟩ := HS.out.at_ hlt
        have hc' : wr.cell? ⟨b, f + k, none⟩ = some (.int .u8 (l[k].toNat : Int)) := (HK.out.below.cell (p := ⟨b, f + k, none⟩) hbb).trans hcc
        have ha : l[k].toNat < 256 := l[k].toNat_lt
        generalize l[k].toNat = a at *
        clear hcc
        by_cases h2 : k < 100
        · have h2' : ¬ (100 : Int) ≤ (k : Int) := by omega
          have O := HK.out.ob
          by_cases hx : a % 2 = 0
          · have hx' : (a : Int) % 2 = 0 := by omega
            go_wp2_with (first | (refine load_ob rfl _ rfl rfl O ?_) | fail)
            refine (smUp_ok (id := 5) (n := (n : Int)) (by decide) (by omega) _).mono ?_
            rintro e w6 ⟨rfl, hb6⟩
            obtain ⟨w7, hw7, g, hg, w8, hw8, OZ, ON, hb8, hs8⟩ := laid_ob (Ob.sem 5 ((n : Int) + 1)) w6
            have HK2 := hide ((HK.out.later (hb6.trans (hb8.mono hb6.size))).turn (n + 1))
            have O8 := O.below (hb6.trans (hb8.mono hb6.size)) O.lt
            clear hb6 hb8 HK O
            go_wp2_with (first | (refine store_ob rfl _ _ rfl rfl (c := Ob.sem 5 ((n : Int) + 1)) rfl OZ rfl ?_; rw [hw8]) | (refine load_ob rfl _ rfl rfl ON ?_) | (refine store_ob rfl _ _ rfl rfl (c := Ob.sem 5 ((n : Int) + 1)) rfl O8 rfl ?_) | fail)
            go_roundw
            case rel => exact ⟨k + 1, n + 1, by go_num, by go_num, by omega, by omega, by omega, HK2⟩
            case measure => simp [intOf]; omega
          · have hx' : (a : Int) % 2 = 1 := by omega
            by_cases h0 : n = 0
            · subst h0
              go_wp2_with (first | (refine load_ob rfl _ rfl rfl O ?_) | fail)
              refine (smDown_wait (id := 5) (by decide) _).mono ?_
              rintro e w6 ⟨rfl, hb6⟩
              obtain ⟨w7, hw7, g, hg, w8, hw8, OZ, _, hb8, hs8⟩ := laid_ob Ob.zero w6
              have HK2 := hide (HK.out.later (hb6.trans (hb8.mono hb6.size)))
              clear hb6 hb8 HK O
              go_wp2_with (first | (refine store_ob rfl _ _ rfl rfl (c := Ob.zero) rfl OZ rfl ?_; rw [hw8]) | fail)
              go_roundw
              case rel => exact ⟨k + 1, 0, by go_num, rfl, by omega, by omega, by omega, HK2⟩
              case measure => simp [intOf]; omega
            · obtain ⟨p, rfl⟩ : ∃ p, n = p + 1 := ⟨n - 1, by omega⟩
              go_wp2_with (first | (refine load_ob rfl _ rfl rfl O ?_) | fail)
              refine (smDown_ok (id := 5) (n := ((p + 1 : Nat) : Int)) (by decide) (by omega) _).mono ?_
              rintro e w6 ⟨rfl, hb6⟩
              rw [show ((p + 1 : Nat) : Int) - 1 = (p : Int) by omega]
              obtain ⟨w7, hw7, g, hg, w8, hw8, OZ, ON, hb8, hs8⟩ := laid_ob (Ob.sem 5 (p : Int)) w6
              have HK2 := hide ((HK.out.later (hb6.trans (hb8.mono hb6.size))).turn p)
              have O8 := O.below (hb6.trans (hb8.mono hb6.size)) O.lt
              have b0 : ((p : Int) + 1 == 0) = false := by simp; omega
              clear hb6 hb8 HK O h0
              go_wp2_with (first | (refine store_ob rfl _ _ rfl rfl (c := Ob.sem 5 (p : Int)) rfl OZ rfl ?_; rw [hw8]) | (refine load_ob rfl _ rfl rfl ON ?_) | (refine store_ob rfl _ _ rfl rfl (c := Ob.sem 5 (p : Int)) rfl O8 rfl ?_) | fail)
              go_roundw
              case rel => exact ⟨k + 1, p, by go_num, by go_num, by omega, by omega, by omega, HK2⟩
              case measure => simp [intOf]; omega
        · have h2' : (100 : Int) ≤ (k : Int) := by omega
          go_wp2_with fail
          go_meet
          case rel => exact ⟨n, rfl, HK⟩
      · have hlt' : ¬ (k : Int) < (q : Int) := by omega
        go_wp2_with fail
        go_meet
        case rel => exact ⟨n, rfl, HK⟩
  case rest =>
    clear HK
    obtain ⟨n, rfl, HK⟩ := hcut
    have k34 : wc.cell? ⟨m, 34, none⟩ = some (.int .i64 (n : Int)) := HK.out.ob.cell 34
    go_wp2_with fail
    go_ret
    exact ⟨by simp, HK.out.below⟩
end Go.Proofs.Ytbjipppkkobgbaa
