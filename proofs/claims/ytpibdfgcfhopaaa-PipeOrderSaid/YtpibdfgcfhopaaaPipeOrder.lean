/- Layer 11: bytes come out in the order in which they went in (PipeOrder): the walk. -/
import Derived.Test.YtpibdfgcfhopaaaPpLaw
import Derived.Test.YtpibdfgcfhopaaaPpAny
import Derived.Deep.CutBlock
namespace Go.Proofs.Ytpibdfgcfhopaaa
open Go.RowKit

namespace Pp
/-- The bytes that went in: n of them, from the j-th on. -/
def seven (j n : Nat) : List UInt8 := (List.range' j n).map fun k => UInt8.ofNat (k * 7)
theorem seven_length (j n : Nat) : (seven j n).length = n := by simp [seven]
theorem seven_snoc (j n : Nat) : seven j n ++ [UInt8.ofNat ((j + n) * 7)] = seven j (n + 1) := by simp [seven, List.range'_concat]
theorem seven_cons (j n : Nat) : seven j (n + 1) = UInt8.ofNat (j * 7) :: seven (j + 1) n := by simp [seven, List.range'_succ]
end Pp
/-- Block m is the pipe 4 with one reader and u writers, i bytes in, j out. -/
structure OrdAt (W w : World) (m : Nat) (u : Int) (i j : Nat) : Prop where
  at_ : ∃ A c, PpAt w m 4 1 u A (i - j) c (Pp.seven j (i - j)) ∧ w.ownsRow (m + 1) 5 1 (.slice A (i - j) c) (i - j) (bv (Pp.seven j (i - j)))
  le : j ≤ i ∧ i - j ≤ 64
  low : W.heap.size ≤ m
  below : Below W.heap.size W w
theorem OrdAt.later {W w w' : World} {m : Nat} {u : Int} {i j : Nat} (h : OrdAt W w m u i j) (hb : Below w.heap.size w w') : OrdAt W w' m u i j := ⟨h.at_.imp fun _ h => h.imp fun _ h => ⟨h.1.below hb, own_below h.2 hb⟩, h.le, h.low, h.below.trans (hb.mono h.below.size)⟩
/-- The pipe is laid anew, with other bytes. -/
theorem OrdAt.turn {W w0 w : World} {m : Nat} {u : Int} {i j i' j' : Nat} (h : OrdAt W w0 m u i j) (hb : Below w0.heap.size w0 w) {A : Option Addr} {n c : Nat} (ho : w.ownsRow w0.heap.size 5 1 (.slice A n c) n (bv (Pp.seven j' (i' - j')))) (hle : j' ≤ i' ∧ i' - j' ≤ 64) : OrdAt W (w.setRow m (oc (Ob.pipe 4 1 u ⟨A, n, c⟩))) m u i' j' := by
  obtain ⟨A0, c0, P, _⟩ := h.at_
  have hm := P.ob.lt
  have O := P.ob.below hb hm
  obtain rfl : n = i' - j' := by rw [← own_bytes ho, Pp.seven_length]
  exact ⟨⟨A, c, ⟨O.row_same _, Bytes.of_own (own_keep ho (keep_row hm _)), own_cap ho⟩, own_weaken (own_keep ho (keep_row hm _)) hm⟩, hle, h.low, below_row (h.below.trans (hb.mono h.below.size)) h.low _⟩
theorem seven_wrap (i : Nat) : IntKind.i64.wrap ((i : Int) * 7 % 256) = (i : Int) * 7 % 256 := by rw [IntKind.wrap_i64]; omega
theorem seven_byte (i : Nat) : (((UInt8.ofNat (i * 7)).toNat : Nat) : Int) = (i : Int) * 7 % 256 := by rw [UInt8.toNat_ofNat']; omega

set_option maxRecDepth 100000 in
set_option maxHeartbeats 8000000 in
theorem pipeOrder_any (S : Option Addr) (q r : Nat) (l : List UInt8) (t : Nat) (ht : t < 256) (W : World) (hS : Bytes W W.heap.size S q l) (hq : q ≤ 9223372036854775807) :
    Calls Try.prog 4 #[.slice S q r, .int .u8 (t : Int)] W (BoolPost true W) := by
  have HS := hide hS
  clear hS
  go_enter Try.func4, Try.ntmps4
  try dsimp only [List.append]
  go_wp2_with fail
  refine (ppSane_any _).mono ?_
  rintro e w1 ⟨rfl, hb1⟩
  have HB1 := hide hb1
  clear hb1
  go_wp2_with fail
  refine (ppNew_any 4 _).mono ?_
  rintro e w2 ⟨rfl, hb2⟩
  obtain ⟨w3, hw3, m, hm, w4, hw4, OZ, OM, hb4, hs4⟩ := laid_ob (Ob.pipe 4 1 1 ⟨none, 0, 0⟩) w2
  have hmW : W.heap.size ≤ m := by have := HB1.out.size; have := hb2.size; omega
  have z28 := OM.free 28
  have k28 : w4.cell? ⟨m, 28, none⟩ = some (.int .i64 1) := OM.cell 28
  obtain ⟨u, hu⟩ : ∃ u : Int, 1 + (t : Int) % 2 = u := ⟨_, rfl⟩
  have hu' : 1 ≤ u ∧ u ≤ 2 := by omega
  have O5 : Obl (w4.setCell ⟨m, 28, none⟩ (.int .i64 u)) m 41 (oc (Ob.pipe 4 1 u ⟨none, 0, 0⟩)) := OM.put 28 _
  have HB5 := hide ((HB1.out.trans ((hb2.trans (hb4.mono hb2.size)).mono HB1.out.size)).setCell (p := ⟨m, 28, none⟩) hmW (.int .i64 u))
  have HK : Hid (OrdAt W (w4.setCell ⟨m, 28, none⟩ (.int .i64 u)) m u 0 0) := hide ⟨⟨none, 0, ⟨O5, Bytes.nil, by simp⟩, own_nil⟩, ⟨by simp, by simp⟩, hmW, HB5.out⟩
  obtain ⟨w5, hw5⟩ : ∃ w5, w4.setCell ⟨m, 28, none⟩ (.int .i64 u) = w5 := ⟨_, rfl⟩
  rw [hw5] at HK
  clear hb2 hb4 HB1 OM O5 HB5
  go_upto_block 0 with (first | (refine store_ob rfl _ _ rfl rfl (c := Ob.pipe 4 1 1 ⟨none, 0, 0⟩) rfl OZ rfl ?_; rw [hw4]) | fail)
  clear OZ hw5 hw4 hw3 hm hs4 hu z28 k28 hmW
  go_cut [6, 7] from 8 to 86 (fun s6 s7 wx => ∃ i j : Nat, s6 = .int .i64 (i : Int) ∧ s7 = .int .i64 (j : Int) ∧ i ≤ 200 ∧ Hid (OrdAt W wx m u i j))
  case first =>
    go_wp2_with fail
    go_loopw [31, 6, 7] (fun s31 s6 s7 wr => ∃ k i j : Nat, s31 = .int .i64 (k : Int) ∧ s6 = .int .i64 (i : Int) ∧ s7 = .int .i64 (j : Int) ∧ k ≤ q ∧ i ≤ k ∧ k ≤ 200 ∧ Hid (OrdAt W wr m u i j)) (fun s31 _ _ _ => q - (intOf s31).toNat)
    case atStart => exact ⟨0, 0, 0, rfl, rfl, rfl, by omega, by omega, by omega, HK⟩
    case round =>
      clear HK
      obtain ⟨k, i, j, rfl, rfl, rfl, hk, hik, hk2, HK⟩ := hrel
      by_cases hlt : k < q
      · have hlt' : (k : Int) < (q : Int) := by omega
        obtain ⟨b, f, hl, rfl, hbb, hc⟩ := HS.out.at_ hlt
        have hc' : wr.cell? ⟨b, f + k, none⟩ = some (.int .u8 (l[k].toNat : Int)) := (HK.out.below.cell (p := ⟨b, f + k, none⟩) hbb).trans hc
        have ha : l[k].toNat < 256 := l[k].toNat_lt
        generalize l[k].toNat = a at *
        clear hc
        by_cases h2 : k < 200
        · have h2' : ¬ (200 : Int) ≤ (k : Int) := by omega
          obtain ⟨A, c, P, _⟩ := HK.out.at_
          have HP := hide P
          have hle := HK.out.le
          have hp : (Ob.pipe 4 1 u ⟨A, i - j, c⟩).Pipe := pipe_pipe (by decide) (by omega) hle.2
          have HPP := hide hp
          have HRE := hide (pipe_rdErr hp)
          have HWE := hide (pipe_wrErr hp)
          have O := P.ob
          clear P hp
          by_cases hx : 0 < a % 3
          · have hx' : (0 : Int) < (a : Int) % 3 := by omega
            have HV := hide (seven_byte i)
            go_wp2_with (first | (refine load_ob rfl _ rfl rfl O ?_) | fail)
            rw [← HV.out]
            by_cases hfull : 64 ≤ i - j
            · have he : (Ob.pipe 4 1 u ⟨A, i - j, c⟩).wrErr = 12 := by rw [HWE.out, if_neg (by decide), if_pos hfull]
              refine (ppWrite_no (Ob.pipe 4 1 u ⟨A, i - j, c⟩) _ _ (by rw [he]; decide)).mono ?_
              rintro e w6 ⟨rfl, hb6⟩
              rw [he]
              obtain ⟨w7, hw7, g, hg, w8, hw8, OZ, _, hb8, hs8⟩ := laid_ob Ob.zero w6
              have HK2 := hide (HK.out.later (hb6.trans (hb8.mono hb6.size)))
              have hd : (i : Int) - (j : Int) = 64 := by omega
              have hij : j ≤ i := hle.1
              clear hb6 hb8 HK HP HPP HRE HWE O he
              go_wp2_with (first | (refine store_ob rfl _ _ rfl rfl (c := Ob.zero) rfl OZ rfl ?_; rw [hw8]) | fail)
              go_roundw
              case rel => exact ⟨k + 1, i, j, by go_num, rfl, rfl, by omega, by omega, by omega, HK2⟩
              case measure => simp [intOf]; omega
            · have hlt64 : i - j < 64 := by omega
              refine (ppWrite_ok (Ob.pipe 4 1 u ⟨A, i - j, c⟩) (UInt8.ofNat (i * 7)) (Pp.seven j (i - j)) _ HPP.out (show (1 : Int) ≠ 0 by decide) hlt64 HP.out.data HP.out.cap).mono ?_
              rintro e w6 ⟨A1, n1, c1, rfl, hown1, hb6⟩
              have hsv : Pp.seven j (i - j) ++ [UInt8.ofNat (i * 7)] = Pp.seven j (i + 1 - j) := by
                have h := Pp.seven_snoc j (i - j)
                rw [show j + (i - j) = i by omega, show i - j + 1 = i + 1 - j by omega] at h
                exact h
              rw [hsv] at hown1
              obtain ⟨w7, hw7, g, hg, w8, hw8, OZ, ON, hb8, hs8⟩ := laid_ob (Ob.pipe 4 1 u ⟨A1, n1, c1⟩) w6
              have hown8 := own_below hown1 hb8
              have HK2 := hide (HK.out.turn (i' := i + 1) (j' := j) (hb6.trans (hb8.mono hb6.size)) hown8 (by omega))
              have O8 := O.below (hb6.trans (hb8.mono hb6.size)) O.lt
              have hij : j ≤ i := hle.1
              clear hb6 hb8 HK HP HPP HRE HWE O hsv hown1 hown8
              go_wp2_with (first | (refine store_ob rfl _ _ rfl rfl (c := Ob.pipe 4 1 u ⟨A1, n1, c1⟩) rfl OZ rfl ?_; rw [hw8]) | (refine load_ob rfl _ rfl rfl ON ?_) | (refine store_ob rfl _ _ rfl rfl (c := Ob.pipe 4 1 u ⟨A1, n1, c1⟩) rfl O8 rfl ?_) | fail)
              go_roundw
              case rel => exact ⟨k + 1, i + 1, j, by go_num, by go_num, rfl, by omega, by omega, by omega, HK2⟩
              case measure => simp [intOf]; omega
          · have hx' : ¬ (0 : Int) < (a : Int) % 3 := by omega
            have HV := hide (seven_byte j)
            have hwx := seven_wrap j
            by_cases hij : i = j
            · subst hij
              have he : (Ob.pipe 4 1 u ⟨A, i - i, c⟩).rdErr = 12 := by rw [HRE.out, if_pos ⟨Nat.sub_self i, by omega⟩]
              rw [Nat.sub_self] at O he
              have HE := hide he
              clear he HP HPP HRE HWE hle
              go_wp2_with (first | (refine load_ob rfl _ rfl rfl O ?_) | fail)
              refine (ppRead_no (Ob.pipe 4 1 u ⟨A, 0, c⟩) _ (by rw [HE.out]; decide)).mono ?_
              rintro e w6 ⟨rfl, hb6⟩
              rw [HE.out]
              obtain ⟨w7, hw7, g, hg, w8, hw8, OZ, _, hb8, hs8⟩ := laid_ob Ob.zero w6
              have HK2 := hide (HK.out.later (hb6.trans (hb8.mono hb6.size)))
              clear hb6 hb8 HK O HE
              go_wp2_with (first | (refine store_ob rfl _ _ rfl rfl (c := Ob.zero) rfl OZ rfl ?_; rw [hw8]) | fail)
              go_roundw
              case rel => exact ⟨k + 1, i, i, by go_num, rfl, rfl, by omega, by omega, by omega, HK2⟩
              case measure => simp [intOf]; omega
            · have hsv : Pp.seven j (i - j) = UInt8.ofNat (j * 7) :: Pp.seven (j + 1) (i - (j + 1)) := by
                rw [← Pp.seven_cons]; congr 1; omega
              have HD := hide HP.out.data
              rw [hsv] at HD
              go_wp2_with (first | (refine load_ob rfl _ rfl rfl O ?_) | fail)
              refine (ppRead_ok (Ob.pipe 4 1 u ⟨A, i - j, c⟩) (UInt8.ofNat (j * 7)) _ _ HPP.out HD.out HP.out.cap).mono ?_
              rintro e w6 ⟨A1, n1, c1, rfl, hown1, hb6⟩
              rw [HV.out]
              obtain ⟨w7, hw7, g, hg, w8, hw8, OZ, ON, hb8, hs8⟩ := laid_ob (Ob.pipe 4 1 u ⟨A1, n1, c1⟩) w6
              have hown8 := own_below hown1 hb8
              have HK2 := hide (HK.out.turn (i' := i) (j' := j + 1) (hb6.trans (hb8.mono hb6.size)) hown8 (by omega))
              have O8 := O.below (hb6.trans (hb8.mono hb6.size)) O.lt
              have hji : j ≤ i := hle.1
              clear hb6 hb8 HK HP HPP HRE HWE O hsv hown1 hown8 HD
              go_wp2_with (first | (refine store_ob rfl _ _ rfl rfl (c := Ob.pipe 4 1 u ⟨A1, n1, c1⟩) rfl OZ rfl ?_; rw [hw8]) | (refine load_ob rfl _ rfl rfl ON ?_) | (refine store_ob rfl _ _ rfl rfl (c := Ob.pipe 4 1 u ⟨A1, n1, c1⟩) rfl O8 rfl ?_) | fail)
              go_roundw
              case rel => exact ⟨k + 1, i, j + 1, by go_num, rfl, by go_num, by omega, by omega, by omega, HK2⟩
              case measure => simp [intOf]; omega
        · have h2' : (200 : Int) ≤ (k : Int) := by omega
          go_wp2_with fail
          go_meet
          case rel => exact ⟨i, j, rfl, rfl, by omega, HK⟩
      · have hlt' : ¬ (k : Int) < (q : Int) := by omega
        go_wp2_with fail
        go_meet
        case rel => exact ⟨i, j, rfl, rfl, by omega, HK⟩
  case rest =>
    clear HK
    obtain ⟨i, j, rfl, rfl, hi, HK⟩ := hcut
    obtain ⟨A, c, P, hown⟩ := HK.out.at_
    have hle := HK.out.le
    have hmW := HK.out.low
    have z28 := P.ob.free 28
    have k28 : wc.cell? ⟨m, 28, none⟩ = some (.int .i64 u) := P.ob.cell 28
    have O5 : Obl (wc.setCell ⟨m, 28, none⟩ (.int .i64 0)) m 41 (oc (Ob.pipe 4 1 0 ⟨A, i - j, c⟩)) := P.ob.put 28 _
    have hown5 := own_keep hown (keep_put (m := m) (Nat.lt_succ_self m) 28 (.int .i64 0))
    have HK5 : Hid (OrdAt W (wc.setCell ⟨m, 28, none⟩ (.int .i64 0)) m 0 i j) := hide ⟨⟨A, c, ⟨O5, Bytes.of_own hown5, P.cap⟩, hown5⟩, hle, hmW, HK.out.below.setCell (p := ⟨m, 28, none⟩) hmW (.int .i64 0)⟩
    obtain ⟨wd, hwd⟩ : ∃ wd, wc.setCell ⟨m, 28, none⟩ (.int .i64 0) = wd := ⟨_, rfl⟩
    rw [hwd] at HK5
    obtain ⟨hji, hij⟩ := hle
    clear P O5 HK hown hown5 hmW
    go_wp2_with fail
    go_loopw [7] (fun s7 wr => ∃ j' : Nat, s7 = .int .i64 (j' : Int) ∧ j' ≤ i ∧ Hid (OrdAt W wr m 0 i j')) (fun s7 _ => i - (intOf s7).toNat)
    case atStart => exact ⟨j, rfl, hji, HK5⟩
    case round =>
      clear HK5 z28 k28 hwd hji hij
      obtain ⟨j, rfl, hji, HK⟩ := hrel
      obtain ⟨A, c, P, _⟩ := HK.out.at_
      have hle := HK.out.le
      have hp : (Ob.pipe 4 1 0 ⟨A, i - j, c⟩).Pipe := pipe_pipe (by decide) (by decide) hle.2
      have HPP := hide hp
      have HP := hide P
      have O := P.ob
      clear P hp
      by_cases hlt : j < i
      · have hlt' : (j : Int) < (i : Int) := by omega
        have HV := hide (seven_byte j)
        have hwx := seven_wrap j
        have hsv : Pp.seven j (i - j) = UInt8.ofNat (j * 7) :: Pp.seven (j + 1) (i - (j + 1)) := by
          rw [← Pp.seven_cons]; congr 1; omega
        have HD := hide HP.out.data
        rw [hsv] at HD
        go_wp2_with (first | (refine load_ob rfl _ rfl rfl O ?_) | fail)
        refine (ppRead_ok (Ob.pipe 4 1 0 ⟨A, i - j, c⟩) (UInt8.ofNat (j * 7)) _ _ HPP.out HD.out HP.out.cap).mono ?_
        rintro e w6 ⟨A1, n1, c1, rfl, hown1, hb6⟩
        rw [HV.out]
        obtain ⟨w7, hw7, g, hg, w8, hw8, OZ, ON, hb8, hs8⟩ := laid_ob (Ob.pipe 4 1 0 ⟨A1, n1, c1⟩) w6
        have hown8 := own_below hown1 hb8
        have HK2 := hide (HK.out.turn (i' := i) (j' := j + 1) (hb6.trans (hb8.mono hb6.size)) hown8 (by omega))
        have O8 := O.below (hb6.trans (hb8.mono hb6.size)) O.lt
        clear hb6 hb8 HK HP HPP O hsv hown1 hown8 HD hle
        go_wp2_with (first | (refine store_ob rfl _ _ rfl rfl (c := Ob.pipe 4 1 0 ⟨A1, n1, c1⟩) rfl OZ rfl ?_; rw [hw8]) | (refine load_ob rfl _ rfl rfl ON ?_) | (refine store_ob rfl _ _ rfl rfl (c := Ob.pipe 4 1 0 ⟨A1, n1, c1⟩) rfl O8 rfl ?_) | fail)
        go_roundw
        case rel => exact ⟨j + 1, by go_num, by omega, HK2⟩
        case measure => simp [intOf]; omega
      · obtain rfl : j = i := by omega
        rw [Nat.sub_self] at O HPP
        have HL := HK.out.below
        have HBL := hide HL
        clear HL HP HK hle
        go_wp2_with (first | (refine load_ob rfl _ rfl rfl O ?_) | fail)
        refine (ppRead_end (Ob.pipe 4 1 0 ⟨A, 0, c⟩) _ HPP.out rfl (Int.le_refl 0)).mono ?_
        rintro e w6 ⟨rfl, hb6⟩
        obtain ⟨w7, hw7, g, hg, w8, hw8, OZ, ON, hb8, hs8⟩ := laid_ob (Ob.pipe 4 1 0 ⟨none, 0, 0⟩) w6
        have O8 := O.below (hb6.trans (hb8.mono hb6.size)) O.lt
        have HB8 := hide (HBL.out.trans ((hb6.trans (hb8.mono hb6.size)).mono HBL.out.size))
        clear hb6 hb8 O HBL
        go_wp2_with (first | (refine store_ob rfl _ _ rfl rfl (c := Ob.pipe 4 1 0 ⟨none, 0, 0⟩) rfl OZ rfl ?_; rw [hw8]) | (refine wpList_val (by rfl) (exec_load_ob rfl rfl ON) ?_) | (refine wpList_val (by rfl) (exec_load_ob rfl rfl O8) ?_) | (go_at_call 16; refine (same_like (like_pipe 4 1 0 ⟨none, 0, 0⟩) (like_pipe 4 1 0 ⟨A, 0, c⟩) Bytes.nil Bytes.nil).mono ?_; rintro e w9 ⟨rfl, hb9⟩) | fail)
        go_ret
        exact ⟨rfl, HB8.out.trans (hb9.mono HB8.out.size)⟩
end Go.Proofs.Ytpibdfgcfhopaaa
