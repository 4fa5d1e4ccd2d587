/- Layer 2, numbers: contracts of words.Number, words.Format and the document's own answers. -/
import Derived.Test.YtfjekckcpkkdiaaGreatDoorNumMath
import Derived.Test.YtfjekckcpkkdiaaGreatDoorShelf
import Derived.Lib.AppendIntMem
import Derived.Lib.ConvBytes
import Derived.WalkSmall
import Derived.Stop.LaidErr
namespace Go.Proofs.YtfjekckcpkkdiaaGreatDoor
open Go.RowKit

/-- What the listed variables hold, as far as it is read here. -/
def Laid (w : World) : Prop := (∃ tp p, w.var? Tryz.prog "strconv.ErrRange" = some #[.iface tp p]) ∧ Lib.TabIs Tryz.prog w "internal/strconv.uint64pow10" .u64 Lib.pow10Tab
theorem gRange : Tryz.prog.globalNamed "strconv.ErrRange" = some 6 := by kernel_rfl
theorem gTab : Tryz.prog.globalNamed "internal/strconv.uint64pow10" = some 1 := by kernel_rfl
theorem var_lt {w : World} {n : String} {g : Nat} {cs : Array Value} (hg : Tryz.prog.globalNamed n = some g) (h : w.var? Tryz.prog n = some cs) : g < w.heap.size := by
  unfold World.var? at h
  rw [hg] at h
  rcases Nat.lt_or_ge g w.heap.size with h' | h'
  · exact h'
  · simp [Array.getElem?_eq_none h'] at h
theorem Laid.below {w w' : World} (h : Laid w) (hb : Below w.heap.size w w') : Laid w' := by
  obtain ⟨⟨tp, p, h1⟩, h2⟩ := h
  exact ⟨⟨tp, p, var?_below hb gRange (var_lt gRange h1) h1⟩, var?_below hb gTab (var_lt gTab h2) h2⟩

/-- The same without the error's variable. -/
def LaidT (w : World) : Prop := Lib.TabIs Tryz.prog w "internal/strconv.uint64pow10" .u64 Lib.pow10Tab
theorem Laid.tab {w : World} (h : Laid w) : LaidT w := h.2
theorem LaidT.below {w w' : World} (h : LaidT w) (hb : Below w.heap.size w w') : LaidT w' := var?_below hb gTab (var_lt gTab h) h

namespace Wd
theorem isNum_eq {l : List UInt8} (h : l ≠ [48]) : isNum l = ((body l).all dig && (decide (body l ≠ []) && decide ((body l).head? ≠ some 48))) := by
  unfold isNum; rw [decide_eq_false h]; rfl
theorem isNum_bad {l : List UInt8} {c : UInt8} (h : l ≠ [48]) (hc : c ∈ body l) (hd : dig c = false) : isNum l = false := by
  rw [isNum_eq h]
  have : (body l).all dig = false := by rw [List.all_eq_false]; exact ⟨c, hc, by simp [hd]⟩
  rw [this]; rfl
theorem isNum_all {l : List UInt8} (h : l ≠ [48]) (hd : (body l).all dig = true) : isNum l = (decide (body l ≠ []) && decide ((body l).head? ≠ some 48)) := by
  rw [isNum_eq h, hd]; rfl
end Wd
theorem dig_cases (c : UInt8) : (Wd.dig c = true ∧ decide ((c.toNat : Int) < 48) = false ∧ decide ((57 : Int) < (c.toNat : Int)) = false) ∨ (Wd.dig c = false ∧ (decide ((c.toNat : Int) < 48) = true ∨ (decide ((c.toNat : Int) < 48) = false ∧ decide ((57 : Int) < (c.toNat : Int)) = true))) := by
  by_cases h1 : c.toNat < 48
  · right
    exact ⟨by unfold Wd.dig; rw [decide_eq_false (by omega)]; rfl, .inl (by simp; omega)⟩
  · by_cases h2 : 57 < c.toNat
    · right
      exact ⟨by unfold Wd.dig; rw [decide_eq_false (p := c.toNat ≤ 57) (by omega)]; simp, .inr ⟨by simp; omega, by simp; omega⟩⟩
    · left
      exact ⟨Wd.dig_iff.2 ⟨by omega, by omega⟩, by simp; omega, by simp; omega⟩

set_option maxHeartbeats 1000000 in
theorem isNumber_any (s : ByteArray) (w : World) (hs : s.size ≤ 1048576) :
    Calls Tryz.prog 113 #[.string s] w fun e w' => e = .returned (.bool (Wd.isNum s.data.toList)) ∧ w = w' := by
  by_cases h0 : s.data.toList = [48]
  · have e0 : (s.toList == [48]) = true := by rw [Lib.toList_data, h0]; rfl
    have hn : Wd.isNum s.data.toList = true := by rw [h0]; rfl
    rw [hn]
    clear h0 hn
    go_enter Tryz.func113, Tryz.ntmps113
    go_wp2
    go_ret
    exact ⟨rfl, rfl⟩
  · have e0 : (s.toList == [48]) = false := by rw [Lib.toList_data]; simpa using h0
    have hT := Tryz.strings_TrimPrefix s ⟨#[45]⟩ w
    have hT : Calls Tryz.prog 115 #[.string s, .string ⟨#[45]⟩] w fun e w' => e = .returned (.string ⟨(Wd.body s.data.toList).toArray⟩) ∧ w' = w := hT
    have hb : (Wd.body s.data.toList).length ≤ s.size := by
      rw [Lib.size_eq]
      unfold Wd.body Lib.trimPrefix
      split <;> simp
    have H0 := hide h0
    obtain ⟨d, hd⟩ : ∃ d : ByteArray, d = ⟨(Wd.body s.data.toList).toArray⟩ := ⟨_, rfl⟩
    rw [← hd] at hT
    have hdl : d.data.toList = Wd.body s.data.toList := by rw [hd]
    have hds : d.size ≤ 1048576 := by rw [hd, ba_size]; omega
    have Hdl := hide hdl
    have Hsz := hide (Lib.size_eq d)
    clear h0 hb hd hdl
    go_enter Tryz.func113, Tryz.ntmps113
    go_wp2_with fail
    refine hT.mono ?_
    rintro e w1 ⟨rfl, rfl⟩
    clear hT
    go_wp2_with fail
    go_loop [11] (fun i => ∃ k : Nat, i = .int .i64 (k : Int) ∧ k ≤ d.size ∧ Hid ((d.data.toList.take k).all Wd.dig = true)) (fun i => d.size - (intOf i).toNat)
    case atStart => exact ⟨0, rfl, by omega, hide rfl⟩
    case round =>
      obtain ⟨k, rfl, hk, HH⟩ := hrel
      by_cases hlt : k < d.size
      · rcases dig_cases d[k] with ⟨hg, d1, d2⟩ | ⟨hg, hx⟩
        · have H2 : Hid ((d.data.toList.take (k + 1)).all Wd.dig = true) := hide (by rw [take_snoc d k hlt, List.all_append, HH.out]; simp [hg])
          clear hg
          go_wp2
          go_round
          case rel => exact ⟨k + 1, by go_num, by omega, H2⟩
          case measure => simp [intOf]; omega
        · have H2 := hide (Wd.isNum_bad H0.out (by rw [← Hdl.out]; exact List.mem_of_getElem? (str_at hlt)) hg)
          clear hg
          rcases hx with d1 | ⟨d1, d2⟩
          all_goals
            go_wp2
            go_ret
            exact ⟨ret_bool H2.out.symm, rfl⟩
      · obtain rfl : k = d.size := by omega
        have H2 := hide (Wd.isNum_all H0.out (by
          have := HH.out
          rw [List.take_of_length_le (by rw [← Hsz.out]; exact Nat.le_refl _)] at this
          rw [← Hdl.out]; exact this))
        by_cases he : d.size = 0
        · have e1 : d.toList.isEmpty = true := by rw [ba_empty]; simpa using he
          have H3 : Hid (Wd.isNum s.data.toList = false) := hide (by
            rw [H2.out, ← Hdl.out, show d.data.toList = [] from List.eq_nil_of_length_eq_zero (by rw [← Hsz.out]; exact he)]; rfl)
          clear he
          go_wp2
          go_ret
          exact ⟨ret_bool H3.out.symm, rfl⟩
        · have e1 : d.toList.isEmpty = false := by rw [ba_empty]; simpa using he
          have hpos : 0 < d.size := by omega
          have hdc := drop_cons d 0 hpos
          rw [List.drop_zero] at hdc
          by_cases h48 : d[0] = 48
          · have n1 : (d[0].toNat : Int) = 48 := by rw [h48]; rfl
            have H3 : Hid (Wd.isNum s.data.toList = false) := hide (by
              rw [H2.out, ← Hdl.out, hdc, h48]; rfl)
            clear he h48 hdc
            go_wp2
            go_ret
            exact ⟨ret_bool H3.out.symm, rfl⟩
          · have n1 : ((d[0].toNat : Int) == 48) = false := by
              have : d[0].toNat ≠ 48 := ne_nat h48
              simp; omega
            have n1' : ((d[0].toNat : Int) != 48) = true := by
              have : d[0].toNat ≠ 48 := ne_nat h48
              simp; omega
            have H3 : Hid (Wd.isNum s.data.toList = true) := hide (by
              rw [H2.out, ← Hdl.out, hdc]; simpa using h48)
            clear he h48 hdc
            go_wp2
            go_ret
            exact ⟨ret_bool H3.out.symm, rfl⟩

/-- A number and an error code. -/
def NumPost (r : Int × Nat) (w : World) (e : Ending) (w' : World) : Prop := e = .returned (.tuple #[.int .i64 r.1, .int .i64 (r.2 : Int)]) ∧ Below w.heap.size w w'
theorem NumPost.of {r : Int × Nat} {v : Int} {er : Nat} {w w' : World} {e : Ending} (hr : r = (v, er)) (he : e = .returned (.tuple #[.int .i64 v, .int .i64 (er : Int)])) (hb : Below w.heap.size w w') : NumPost r w e w' := by
  subst hr; exact ⟨he, hb⟩

set_option maxHeartbeats 1000000 in
theorem number_any (s : ByteArray) (w : World) (hs : s.size ≤ 1048576) (hL : Laid w) :
    Calls Tryz.prog 108 #[.string s] w (NumPost (Wd.number s.data.toList) w) := by
  cases hn : Wd.isNum s.data.toList with
  | false =>
    have Hr := hide (Wd.number_no hn)
    have Hn := hide hn
    clear hn hL
    go_enter Tryz.func108, Tryz.ntmps108
    go_wp2_with fail
    refine (isNumber_any s _ hs).mono ?_
    rintro e w1 ⟨rfl, rfl⟩
    rw [Hn.out]
    go_wp2
    go_ret2
    exact NumPost.of Hr.out rfl (Below.refl _ _)
  | true =>
    have hp := Wd.number_parse hn
    have Hn := hide hn
    clear hn
    rcases hp with ⟨v, h1, h2⟩ | ⟨h1, h2⟩
    · have hP := Tryz.strconv_ParseInt_10_at64_ok s (by omega) v h1 w
      have Hr := hide h2
      clear h1 h2 hL
      go_enter Tryz.func108, Tryz.ntmps108
      go_wp2_with fail
      refine (isNumber_any s _ hs).mono ?_
      rintro e w1 ⟨rfl, rfl⟩
      rw [Hn.out]
      go_wp2_with fail
      refine hP.mono ?_
      rintro e w1 ⟨rfl, hw⟩
      have hb : Below w.heap.size w w1 := by
        rcases hw with rfl | ⟨t, rfl⟩
        · exact Below.refl _ _
        · exact Lib.bytesWorld_below _ _ _
      clear hw hP
      go_wp2
      go_ret2
      exact NumPost.of Hr.out rfl hb
    · obtain ⟨⟨tp, p, hv⟩, _⟩ := hL
      have hP := Tryz.strconv_ParseInt_10_at64_range_var s (by omega) h1 tp p w hv
      have Hr := hide h2
      clear h1 h2 hv
      go_enter Tryz.func108, Tryz.ntmps108
      go_wp2_with fail
      refine (isNumber_any s _ hs).mono ?_
      rintro e w1 ⟨rfl, rfl⟩
      rw [Hn.out]
      go_wp2_with fail
      refine hP.mono ?_
      rintro e w1 ⟨N, rfl, _, _, hb⟩
      clear hP
      go_wp2
      go_ret2
      exact NumPost.of Hr.out rfl hb

theorem formatT_any (n : Int) (w : World) (h1 : -9223372036854775808 ≤ n) (h2 : n ≤ 9223372036854775807) (hL : LaidT w) :
    Calls Tryz.prog 28 #[.int .i64 n] w fun e w' => e = .returned (.string ⟨(Lib.itoa n).toArray⟩) ∧ Below w.heap.size w w' := by
  have hF := Tryz.strconv_FormatInt_10 n h1 h2 w hL
  clear hL
  go_enter Tryz.func28, Tryz.ntmps28
  go_wp2_with fail
  refine hF.mono ?_
  rintro e w1 ⟨rfl, k, os, rfl⟩
  clear hF
  have hb := Lib.below_grow w.heap.size w (Nat.le_refl _) k os
  go_wp2
  go_ret
  exact ⟨rfl, hb⟩

theorem format_any (n : Int) (w : World) (h1 : -9223372036854775808 ≤ n) (h2 : n ≤ 9223372036854775807) (hL : Laid w) :
    Calls Tryz.prog 28 #[.int .i64 n] w fun e w' => e = .returned (.string ⟨(Lib.itoa n).toArray⟩) ∧ Below w.heap.size w w' := formatT_any n w h1 h2 hL.2

theorem conv_byte (w : World) (x : Int) (c : UInt8) (hx : x = (c.toNat : Int)) : (convert 26 9 (.slice (some ⟨w.heap.size, 0, none⟩) 1 1)).run Tryz.prog (w.alloc (.cells #[.int .u8 x] 5)) = .ok (.string ⟨#[c]⟩) (w.alloc (.cells #[.int .u8 x] 5)) := by
  subst hx
  exact run_string_rd (P := Tryz.prog) _ Tryz.underlying26 Tryz.underlying5 Tryz.underlying9 (B := w.heap.size + 1) (n := 1) (c := 1) (l := [c]) ⟨rfl, Row.new w _ _⟩

set_option maxRecDepth 100000 in
set_option maxHeartbeats 1000000 in
theorem refFormat_any (n : Int) (w : World) (h1 : -9223372036854775808 ≤ n) (h2 : n ≤ 9223372036854775807) :
    Calls Tryz.prog 31 #[.int .i64 n] w fun e w' => e = .returned (.string ⟨(Lib.itoa n).toArray⟩) ∧ Below w.heap.size w w' := by
  by_cases h0 : n < 0
  · have hu : IntKind.u64.wrap (-(IntKind.u64.wrap n)) = (n.natAbs : Int) := by rw [IntKind.wrap_u64, IntKind.wrap_u64]; omega
    have hU : n.natAbs ≤ 9223372036854775808 := by omega
    have Hr : Hid (Lib.itoa n = [45] ++ Lib.decDigits n.natAbs) := hide (by unfold Lib.itoa; rw [if_pos h0]; rfl)
    generalize n.natAbs = U at *
    have HU := Wd.dec_le 19 U (by omega)
    go_enter Tryz.func31, Tryz.ntmps31
    go_wp2_with fail
    go_loopw [3, 5] (fun s3 s5 wr => ∃ (u : Nat) (acc : List UInt8), s3 = .int .u64 (u : Int) ∧ s5 = .string ⟨acc.toArray⟩ ∧ u ≤ 9223372036854775808 ∧ acc.length ≤ 40 ∧ Below w.heap.size w wr ∧ Hid (Lib.decDigits u ++ acc = Lib.decDigits U)) (fun s3 _ _ => (intOf s3).toNat)
    case atStart => exact ⟨U, [], rfl, rfl, by omega, by simp, Below.refl _ _, hide (by simp)⟩
    case round =>
      obtain ⟨u, acc, rfl, rfl, hu, hal, hb, HH⟩ := hrel
      have hB : w.heap.size ≤ wr.heap.size := hb.size
      have hconv := conv_byte wr (48 + (u : Int) % 10) (UInt8.ofNat (48 + u % 10)) (by rw [Wd.dig_nat]; omega)
      have hb2 : Below w.heap.size w (wr.alloc (.cells #[.int .u8 (48 + (u : Int) % 10)] 5)) := hb.alloc hB _
      have Hc := hide (ba_append [UInt8.ofNat (48 + u % 10)] acc)
      by_cases hz : u / 10 = 0
      · have ez : ((u : Int) / 10 == 0) = true := by simp; omega
        have H2 : Hid ([UInt8.ofNat (48 + u % 10)] ++ acc = Lib.decDigits U) := hide (by rw [← HH.out, (Wd.dec_step u).1 hz])
        clear hz
        generalize UInt8.ofNat (48 + u % 10) = cc at *
        go_wp2
        go_ret
        refine ⟨?_, hb2⟩
        rw [Hr.out, ← H2.out, ← ba_append, ← Hc.out]; rfl
      · have ez : ((u : Int) / 10 == 0) = false := by simp; omega
        have H2 : Hid (Lib.decDigits (u / 10) ++ ([UInt8.ofNat (48 + u % 10)] ++ acc) = Lib.decDigits U) := hide (by rw [← HH.out, (Wd.dec_step u).2 hz]; simp)
        have hal2 : acc.length + 1 ≤ 40 := by
          have h1 := congrArg List.length H2.out
          have h2 := HU
          rw [List.length_append, List.length_append, List.length_singleton] at h1
          omega
        have hlt : u / 10 < u := by omega
        clear hz
        generalize UInt8.ofNat (48 + u % 10) = cc at *
        go_wp2
        go_roundw
        case rel => exact ⟨u / 10, [cc] ++ acc, by go_num, by rw [← Hc.out], by omega, by simpa using hal2, hb2, H2⟩
        case measure => simp [intOf]; omega
  · obtain ⟨U, rfl⟩ := Int.eq_ofNat_of_zero_le (show 0 ≤ n by omega)
    have Hr : Hid (Lib.itoa (U : Int) = Lib.decDigits U) := hide (by unfold Lib.itoa; rw [if_neg h0]; rfl)
    have HU := Wd.dec_le 19 U (by omega)
    go_enter Tryz.func31, Tryz.ntmps31
    go_wp2_with fail
    go_loopw [3, 5] (fun s3 s5 wr => ∃ (u : Nat) (acc : List UInt8), s3 = .int .u64 (u : Int) ∧ s5 = .string ⟨acc.toArray⟩ ∧ u ≤ 9223372036854775808 ∧ acc.length ≤ 40 ∧ Below w.heap.size w wr ∧ Hid (Lib.decDigits u ++ acc = Lib.decDigits U)) (fun s3 _ _ => (intOf s3).toNat)
    case atStart => exact ⟨U, [], rfl, rfl, by omega, by simp, Below.refl _ _, hide (by simp)⟩
    case round =>
      obtain ⟨u, acc, rfl, rfl, hu, hal, hb, HH⟩ := hrel
      have hB : w.heap.size ≤ wr.heap.size := hb.size
      have hconv := conv_byte wr (48 + (u : Int) % 10) (UInt8.ofNat (48 + u % 10)) (by rw [Wd.dig_nat]; omega)
      have hb2 : Below w.heap.size w (wr.alloc (.cells #[.int .u8 (48 + (u : Int) % 10)] 5)) := hb.alloc hB _
      have Hc := hide (ba_append [UInt8.ofNat (48 + u % 10)] acc)
      by_cases hz : u / 10 = 0
      · have ez : ((u : Int) / 10 == 0) = true := by simp; omega
        have H2 : Hid ([UInt8.ofNat (48 + u % 10)] ++ acc = Lib.decDigits U) := hide (by rw [← HH.out, (Wd.dec_step u).1 hz])
        clear hz
        generalize UInt8.ofNat (48 + u % 10) = cc at *
        go_wp2
        go_ret
        refine ⟨?_, hb2⟩
        rw [Hr.out, ← H2.out, ← Hc.out]; rfl
      · have ez : ((u : Int) / 10 == 0) = false := by simp; omega
        have H2 : Hid (Lib.decDigits (u / 10) ++ ([UInt8.ofNat (48 + u % 10)] ++ acc) = Lib.decDigits U) := hide (by rw [← HH.out, (Wd.dec_step u).2 hz]; simp)
        have hal2 : acc.length + 1 ≤ 40 := by
          have h1 := congrArg List.length H2.out
          have h2 := HU
          rw [List.length_append, List.length_append, List.length_singleton] at h1
          omega
        have hlt : u / 10 < u := by omega
        clear hz
        generalize UInt8.ofNat (48 + u % 10) = cc at *
        go_wp2
        go_roundw
        case rel => exact ⟨u / 10, [cc] ++ acc, by go_num, by rw [← Hc.out], by omega, by simpa using hal2, hb2, H2⟩
        case measure => simp [intOf]; omega
end Go.Proofs.YtfjekckcpkkdiaaGreatDoor
