/- Layer 2, numbers: the document's own answer to Number. -/
import Derived.Test.YtfjekckcpkkdiaaGreatDoorNum
namespace Go.Proofs.YtfjekckcpkkdiaaGreatDoor
open Go.RowKit

namespace Wd
/-- The test ahead of the digits. -/
theorem numG {l : List UInt8} {d : List UInt8} (hd : body l = d) (h0 : d ≠ []) (h : d.head? ≠ some 48 ∨ l = [48]) : isNum l = d.all dig := by
  rcases h with h | h
  · have hl : l ≠ [48] := by
      rintro rfl
      apply h
      rw [← hd]; rfl
    rw [isNum_eq hl, hd]
    simp [h0, h]
  · subst h
    have : body [48] = [48] := by decide
    rw [← hd, this]; decide
theorem numBad {l : List UInt8} {d : List UInt8} (hd : body l = d) (hl : l ≠ [48]) (h : d = [] ∨ d.head? = some 48) : number l = (0, 5) := by
  apply number_no
  rw [isNum_eq hl, hd]
  rcases h with h | h
  · simp [h]
  · simp [h]
end Wd

/-- Where the reading of digits stands. -/
def NR (L : List UInt8) (k u : Nat) (o : Bool) : Prop := (L.take k).all Wd.dig = true ∧ o = decide (9223372036854775808 < Wd.val (L.take k)) ∧ (o = false → u = Wd.val (L.take k))
theorem NR.start (L : List UInt8) : NR L 0 0 false := ⟨rfl, rfl, fun _ => rfl⟩
theorem NR.over {d : ByteArray} {k u : Nat} (h : NR d.data.toList k u true) (hk : k < d.size) (hd : Wd.dig d[k] = true) (u' : Nat) : NR d.data.toList (k + 1) u' true := by
  obtain ⟨h1, h2, _⟩ := h
  have h2' : 9223372036854775808 < Wd.val (d.data.toList.take k) := of_decide_eq_true h2.symm
  refine ⟨by rw [take_snoc d k hk, List.all_append, h1]; simp [hd], ?_, fun e => by cases e⟩
  rw [take_snoc d k hk, Wd.val_snoc, decide_eq_true (by omega)]
theorem NR.step {d : ByteArray} {k u : Nat} (h : NR d.data.toList k u false) (hk : k < d.size) (hd : Wd.dig d[k] = true) :
    NR d.data.toList (k + 1) ((u * 10 + (d[k].toNat - 48)) % 18446744073709551616) (decide ((9223372036854775808 - ((d[k].toNat : Int) - 48)) / 10 < (u : Int))) := by
  obtain ⟨h1, h2, h3⟩ := h
  have h2' : ¬ 9223372036854775808 < Wd.val (d.data.toList.take k) := of_decide_eq_false h2.symm
  have h3' := h3 rfl
  have hc := Wd.dig_iff.1 hd
  subst h3'
  refine ⟨by rw [take_snoc d k hk, List.all_append, h1]; simp [hd], ?_, fun e => ?_⟩
  · rw [take_snoc d k hk, Wd.val_snoc]
    apply decide_eq_decide.2
    omega
  · rw [take_snoc d k hk, Wd.val_snoc]
    have := of_decide_eq_false e
    omega
theorem wrap_step (u x : Nat) (h : 48 ≤ x) : IntKind.u64.wrap (IntKind.u64.wrap ((u : Int) * 10) + ((x : Int) - 48)) = (((u * 10 + (x - 48)) % 18446744073709551616 : Nat) : Int) := by
  rw [IntKind.wrap_u64, IntKind.wrap_u64]; omega
theorem wrap_neg (u : Nat) (h : u ≤ 9223372036854775808) : wrap64 (-(wrap64 (u : Int))) = -(u : Int) := by
  unfold wrap64; omega
namespace Wd
theorem number_neg {l : List UInt8} (hi : isNum l = true) (hn : neg l = true) : number l = if val (body l) ≤ 9223372036854775808 then (-(val (body l) : Int), 0) else (0, 2) := by
  unfold number; rw [if_pos hi, if_pos hn]
theorem number_pos {l : List UInt8} (hi : isNum l = true) (hn : neg l = false) : number l = if val (body l) < 9223372036854775808 then ((val (body l) : Int), 0) else (0, 2) := by
  unfold number; rw [if_pos hi, if_neg (by simp [hn])]
theorem notNum {l d : List UInt8} {c : UInt8} (hG : isNum l = d.all dig) (hc : c ∈ d) (hd : dig c = false) : number l = (0, 5) := by
  apply number_no
  rw [hG, List.all_eq_false]
  exact ⟨c, hc, by simp [hd]⟩
end Wd

set_option maxRecDepth 100000 in
set_option maxHeartbeats 2000000 in
theorem refNumber_A (s : ByteArray) (w : World) (hs : s.size ≤ 1048576) (h0 : 1 < s.size) (hq : s[0] ≠ 45) (h48 : s[0] ≠ 48) :
    Calls Tryz.prog 63 #[.string s] w (NumPost (Wd.number s.data.toList) w) := by
  have e0 : s.toList.isEmpty = false := by rw [ba_empty]; simp only [decide_eq_false_iff_not]; omega
  have n45 : ((s[0].toNat : Int) == 45) = false := by
    have : s[0].toNat ≠ 45 := ne_nat hq
    simp; omega
  have hcons := drop_cons s 0 (by omega)
  rw [List.drop_zero] at hcons
  have hng : Wd.neg s.data.toList = false := by rw [hcons, Wd.neg_cons]; simpa using hq
  have Hneg := hide hng
  have hbd : Wd.body s.data.toList = s.data.toList := Wd.body_pos hng
  have Hbody := hide hbd
  have n48 : ((s[0].toNat : Int) == 48) = false := by
    have : s[0].toNat ≠ 48 := ne_nat h48
    simp; omega
  have dl : decide ((1 : Int) < (s.size : Int)) = true := by simp; omega
  have HG := hide (Wd.numG hbd (by rw [hcons]; simp) (.inl (by rw [hcons]; simpa using h48)))
  clear hcons hng hbd hq h48
  go_enter Tryz.func63, Tryz.ntmps63
  go_wp2_with fail
  go_loop [6, 7, 8] (fun s6 s7 s8 => ∃ (k u : Nat) (o : Bool), s6 = .int .u64 (u : Int) ∧ s7 = .bool o ∧ s8 = .int .i64 (k : Int) ∧ k ≤ s.size ∧ u < 18446744073709551616 ∧ Hid (NR s.data.toList k u o)) (fun _ _ s8 => s.size - (intOf s8).toNat)
  case atStart => exact ⟨0, 0, false, rfl, rfl, rfl, by omega, by omega, hide (NR.start _)⟩
  case round =>
    obtain ⟨k, u, o, rfl, rfl, rfl, hk, hu, HH⟩ := hrel
    by_cases hlt : k < s.size
    · rcases dig_cases s[k] with ⟨hg, d1, d2⟩ | ⟨hg, hx⟩
      · have hdg := Wd.dig_iff.1 hg
        have b1 : (48 : Int) ≤ (s[k].toNat : Int) := by omega
        have b2 : (s[k].toNat : Int) ≤ 57 := by omega
        have Hw := hide (wrap_step u s[k].toNat hdg.1)
        have Hg := hide hg
        clear hdg hg
        cases o with
        | true =>
          go_wp2
          go_round
          case rel => exact ⟨k + 1, _, true, by rw [Hw.out], rfl, by go_num, by omega, by omega, hide (NR.over HH.out hlt Hg.out _)⟩
          case measure => simp [intOf]; omega
        | false =>
          go_wp2
          go_round
          case rel => exact ⟨k + 1, _, _, by rw [Hw.out], rfl, by go_num, by omega, by omega, hide (NR.step HH.out hlt Hg.out)⟩
          case measure => simp [intOf]; omega
      · have H2 := hide (Wd.notNum HG.out (List.mem_of_getElem? (str_at hlt)) hg)
        clear hg
        rcases hx with d1 | ⟨d1, d2⟩
        all_goals
          go_wp2
          go_ret2
          exact NumPost.of H2.out rfl (Below.refl _ _)
    · obtain rfl : k = s.size := by omega
      have hT : s.data.toList.take s.size = s.data.toList := List.take_of_length_le (by rw [← Lib.size_eq]; exact Nat.le_refl _)
      obtain ⟨h1, h2, h3⟩ := HH.out
      rw [hT] at h1 h2 h3
      have hi := HG.out.trans h1
      have hN := Wd.number_pos hi Hneg.out
      rw [Hbody.out] at hN
      cases o with
      | true =>
        have hv := of_decide_eq_true h2.symm
        rw [if_neg (by omega)] at hN
        have HN := hide hN
        clear h1 h2 h3 hi hN hv hT
        go_wp2
        go_ret2
        exact NumPost.of HN.out rfl (Below.refl _ _)
      | false =>
        have hv := of_decide_eq_false h2.symm
        have hu3 := h3 rfl
        rw [← hu3] at hN
        by_cases h63 : u = 9223372036854775808
        · rw [if_neg (by omega)] at hN
          have e63 : ((u : Int) == 9223372036854775808) = true := by simp; omega
          have HN := hide hN
          clear h1 h2 h3 hi hN hv hT hu3 h63
          go_wp2
          go_ret2
          exact NumPost.of HN.out rfl (Below.refl _ _)
        · rw [if_pos (by omega)] at hN
          have e63 : ((u : Int) == 9223372036854775808) = false := by simp; omega
          have hub : (u : Int) ≤ 9223372036854775807 := by omega
          have HN := hide hN
          clear h1 h2 h3 hi hN hv hT hu3 h63
          go_wp2
          go_ret2
          exact NumPost.of HN.out rfl (Below.refl _ _)
set_option maxRecDepth 100000 in
set_option maxHeartbeats 2000000 in
theorem refNumber_B (s : ByteArray) (w : World) (hs : s.size ≤ 1048576) (h0 : 1 ≤ s.size) (h0' : s.size ≤ 1) (hq : s[0] ≠ 45) :
    Calls Tryz.prog 63 #[.string s] w (NumPost (Wd.number s.data.toList) w) := by
  have e0 : s.toList.isEmpty = false := by rw [ba_empty]; simp only [decide_eq_false_iff_not]; omega
  have n45 : ((s[0].toNat : Int) == 45) = false := by
    have : s[0].toNat ≠ 45 := ne_nat hq
    simp; omega
  have hcons := drop_cons s 0 (by omega)
  rw [List.drop_zero] at hcons
  have hng : Wd.neg s.data.toList = false := by rw [hcons, Wd.neg_cons]; simpa using hq
  have Hneg := hide hng
  have hbd : Wd.body s.data.toList = s.data.toList := Wd.body_pos hng
  have Hbody := hide hbd
  have dl : decide ((1 : Int) < (s.size : Int)) = false := by simp; omega
  have HG : Hid (Wd.isNum s.data.toList = s.data.toList.all Wd.dig) := hide (Wd.numG hbd (by rw [hcons]; simp) (by
    by_cases h : s[0] = 48
    · right
      rw [hcons, h, List.drop_eq_nil_of_le (by rw [← Lib.size_eq]; omega)]
    · left
      rw [hcons]; simpa using h))
  clear hcons hng hbd hq
  go_enter Tryz.func63, Tryz.ntmps63
  go_wp2_with fail
  go_loop [6, 7, 8] (fun s6 s7 s8 => ∃ (k u : Nat) (o : Bool), s6 = .int .u64 (u : Int) ∧ s7 = .bool o ∧ s8 = .int .i64 (k : Int) ∧ k ≤ s.size ∧ u < 18446744073709551616 ∧ Hid (NR s.data.toList k u o)) (fun _ _ s8 => s.size - (intOf s8).toNat)
  case atStart => exact ⟨0, 0, false, rfl, rfl, rfl, by omega, by omega, hide (NR.start _)⟩
  case round =>
    obtain ⟨k, u, o, rfl, rfl, rfl, hk, hu, HH⟩ := hrel
    by_cases hlt : k < s.size
    · rcases dig_cases s[k] with ⟨hg, d1, d2⟩ | ⟨hg, hx⟩
      · have hdg := Wd.dig_iff.1 hg
        have b1 : (48 : Int) ≤ (s[k].toNat : Int) := by omega
        have b2 : (s[k].toNat : Int) ≤ 57 := by omega
        have Hw := hide (wrap_step u s[k].toNat hdg.1)
        have Hg := hide hg
        clear hdg hg
        cases o with
        | true =>
          go_wp2
          go_round
          case rel => exact ⟨k + 1, _, true, by rw [Hw.out], rfl, by go_num, by omega, by omega, hide (NR.over HH.out hlt Hg.out _)⟩
          case measure => simp [intOf]; omega
        | false =>
          go_wp2
          go_round
          case rel => exact ⟨k + 1, _, _, by rw [Hw.out], rfl, by go_num, by omega, by omega, hide (NR.step HH.out hlt Hg.out)⟩
          case measure => simp [intOf]; omega
      · have H2 := hide (Wd.notNum HG.out (List.mem_of_getElem? (str_at hlt)) hg)
        clear hg
        rcases hx with d1 | ⟨d1, d2⟩
        all_goals
          go_wp2
          go_ret2
          exact NumPost.of H2.out rfl (Below.refl _ _)
    · obtain rfl : k = s.size := by omega
      have hT : s.data.toList.take s.size = s.data.toList := List.take_of_length_le (by rw [← Lib.size_eq]; exact Nat.le_refl _)
      obtain ⟨h1, h2, h3⟩ := HH.out
      rw [hT] at h1 h2 h3
      have hi := HG.out.trans h1
      have hN := Wd.number_pos hi Hneg.out
      rw [Hbody.out] at hN
      cases o with
      | true =>
        have hv := of_decide_eq_true h2.symm
        rw [if_neg (by omega)] at hN
        have HN := hide hN
        clear h1 h2 h3 hi hN hv hT
        go_wp2
        go_ret2
        exact NumPost.of HN.out rfl (Below.refl _ _)
      | false =>
        have hv := of_decide_eq_false h2.symm
        have hu3 := h3 rfl
        rw [← hu3] at hN
        by_cases h63 : u = 9223372036854775808
        · rw [if_neg (by omega)] at hN
          have e63 : ((u : Int) == 9223372036854775808) = true := by simp; omega
          have HN := hide hN
          clear h1 h2 h3 hi hN hv hT hu3 h63
          go_wp2
          go_ret2
          exact NumPost.of HN.out rfl (Below.refl _ _)
        · rw [if_pos (by omega)] at hN
          have e63 : ((u : Int) == 9223372036854775808) = false := by simp; omega
          have hub : (u : Int) ≤ 9223372036854775807 := by omega
          have HN := hide hN
          clear h1 h2 h3 hi hN hv hT hu3 h63
          go_wp2
          go_ret2
          exact NumPost.of HN.out rfl (Below.refl _ _)
set_option maxRecDepth 100000 in
set_option maxHeartbeats 2000000 in
theorem refNumber_C0 (s : ByteArray) (w : World) (hs : s.size ≤ 1048576) (h0 : 1 ≤ s.size) (h0' : s.size ≤ 1) (hq : s[0] = 45) :
    Calls Tryz.prog 63 #[.string s] w (NumPost (Wd.number s.data.toList) w) := by
  have e0 : s.toList.isEmpty = false := by rw [ba_empty]; simp only [decide_eq_false_iff_not]; omega
  have n45 : (s[0].toNat : Int) = 45 := by rw [hq]; rfl
  have hcons := drop_cons s 0 (by omega)
  rw [List.drop_zero] at hcons
  have hng : Wd.neg s.data.toList = true := by rw [hcons, Wd.neg_cons]; simpa using hq
  have Hneg := hide hng
  have hbd : Wd.body s.data.toList = s.data.toList.drop 1 := Wd.body_neg hng
  have hl48 : s.data.toList ≠ [48] := by rw [hcons, hq]; simp
  obtain ⟨d, hd⟩ : ∃ d : ByteArray, s.extract 1 s.size = d := ⟨_, rfl⟩
  have hdl : d.data.toList = s.data.toList.drop 1 := by rw [← hd, Lib.extract_to_end]
  have hbody : Wd.body s.data.toList = d.data.toList := by rw [hdl, hbd]
  have hds : d.size = s.size - 1 := by rw [Lib.size_eq, Lib.size_eq, hdl, List.length_drop]
  have Hbody := hide hbody
  have e1 : d.toList.isEmpty = true := by rw [ba_empty]; simp only [decide_eq_true_eq]; omega
  have Hr := hide (Wd.numBad hbody hl48 (.inl (by rw [hdl, List.drop_eq_nil_of_le (by rw [← Lib.size_eq]; omega)])))
  clear hcons hng hbd hq hl48 hdl hbody hds
  go_enter Tryz.func63, Tryz.ntmps63
  go_wp2
  go_ret2
  exact NumPost.of Hr.out rfl (Below.refl _ _)
set_option maxRecDepth 100000 in
set_option maxHeartbeats 2000000 in
theorem refNumber_C (s : ByteArray) (w : World) (hs : s.size ≤ 1048576) (h0 : 1 < s.size) (hq : s[0] = 45) :
    Calls Tryz.prog 63 #[.string s] w (NumPost (Wd.number s.data.toList) w) := by
  have e0 : s.toList.isEmpty = false := by rw [ba_empty]; simp only [decide_eq_false_iff_not]; omega
  have n45 : (s[0].toNat : Int) = 45 := by rw [hq]; rfl
  have hcons := drop_cons s 0 (by omega)
  rw [List.drop_zero] at hcons
  have hng : Wd.neg s.data.toList = true := by rw [hcons, Wd.neg_cons]; simpa using hq
  have Hneg := hide hng
  have hbd : Wd.body s.data.toList = s.data.toList.drop 1 := Wd.body_neg hng
  have hl48 : s.data.toList ≠ [48] := by rw [hcons, hq]; simp
  obtain ⟨d, hd⟩ : ∃ d : ByteArray, s.extract 1 s.size = d := ⟨_, rfl⟩
  have hdl : d.data.toList = s.data.toList.drop 1 := by rw [← hd, Lib.extract_to_end]
  have hbody : Wd.body s.data.toList = d.data.toList := by rw [hdl, hbd]
  have hds : d.size = s.size - 1 := by rw [Lib.size_eq, Lib.size_eq, hdl, List.length_drop]
  have Hbody := hide hbody
  have hd1 : 1 ≤ d.size := by omega
  have e1 : d.toList.isEmpty = false := by rw [ba_empty]; simp only [decide_eq_false_iff_not]; omega
  have hdc := drop_cons d 0 hd1
  rw [List.drop_zero] at hdc
  by_cases h48 : d[0] = 48
  · have n48 : (d[0].toNat : Int) = 48 := by rw [h48]; rfl
    have Hr := hide (Wd.numBad hbody hl48 (.inr (by rw [hdc, h48]; rfl)))
    by_cases h1 : 1 < d.size
    · have dl : decide ((1 : Int) < (d.size : Int)) = true := by simp; omega
      clear hcons hng hbd hq hl48 hdl hbody hds hdc h48
      go_enter Tryz.func63, Tryz.ntmps63
      go_wp2
      go_ret2
      exact NumPost.of Hr.out rfl (Below.refl _ _)
    · have dl : decide ((1 : Int) < (d.size : Int)) = false := by simp; omega
      have ed : (d.toList == [48]) = true := by
        rw [Lib.toList_data, hdc, h48, List.drop_eq_nil_of_le (by rw [← Lib.size_eq]; omega)]; rfl
      clear hcons hng hbd hq hl48 hdl hbody hds hdc h48
      go_enter Tryz.func63, Tryz.ntmps63
      go_wp2
      go_ret2
      exact NumPost.of Hr.out rfl (Below.refl _ _)
  · have n48 : ((d[0].toNat : Int) == 48) = false := by
      have : d[0].toNat ≠ 48 := ne_nat h48
      simp; omega
    have ed : (d.toList == [48]) = false := by
      rw [Lib.toList_data, hdc]
      simp [h48]
    have HG := hide (Wd.numG hbody (by rw [hdc]; simp) (.inl (by rw [hdc]; simpa using h48)))
    by_cases h1 : 1 < d.size
    · have dl : decide ((1 : Int) < (d.size : Int)) = true := by simp; omega
      clear hcons hng hbd hq hl48 hdl hbody hdc h48
      have hds' : d.size ≤ 1048576 := by omega
      clear hds
      go_enter Tryz.func63, Tryz.ntmps63
      go_wp2_with fail
      go_loop [6, 7, 8] (fun s6 s7 s8 => ∃ (k u : Nat) (o : Bool), s6 = .int .u64 (u : Int) ∧ s7 = .bool o ∧ s8 = .int .i64 (k : Int) ∧ k ≤ d.size ∧ u < 18446744073709551616 ∧ Hid (NR d.data.toList k u o)) (fun _ _ s8 => d.size - (intOf s8).toNat)
      case atStart => exact ⟨0, 0, false, rfl, rfl, rfl, by omega, by omega, hide (NR.start _)⟩
      case round =>
        obtain ⟨k, u, o, rfl, rfl, rfl, hk, hu, HH⟩ := hrel
        by_cases hlt : k < d.size
        · rcases dig_cases d[k] with ⟨hg, d1, d2⟩ | ⟨hg, hx⟩
          · have hdg := Wd.dig_iff.1 hg
            have b1 : (48 : Int) ≤ (d[k].toNat : Int) := by omega
            have b2 : (d[k].toNat : Int) ≤ 57 := by omega
            have Hw := hide (wrap_step u d[k].toNat hdg.1)
            have Hg := hide hg
            clear hdg hg
            cases o with
            | true =>
              go_wp2
              go_round
              case rel => exact ⟨k + 1, _, true, by rw [Hw.out], rfl, by go_num, by omega, by omega, hide (NR.over HH.out hlt Hg.out _)⟩
              case measure => simp [intOf]; omega
            | false =>
              go_wp2
              go_round
              case rel => exact ⟨k + 1, _, _, by rw [Hw.out], rfl, by go_num, by omega, by omega, hide (NR.step HH.out hlt Hg.out)⟩
              case measure => simp [intOf]; omega
          · have H2 := hide (Wd.notNum HG.out (List.mem_of_getElem? (str_at hlt)) hg)
            clear hg
            rcases hx with d1 | ⟨d1, d2⟩
            all_goals
              go_wp2
              go_ret2
              exact NumPost.of H2.out rfl (Below.refl _ _)
        · obtain rfl : k = d.size := by omega
          have hT : d.data.toList.take d.size = d.data.toList := List.take_of_length_le (by rw [← Lib.size_eq]; exact Nat.le_refl _)
          obtain ⟨h1, h2, h3⟩ := HH.out
          rw [hT] at h1 h2 h3
          have hi := HG.out.trans h1
          have hN := Wd.number_neg hi Hneg.out
          rw [Hbody.out] at hN
          cases o with
          | true =>
            have hv := of_decide_eq_true h2.symm
            rw [if_neg (by omega)] at hN
            have HN := hide hN
            clear h1 h2 h3 hi hN hv hT
            go_wp2
            go_ret2
            exact NumPost.of HN.out rfl (Below.refl _ _)
          | false =>
            have hv := of_decide_eq_false h2.symm
            have hu3 := h3 rfl
            rw [if_pos (by omega), ← hu3] at hN
            have hub : u ≤ 9223372036854775808 := by omega
            have HN := hide hN
            have hwn := hide (wrap_neg u hub)
            clear h1 h2 h3 hi hN hv hT hu3 hub
            go_wp2
            go_ret2
            exact NumPost.of HN.out (congrArg (fun x => Ending.returned (.tuple #[.int .i64 x, .int .i64 0])) hwn.out) (Below.refl _ _)
    · have dl : decide ((1 : Int) < (d.size : Int)) = false := by simp; omega
      clear hcons hng hbd hq hl48 hdl hbody hdc h48
      have hds' : d.size ≤ 1048576 := by omega
      clear hds
      go_enter Tryz.func63, Tryz.ntmps63
      go_wp2_with fail
      go_loop [6, 7, 8] (fun s6 s7 s8 => ∃ (k u : Nat) (o : Bool), s6 = .int .u64 (u : Int) ∧ s7 = .bool o ∧ s8 = .int .i64 (k : Int) ∧ k ≤ d.size ∧ u < 18446744073709551616 ∧ Hid (NR d.data.toList k u o)) (fun _ _ s8 => d.size - (intOf s8).toNat)
      case atStart => exact ⟨0, 0, false, rfl, rfl, rfl, by omega, by omega, hide (NR.start _)⟩
      case round =>
        obtain ⟨k, u, o, rfl, rfl, rfl, hk, hu, HH⟩ := hrel
        by_cases hlt : k < d.size
        · rcases dig_cases d[k] with ⟨hg, d1, d2⟩ | ⟨hg, hx⟩
          · have hdg := Wd.dig_iff.1 hg
            have b1 : (48 : Int) ≤ (d[k].toNat : Int) := by omega
            have b2 : (d[k].toNat : Int) ≤ 57 := by omega
            have Hw := hide (wrap_step u d[k].toNat hdg.1)
            have Hg := hide hg
            clear hdg hg
            cases o with
            | true =>
              go_wp2
              go_round
              case rel => exact ⟨k + 1, _, true, by rw [Hw.out], rfl, by go_num, by omega, by omega, hide (NR.over HH.out hlt Hg.out _)⟩
              case measure => simp [intOf]; omega
            | false =>
              go_wp2
              go_round
              case rel => exact ⟨k + 1, _, _, by rw [Hw.out], rfl, by go_num, by omega, by omega, hide (NR.step HH.out hlt Hg.out)⟩
              case measure => simp [intOf]; omega
          · have H2 := hide (Wd.notNum HG.out (List.mem_of_getElem? (str_at hlt)) hg)
            clear hg
            rcases hx with d1 | ⟨d1, d2⟩
            all_goals
              go_wp2
              go_ret2
              exact NumPost.of H2.out rfl (Below.refl _ _)
        · obtain rfl : k = d.size := by omega
          have hT : d.data.toList.take d.size = d.data.toList := List.take_of_length_le (by rw [← Lib.size_eq]; exact Nat.le_refl _)
          obtain ⟨h1, h2, h3⟩ := HH.out
          rw [hT] at h1 h2 h3
          have hi := HG.out.trans h1
          have hN := Wd.number_neg hi Hneg.out
          rw [Hbody.out] at hN
          cases o with
          | true =>
            have hv := of_decide_eq_true h2.symm
            rw [if_neg (by omega)] at hN
            have HN := hide hN
            clear h1 h2 h3 hi hN hv hT
            go_wp2
            go_ret2
            exact NumPost.of HN.out rfl (Below.refl _ _)
          | false =>
            have hv := of_decide_eq_false h2.symm
            have hu3 := h3 rfl
            rw [if_pos (by omega), ← hu3] at hN
            have hub : u ≤ 9223372036854775808 := by omega
            have HN := hide hN
            have hwn := hide (wrap_neg u hub)
            clear h1 h2 h3 hi hN hv hT hu3 hub
            go_wp2
            go_ret2
            exact NumPost.of HN.out (congrArg (fun x => Ending.returned (.tuple #[.int .i64 x, .int .i64 0])) hwn.out) (Below.refl _ _)
set_option maxRecDepth 100000 in
set_option maxHeartbeats 2000000 in
theorem refNumber_D (s : ByteArray) (w : World) (hs : s.size ≤ 1048576) (h0 : 1 < s.size) (hq : s[0] = 48) :
    Calls Tryz.prog 63 #[.string s] w (NumPost (Wd.number s.data.toList) w) := by
  have e0 : s.toList.isEmpty = false := by rw [ba_empty]; simp only [decide_eq_false_iff_not]; omega
  have n48 : (s[0].toNat : Int) = 48 := by rw [hq]; rfl
  have dl : decide ((1 : Int) < (s.size : Int)) = true := by simp; omega
  have hcons := drop_cons s 0 (by omega)
  rw [List.drop_zero] at hcons
  have hng : Wd.neg s.data.toList = false := by rw [hcons, Wd.neg_cons, hq]; rfl
  have hl48 : s.data.toList ≠ [48] := by
    intro e
    have := Lib.size_eq s
    rw [e] at this
    simp at this; omega
  have Hr := hide (Wd.numBad (Wd.body_pos hng) hl48 (.inr (by rw [hcons, hq]; rfl)))
  clear hcons hng hl48 hq
  go_enter Tryz.func63, Tryz.ntmps63
  go_wp2
  go_ret2
  exact NumPost.of Hr.out rfl (Below.refl _ _)

theorem refNumber_any (s : ByteArray) (w : World) (hs : s.size ≤ 1048576) :
    Calls Tryz.prog 63 #[.string s] w (NumPost (Wd.number s.data.toList) w) := by
  by_cases h0 : s.size = 0
  · have e0 : s.toList.isEmpty = true := by rw [ba_empty]; simp only [decide_eq_true_eq]; exact h0
    have Hr : Hid (Wd.number s.data.toList = (0, 5)) := hide (by
      rw [show s.data.toList = [] from List.eq_nil_of_length_eq_zero (by rw [← Lib.size_eq]; exact h0)]; rfl)
    clear h0
    go_enter Tryz.func63, Tryz.ntmps63
    go_wp2
    go_ret2
    exact NumPost.of Hr.out rfl (Below.refl _ _)
  · by_cases h1 : s.size = 1
    · by_cases hq : s[0] = 45
      · exact refNumber_C0 s w hs (by omega) (by omega) hq
      · exact refNumber_B s w hs (by omega) (by omega) hq
    · by_cases hq : s[0] = 45
      · exact refNumber_C s w hs (by omega) hq
      · by_cases h48 : s[0] = 48
        · exact refNumber_D s w hs (by omega) h48
        · exact refNumber_A s w hs (by omega) hq h48
end Go.Proofs.YtfjekckcpkkdiaaGreatDoor
