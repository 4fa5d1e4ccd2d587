/- Layer 2: the walks of WordsBack, WordsLimits, WordsLines. -/
import Derived.Test.YtabnokcejoaknaaDoorWordsLaws
namespace Go.Proofs.YtabnokcejoaknaaDoor
open Go.RowKit

namespace Wd
theorem join_len (l : List (List UInt8)) : (join l).1.length ≤ 4096 := by
  unfold join
  split
  · simp
  · cases h : joinG [] true l with
    | none => simp
    | some x => exact joinG_le h (by simp)
end Wd
theorem Strs.two {w : World} {B n : Nat} {A : Option Addr} {x y : List UInt8} (h : Strs w B A n [x, y]) : ∃ b o, A = some ⟨b, o, none⟩ ∧ b < B ∧ w.cell? ⟨b, o, none⟩ = some (.string ⟨x.toArray⟩) ∧ w.cell? ⟨b, o + 1, none⟩ = some (.string ⟨y.toArray⟩) := by
  obtain rfl := h.len
  obtain ⟨b, o, _, e, hb, h0⟩ := h.at_ (k := 0) (by simp)
  obtain ⟨b', o', _, e', _, h1⟩ := h.at_ (k := 1) (by simp)
  rw [e] at e'
  simp only [Option.some.injEq, Addr.mk.injEq, and_true] at e'
  obtain ⟨rfl, rfl⟩ := e'
  exact ⟨b, o, e, hb, h0, h1⟩

set_option maxRecDepth 100000 in
set_option maxHeartbeats 4000000 in
theorem wordsBack_any (A : Option Addr) (n c : Nat) (l : List (List UInt8)) (v : Int) (w : World) (hl : Strs w w.heap.size A n l) (hn : n ≤ 9223372036854775807) (hm : ∀ x ∈ l, x.length ≤ 9223372036854775807) (h1 : -9223372036854775808 ≤ v) (h2 : v ≤ 9223372036854775807) (hL : Laid w) :
    Calls Tryd.prog 6 #[.slice A n c, .int .i64 v] w fun e w' => e = .returned (.bool true) ∧ Below w.heap.size w w' := by
  have HL := hide hL
  have Hm := hide hm
  clear hL hm
  cases hk : Wd.kept l with
  | false =>
    have Hk := hide hk
    clear hk
    go_enter Tryd.func6, Tryd.ntmps6
    go_wp2_with fail
    refine (sane_any _ HL.out).mono ?_
    rintro e w1 ⟨rfl, hb1⟩
    go_wp2_with fail
    refine (kept_any A n c l _ w.heap.size (hl.below hb1) hn Hm.out).mono ?_
    rintro e w2 ⟨rfl, rfl⟩
    rw [Hk.out]
    go_wp2
    go_ret
    exact ⟨rfl, hb1⟩
  | true =>
    have hks := hide (Wd.kept_spec hk).2
    have Hk := hide hk
    clear hk
    have hlen := Wd.join_len l
    have h10 := hide (Wd.join_10 l)
    have hit := Wd.itoa_le h1 h2
    have Hit := hide (Wd.number_itoa h1 h2)
    rcases Wd.join_err l with hj | ⟨hj, hx⟩
    · have Hsj := hide (Wd.split_join hj)
      obtain ⟨x, hx⟩ : ∃ x, (Wd.join l).1 = x := ⟨_, rfl⟩
      rw [hx] at Hsj hlen h10
      have Hj : Hid (Wd.join l = (x, 0)) := hide (by rw [← hx, ← hj])
      have hcat : (⟨x.toArray⟩ ++ ⟨#[10]⟩ ++ ⟨x.toArray⟩ ++ ⟨#[10]⟩ : ByteArray) = ⟨(x ++ [10] ++ x ++ [10]).toArray⟩ := by
        rw [show (⟨#[10]⟩ : ByteArray) = ⟨[10].toArray⟩ from rfl, ba_append, ba_append, ba_append]
      have Hcat := hide hcat
      clear hj hx hcat
      go_enter Tryd.func6, Tryd.ntmps6
      go_wp2_with fail
      refine (sane_any _ HL.out).mono ?_
      rintro e w1 ⟨rfl, hb1⟩
      go_wp2_with fail
      refine (kept_any A n c l _ w.heap.size (hl.below hb1) hn Hm.out).mono ?_
      rintro e w2 ⟨rfl, rfl⟩
      rw [Hk.out]
      go_wp2_with fail
      refine (join_any A n c l _ w.heap.size (hl.below hb1) hb1.size hn (fun y hy => by have := hks.out y hy; omega)).mono ?_
      intro e w2 hp
      obtain ⟨rfl, hb2⟩ := hp.at_ Hj.out
      clear hp
      have hb12 : Below w.heap.size w w2 := hb1.trans (hb2.mono hb1.size)
      go_wp2_with fail
      refine (split_any ⟨x.toArray⟩ _ (by rw [ba_size]; omega)).mono ?_
      intro e w3 hp
      obtain ⟨A3, c3, rfl, hc3, hm3, hs3, hb3⟩ := hp.at_ Hsj.out
      clear hp
      have hb13 : Below w.heap.size w w3 := hb12.trans (hb3.mono hb12.size)
      have hln : l.length ≤ 9223372036854775807 := Nat.le_trans hc3 hm3
      go_wp2_with fail
      refine (refSame_any A3 A l.length n c3 c l l _ w3.heap.size hs3 ((hl.below hb13).mono hb13.size) hln hn).mono ?_
      rintro e w4 ⟨rfl, hb4⟩
      have hb14 : Below w.heap.size w w4 := hb13.trans (hb4.mono hb13.size)
      rw [decide_eq_true (rfl : l = l)]
      clear hs3 hc3
      go_wp2_with fail
      refine (lines_any _ _ (by rw [Hcat.out, ba_size]; simp; omega)).mono ?_
      intro e w5 hp
      obtain ⟨A5, c5, rfl, hc5, hm5, hs5, hb5⟩ := hp.at_ (l := [x, x]) (by rw [Hcat.out]; exact Wd.lines_two h10.out)
      clear hp
      have hb15 : Below w.heap.size w w5 := hb14.trans (hb5.mono hb14.size)
      obtain ⟨b5, o5, rfl, hlt5, hc50, hc51⟩ := hs5.two
      have HL5 := hide (HL.out.below hb15)
      have ex : (x == x) = true := by simp
      clear hs5
      go_wp2_with fail
      refine (format_any v _ h1 h2 HL5.out).mono ?_
      rintro e w6 ⟨rfl, hb6⟩
      have hb16 : Below w.heap.size w w6 := hb15.trans (hb6.mono hb15.size)
      have HL6 := hide (HL.out.below hb16)
      go_wp2_with fail
      refine (number_any ⟨(Lib.itoa v).toArray⟩ _ (by rw [ba_size]; omega) HL6.out).mono ?_
      intro e w7 hp
      obtain ⟨rfl, hb7⟩ := hp.at_ Hit.out
      clear hp
      have ev : (v == v) = true := by simp
      go_wp2
      go_ret
      exact ⟨rfl, hb16.trans (hb7.mono hb16.size)⟩
    · have Hj : Hid (Wd.join l = ([], 3)) := hide (by rw [← hx, ← hj])
      clear hj hx
      go_enter Tryd.func6, Tryd.ntmps6
      go_wp2_with fail
      refine (sane_any _ HL.out).mono ?_
      rintro e w1 ⟨rfl, hb1⟩
      go_wp2_with fail
      refine (kept_any A n c l _ w.heap.size (hl.below hb1) hn Hm.out).mono ?_
      rintro e w2 ⟨rfl, rfl⟩
      rw [Hk.out]
      go_wp2_with fail
      refine (join_any A n c l _ w.heap.size (hl.below hb1) hb1.size hn (fun y hy => by have := hks.out y hy; omega)).mono ?_
      intro e w2 hp
      obtain ⟨rfl, hb2⟩ := hp.at_ Hj.out
      clear hp
      have hb12 : Below w.heap.size w w2 := hb1.trans (hb2.mono hb1.size)
      have HL5 := hide (HL.out.below hb12)
      go_wp2_with fail
      refine (format_any v _ h1 h2 HL5.out).mono ?_
      rintro e w6 ⟨rfl, hb6⟩
      have hb16 : Below w.heap.size w w6 := hb12.trans (hb6.mono hb12.size)
      have HL6 := hide (HL.out.below hb16)
      go_wp2_with fail
      refine (number_any ⟨(Lib.itoa v).toArray⟩ _ (by rw [ba_size]; omega) HL6.out).mono ?_
      intro e w7 hp
      obtain ⟨rfl, hb7⟩ := hp.at_ Hit.out
      clear hp
      have ev : (v == v) = true := by simp
      go_wp2
      go_ret
      exact ⟨rfl, hb16.trans (hb7.mono hb16.size)⟩

namespace Wd
theorem text_snoc (ls : List (List UInt8)) (x : List UInt8) : text (ls ++ [x]) = text ls ++ (x ++ [10]) := by simp [text]
theorem text_take (ls : List (List UInt8)) (k : Nat) : (text (ls.take k)).length ≤ (text ls).length := by
  have : text ls = text (ls.take k) ++ text (ls.drop k) := by
    unfold text
    rw [← List.flatMap_append, List.take_append_drop]
  rw [this, List.length_append]; omega
end Wd

set_option maxRecDepth 100000 in
set_option maxHeartbeats 4000000 in
theorem wordsLines_any (s : ByteArray) (w : World) (hs : s.size ≤ 9223372036854775807) (hL : Laid w) :
    Calls Tryd.prog 8 #[.string s] w fun e w' => e = .returned (.bool true) ∧ Below w.heap.size w w' := by
  have HL := hide hL
  clear hL
  by_cases hg : 500 < s.size
  · have d1 : decide ((500 : Int) < (s.size : Int)) = true := by simp; omega
    clear hg
    go_enter Tryd.func8, Tryd.ntmps8
    go_wp2_with fail
    refine (sane_any _ HL.out).mono ?_
    rintro e w1 ⟨rfl, hb1⟩
    go_wp2
    go_ret
    exact ⟨rfl, hb1⟩
  · have d1 : decide ((500 : Int) < (s.size : Int)) = false := by simp; omega
    have hs500 : s.size ≤ 500 := by omega
    have htx := Wd.text_lines [] s.data.toList
    simp only [List.nil_append] at htx
    have hsz := Lib.size_eq s
    have Hsz := hide hsz
    have htl : (Wd.text (Wd.lines s.data.toList)).length ≤ 501 := by
      unfold Wd.lines
      rcases htx with ⟨_, h⟩ | ⟨h, _⟩ | ⟨h, _⟩
      · rw [h]; simp
      · rw [h]; omega
      · rw [h, List.length_append, List.length_singleton]; omega
    have HT := hide htx
    have htt := Wd.text_take (Wd.lines s.data.toList)
    have Htt := hide htt
    clear hg htx hsz htt
    have Hlines := lines_any s
    have hLT : Hid (Wd.text (Wd.lines s.data.toList) = Wd.text (Wd.linesG [] s.data.toList)) := hide rfl
    generalize hLL : Wd.lines s.data.toList = LL at *
    have HLN := hide Hlines
    clear Hlines hLL
    go_enter Tryd.func8, Tryd.ntmps8
    go_wp2_with fail
    refine (sane_any _ HL.out).mono ?_
    rintro e w1 ⟨rfl, hb1⟩
    go_wp2_with fail
    refine (HLN.out _ (by omega)).mono ?_
    intro e w2 hp
    obtain ⟨A2, c2, rfl, hc2, hm2, hs2, hb2⟩ := hp
    have hb12 : Below w.heap.size w w2 := hb1.trans (hb2.mono hb1.size)
    have hln : LL.length ≤ 9223372036854775807 := Nat.le_trans hc2 hm2
    obtain ⟨m, hmL⟩ : ∃ m, LL.length = m := ⟨_, rfl⟩
    rw [hmL] at hs2 hc2 hln ⊢
    have HmL := hide hmL
    clear hmL
    go_wp2_with fail
    go_loop [3, 14] (fun s3 s14 => ∃ (k : Nat) (T : List UInt8), s3 = .string ⟨T.toArray⟩ ∧ s14 = .int .i64 (k : Int) ∧ k ≤ m ∧ T.length ≤ 501 ∧ Hid (T = Wd.text (LL.take k))) (fun _ s14 => m - (intOf s14).toNat)
    case atStart => exact ⟨0, [], rfl, rfl, by omega, by simp, hide rfl⟩
    case round =>
      obtain ⟨k, T, rfl, rfl, hk, hT, HH⟩ := hrel
      by_cases hlt : k < m
      · obtain ⟨ba, oa, hkl, rfl, hba, hca⟩ := hs2.at_ hlt
        have hcat : T ++ (LL[k] ++ [10]) = Wd.text (LL.take (k + 1)) := by
          rw [List.take_succ_eq_append_getElem hkl, Wd.text_snoc, HH.out]
        have hlen2 : T.length + LL[k].length + 1 ≤ 501 := by
          have h1 := congrArg List.length hcat
          have h2 := Htt.out (k + 1)
          simp only [List.length_append, List.length_singleton] at h1
          omega
        have Hcat := hide hcat
        have Hba : Hid ((⟨T.toArray⟩ ++ (⟨LL[k].toArray⟩ ++ ⟨#[10]⟩) : ByteArray) = ⟨(T ++ (LL[k] ++ [10])).toArray⟩) := hide (by
          rw [show (⟨#[10]⟩ : ByteArray) = ⟨[10].toArray⟩ from rfl, ba_append, ba_append])
        clear hcat
        go_wp2
        go_round
        case rel => exact ⟨k + 1, _, by rw [← Hba.out], by go_num, by omega, by simp; omega, Hcat⟩
        case measure => simp [intOf]; omega
      · obtain rfl : k = m := by omega
        have hTL : T = Wd.text LL := by
          rw [HH.out, List.take_of_length_le (by rw [HmL.out]; exact Nat.le_refl _)]
        have htx := HT.out
        rw [← hLT.out, ← hTL] at htx
        clear hTL HH
        have key : T = s.data.toList ∨ (T = s.data.toList ++ [10] ∧ ∃ h : 0 < s.size, s[s.size - 1] ≠ 10) := by
          rcases htx with ⟨h1, h2⟩ | ⟨h1, _⟩ | ⟨h1, h2, h3⟩
          · left; rw [h1, h2]
          · left; exact h1
          · right
            have hpos : 0 < s.size := by rw [Hsz.out]; exact List.length_pos_iff.2 h2
            refine ⟨h1, hpos, ?_⟩
            rcases h3 with h3 | h3
            · exact absurd h3 h2
            · rw [List.getLast_eq_getElem] at h3
              intro h4
              apply h3
              have := str_at (s := s) (k := s.size - 1) (by omega)
              rw [List.getElem?_eq_getElem (by rw [← Hsz.out]; omega)] at this
              simp only [Option.some.injEq] at this
              rw [← h4, ← this]
              congr 1
        clear htx HT hLT
        rcases key with h | ⟨h, hpos, hne⟩
        · have e1 : (T == s.toList) = true := by rw [Lib.toList_data, h]; simp
          clear h
          go_wp2
          go_ret
          exact ⟨rfl, hb12⟩
        · have e1 : (T == s.toList) = false := by rw [Lib.toList_data, h]; simp
          have e2 : (T == (s ++ (⟨#[10]⟩ : ByteArray)).toList) = true := by
            rw [Lib.toList_data, h]; simp
          have e3 : ((s[s.size - 1].toNat : Int) == 10) = false := by
            have : s[s.size - 1].toNat ≠ 10 := ne_nat hne
            simp; omega
          have e3' : ((s[s.size - 1].toNat : Int) != 10) = true := by
            have : s[s.size - 1].toNat ≠ 10 := ne_nat hne
            simp; omega
          clear h hne
          go_wp2
          go_ret
          exact ⟨rfl, hb12⟩

namespace Wd
theorem written_a (k : Nat) (hk : 1 ≤ k) : written (List.replicate k 97) = List.replicate k 97 := by
  unfold written
  have : plainW (List.replicate k 97) = true := by
    unfold plainW
    rw [List.all_replicate]
    have h1 : plain 97 = true := by decide
    rcases k with _ | k
    · omega
    · simp [h1, List.replicate_succ]
  rw [if_pos this]
theorem joinG_rep (W : List UInt8) (hW : written W = W) (j : Nat) (line : List UInt8) (hl : line.length ≤ 4096) :
    (line.length + j * (W.length + 1) ≤ 4096 → ∃ x, joinG line false (List.replicate j W) = some x ∧ x.length = line.length + j * (W.length + 1)) ∧ (4096 < line.length + j * (W.length + 1) → joinG line false (List.replicate j W) = none) := by
  induction j generalizing line with
  | zero => exact ⟨fun _ => ⟨line, rfl, by omega⟩, fun h => by omega⟩
  | succ j ih =>
    have hlen : (sep line false ++ written W).length = line.length + (W.length + 1) := by
      rw [hW]; simp [sep]
    have hmul : (j + 1) * (W.length + 1) = j * (W.length + 1) + (W.length + 1) := Nat.succ_mul _ _
    rw [List.replicate_succ, joinG]
    by_cases h : 4096 < (sep line false ++ written W).length
    · rw [if_pos h]
      exact ⟨fun h1 => by omega, fun _ => rfl⟩
    · rw [if_neg h]
      have := ih (sep line false ++ written W) (by omega)
      rw [hlen] at this
      refine ⟨fun h1 => ?_, fun h1 => this.2 (by omega)⟩
      obtain ⟨x, h2, h3⟩ := this.1 (by omega)
      exact ⟨x, h2, by omega⟩
/-- The line of m words of k letters each. -/
theorem join_rep (m k : Nat) (hm : 1 ≤ m) (hk : 1 ≤ k) (hk2 : k ≤ 80) :
    (m ≤ 64 ∧ m * (k + 1) - 1 ≤ 4096 → ∃ x, join (List.replicate m (List.replicate k 97)) = (x, 0) ∧ x.length = m * (k + 1) - 1) ∧ (64 < m ∨ 4096 < m * (k + 1) - 1 → join (List.replicate m (List.replicate k 97)) = ([], 3)) := by
  have hW := written_a k hk
  obtain ⟨j, rfl⟩ : ∃ j, m = j + 1 := ⟨m - 1, by omega⟩
  have hmul : (j + 1) * (k + 1) = j * (k + 1) + (k + 1) := Nat.succ_mul _ _
  have hs : sep [] true ++ written (List.replicate k 97) = List.replicate k 97 := by rw [hW]; rfl
  have hg := joinG_rep (List.replicate k 97) hW j (List.replicate k 97) (by simp; omega)
  rw [List.length_replicate] at hg
  have h0 : joinG [] true (List.replicate (j + 1) (List.replicate k 97)) = joinG (List.replicate k 97) false (List.replicate j (List.replicate k 97)) := by
    rw [List.replicate_succ, joinG, hs, if_neg (by simp; omega)]
  constructor
  · rintro ⟨h1, h2⟩
    obtain ⟨x, h3, h4⟩ := hg.1 (by omega)
    exact ⟨x, join_some (by simp; omega) (h0.trans h3), by omega⟩
  · intro h
    by_cases h1 : 64 < j + 1
    · unfold join; rw [if_pos (by simp; omega)]
    · exact join_none (by simp; omega) (h0.trans (hg.2 (by omega)))
end Wd
/-- So many letters a. -/
def letters (k : Nat) : List UInt8 := List.replicate k 97
theorem letters_length (k : Nat) : (letters k).length = k := by simp [letters]
theorem rep_snoc {α : Type} (k : Nat) (x : α) : List.replicate k x ++ [x] = List.replicate (k + 1) x := by
  rw [List.replicate_succ']
theorem letters_snoc (k : Nat) : letters k ++ [97] = letters (k + 1) := rep_snoc k 97

set_option maxRecDepth 100000 in
set_option maxHeartbeats 4000000 in
theorem wordsLimits_any (a b : Nat) (w : World) (ha : a < 65536) (hb : b < 65536) (hL : Laid w) :
    Calls Tryd.prog 7 #[.int .u16 (a : Int), .int .u16 (b : Int)] w fun e w' => e = .returned (.bool true) ∧ Below w.heap.size w w' := by
  have HL := hide hL
  clear hL
  obtain ⟨m, hm⟩ : ∃ m : Nat, m = 1 + a % 70 := ⟨_, rfl⟩
  obtain ⟨k, hk⟩ : ∃ k : Nat, k = 1 + b % 80 := ⟨_, rfl⟩
  have em : 1 + (a : Int) % 70 = (m : Int) := by omega
  have ek : 1 + (b : Int) % 80 = (k : Int) := by omega
  have m1 : 1 ≤ m := by omega
  have m2 : m ≤ 70 := by omega
  have k1 : 1 ≤ k := by omega
  have k2 : k ≤ 80 := by omega
  clear hm hk
  go_enter Tryd.func7, Tryd.ntmps7
  go_wp2_with fail
  refine (sane_any _ HL.out).mono ?_
  rintro e w1 ⟨rfl, hb1⟩
  go_wp2_with fail
  clear em ek
  go_loop [8, 9] (fun s8 s9 => ∃ i : Nat, s8 = .string ⟨(letters i).toArray⟩ ∧ s9 = .int .i64 (i : Int) ∧ i ≤ k) (fun _ s9 => k - (intOf s9).toNat)
  case atStart => exact ⟨0, rfl, rfl, by omega⟩
  case round =>
    obtain ⟨i, rfl, rfl, hi⟩ := hrel
    have hil : (letters i).length = i := letters_length i
    by_cases hlt : i < k
    · have Hcat : Hid ((⟨(letters i).toArray⟩ ++ ⟨#[97]⟩ : ByteArray) = ⟨(letters (i + 1)).toArray⟩) := hide (by
        rw [show (⟨#[97]⟩ : ByteArray) = ⟨[97].toArray⟩ from rfl, ba_append, letters_snoc])
      go_wp2
      go_round
      case rel => exact ⟨i + 1, by rw [← Hcat.out], by go_num, by omega⟩
      case measure => simp [intOf]; omega
    · obtain rfl : i = k := by omega
      clear hil
      have hn0 := World.ownsRow_nil w1 w.heap.size 9 1
      go_wp2_with fail
      go_loopw [7, 10] (fun s7 s10 wr => ∃ (j n c : Nat) (A : Option Addr), s7 = .slice A n c ∧ s10 = .int .i64 (j : Int) ∧ j ≤ m ∧ n ≤ j ∧ wr.ownsRow w.heap.size 9 1 (.slice A n c) n (sv (List.replicate j (letters i))) ∧ Below w.heap.size w wr) (fun _ s10 _ => m - (intOf s10).toNat)
      case atStart => exact ⟨0, 0, 0, none, rfl, rfl, by omega, by omega, hn0, hb1⟩
      case round =>
        obtain ⟨j, n, c, A, rfl, rfl, hj, hnj, hown, hbr⟩ := hrel
        have hB : w.heap.size ≤ wr.heap.size := hbr.size
        by_cases hjm : j < m
        · go_wp2_with (at_builtin; refine wpList_append_rd rfl (.tmp 37) (.tmp 39) _ rfl strTy rfl (hown.alloc _) rfl (Row.new _ _ _) (by simp [Value.oneCell']) (by unfold maxLen; omega) (by omega) (by simp; omega) ?_; intro A3 c3 w3 hown3 hgrow3 hat3)
          have hb3 : Below w.heap.size w w3 := below_own (hbr.alloc hB _) (hown.alloc _) hgrow3 (by simp; omega)
          rw [sv_snoc, rep_snoc] at hown3
          go_roundw
          case rel => exact ⟨j + 1, n + 1, c3, A3, rfl, by go_num, by omega, by omega, hown3, hb3⟩
          case measure => simp [intOf]; omega
        · obtain rfl : j = m := by omega
          have hst := Strs.of_own hown
          have hcap := own_cap63 hown
          have hnc := own_cap hown
          have hjr : (j ≤ 64 ∧ j * (i + 1) - 1 ≤ 4096 → ∃ x, Wd.join (List.replicate j (letters i)) = (x, 0) ∧ x.length = j * (i + 1) - 1) ∧ (64 < j ∨ 4096 < j * (i + 1) - 1 → Wd.join (List.replicate j (letters i)) = ([], 3)) := Wd.join_rep j i m1 k1 k2
          have hlen : ∀ x ∈ List.replicate j (letters i), x.length ≤ 1000000 := by
            intro x hx
            rw [List.mem_replicate] at hx
            rw [hx.2, letters_length]; omega
          have Hlen := hide hlen
          have hP2 : j * (i + 1) ≤ 70 * 81 := Nat.mul_le_mul (by omega) (by omega)
          have hP1 : 1 * 2 ≤ j * (i + 1) := Nat.mul_le_mul m1 (by omega)
          obtain ⟨P, hP⟩ : ∃ P, j * (i + 1) = P := ⟨_, rfl⟩
          rw [hP] at hjr hP1 hP2
          have hPI : (j : Int) * ((i : Int) + 1) = (P : Int) := by rw [← hP]; simp
          have Hjr := hide hjr
          have hn9 : n ≤ 9223372036854775807 := by omega
          clear hjr hP hlen hown
          generalize List.replicate j (letters i) = L at *
          by_cases hbig : 64 < j ∨ 4096 < P - 1
          · have Hj := hide (Hjr.out.2 hbig)
            have hh : decide ((64 : Int) < (j : Int)) = true ∨ (decide ((64 : Int) < (j : Int)) = false ∧ decide ((4096 : Int) < (P : Int) - 1) = true) := by
              by_cases h : 64 < j
              · exact .inl (by simp; omega)
              · exact .inr ⟨by simp; omega, by simp; omega⟩
            clear hbig
            rcases hh with d1 | ⟨d1, d2⟩
            all_goals
              go_wp2_with fail
              refine (join_any A n c L _ _ hst (Nat.le_refl _) hn9 Hlen.out).mono ?_
              intro e w4 hp
              obtain ⟨rfl, hb4⟩ := hp.at_ Hj.out
              clear hp
              go_wp2
              go_ret
              exact ⟨rfl, hbr.trans (hb4.mono hB)⟩
          · obtain ⟨x, hx1, hx2⟩ := Hjr.out.1 (by omega)
            have Hj := hide hx1
            have d1 : decide ((64 : Int) < (j : Int)) = false := by simp; omega
            have d2 : decide ((4096 : Int) < (P : Int) - 1) = false := by simp; omega
            have Hsj := hide (Wd.split_join (l := L) (by rw [hx1]))
            rw [hx1] at Hsj
            have exl : ((x.length : Int) == (P : Int) - 1) = true := by simp; omega
            have hxl : x.length ≤ 4096 := by omega
            clear hbig hx1 hx2
            go_wp2_with fail
            refine (join_any A n c L _ _ hst (Nat.le_refl _) hn9 Hlen.out).mono ?_
            intro e w4 hp
            obtain ⟨rfl, hb4⟩ := hp.at_ Hj.out
            clear hp
            have hb14 := hbr.trans (hb4.mono hB)
            go_wp2_with fail
            refine (split_any ⟨x.toArray⟩ _ (by rw [ba_size]; omega)).mono ?_
            intro e w5 hp
            obtain ⟨A5, c5, rfl, hc5, hm5, hs5, hb5⟩ := hp.at_ Hsj.out
            clear hp
            have hb15 := hb14.trans (hb5.mono hb14.size)
            have hst5 := ((hst.below hb4).mono hb4.size |>.below hb5).mono hb5.size
            have hln : L.length ≤ 9223372036854775807 := Nat.le_trans hc5 hm5
            go_wp2_with fail
            refine (refSame_any A5 A L.length n c5 c L L _ w5.heap.size hs5 hst5 hln hn9).mono ?_
            rintro e w6 ⟨rfl, hb6⟩
            rw [decide_eq_true (rfl : L = L)]
            clear hs5 hc5 hst5
            go_wp2
            go_ret
            exact ⟨rfl, hb15.trans (hb6.mono hb15.size)⟩
end Go.Proofs.YtabnokcejoaknaaDoor
