/- Layer 2, words.Split and the document's own answer; lists of words compared. -/
import Derived.Test.YtfjekckcpkkdiaaGreatDoorWordsRead
import Derived.Deep.QuietTactic
import Derived.BigQuiet
namespace Go.Proofs.YtfjekckcpkkdiaaGreatDoor
open Go.RowKit


/-- Strings and an error code. -/
def StrsPost (r : List (List UInt8) × Nat) (w : World) (e : Ending) (w' : World) : Prop :=
  ∃ A c, e = .returned (.tuple #[.slice A r.1.length c, .int .i64 (r.2 : Int)]) ∧ r.1.length ≤ c ∧ c ≤ 9223372036854775807 ∧ Strs w' w'.heap.size A r.1.length r.1 ∧ Below w.heap.size w w'
theorem StrsPost.of {r : List (List UInt8) × Nat} {l : List (List UInt8)} {er n c : Nat} {w w' : World} {e : Ending} {A : Option Addr} (hr : r = (l, er)) (he : e = .returned (.tuple #[.slice A n c, .int .i64 (er : Int)])) (hn : n ≤ c) (hc : c ≤ 9223372036854775807) (hs : Strs w' w'.heap.size A n l) (hb : Below w.heap.size w w') : StrsPost r w e w' := by
  subst hr
  obtain rfl := hs.len
  exact ⟨A, c, he, hn, hc, hs, hb⟩

set_option maxHeartbeats 1000000 in
theorem split_any (s : ByteArray) (w : World) (hs : s.size ≤ 9223372036854775807) :
    Calls Tryz.prog 60 #[.string s] w (StrsPost (Wd.split s.data.toList) w) := by
  have hsz := Lib.size_eq s
  by_cases h1 : 4096 < s.size
  · have hr : Wd.split s.data.toList = ([], 3) := by unfold Wd.split; rw [if_pos (by omega)]
    rw [hr]
    clear hr hsz
    go_enter Tryz.func60, Tryz.ntmps60
    go_wp2
    go_ret2
    exact StrsPost.of rfl rfl (by omega) (by omega) Strs.nil (Below.refl _ _)
  · have Hr : Hid (Wd.split s.data.toList = Wd.outcome (Wd.fin (Wd.run (0, [], []) s.data.toList))) := hide (by
      unfold Wd.split Wd.from_; rw [if_neg (by omega)])
    have hle : s.size ≤ 4096 := by omega
    have d1 : decide ((4096 : Int) < (s.size : Int)) = false := by simp; omega
    have Hsz := hide hsz
    clear hsz h1
    go_enter Tryz.func60, Tryz.ntmps60
    go_wp2_with fail
    go_loopw [11] (fun s11 wr => ∃ k : Nat, s11 = .int .i64 (k : Int) ∧ k ≤ s.size ∧ RdrE wr w.heap.size w.heap.size (Wd.run (0, [], []) (s.data.toList.take k)).1 (Wd.run (0, [], []) (s.data.toList.take k)).2.1 (Wd.run (0, [], []) (s.data.toList.take k)).2.2 ∧ Below w.heap.size w wr) (fun s11 _ => s.size - (intOf s11).toNat)
    case atStart => exact ⟨0, rfl, by omega, ⟨_, _, _, _, _, _, Obl.make _ _ _, Nat.le_refl _, World.ownsRow_nil _ _ _ _, World.ownsRow_nil _ _ _ _⟩, (Below.refl _ _).alloc (Nat.le_refl _) _⟩
    case round =>
      obtain ⟨k, rfl, hk, hr, hb⟩ := hrel
      have hlen := Wd.run_w (0, [], []) (s.data.toList.take k)
      have hst := Wd.run_st (0, [], []) (s.data.toList.take k) (by simp)
      have htl : (s.data.toList.take k).length ≤ 4096 := by have := List.length_take_le k s.data.toList; omega
      simp only [List.length_nil, Nat.zero_add] at hlen
      by_cases hlt : k < s.size
      · have hn := Wd.run_snoc (0, [], []) s[k] (s.data.toList.take k)
        rw [← take_snoc s k hlt] at hn
        have Hn := hide hn
        clear hn
        generalize hr2 : Wd.run (0, [], []) (s.data.toList.take (k + 1)) = r2 at *
        have HR2 := hide hr2
        clear hr2
        generalize Wd.run (0, [], []) (s.data.toList.take k) = r at *
        obtain ⟨st, wd, ws⟩ := r
        go_wp2_with fail
        refine (read_any w.heap.size w.heap.size st wd ws s[k] _ hr (by omega) (by omega) hst).mono ?_
        rintro e w1 ⟨rfl, hr1, hb1⟩
        rw [← Hn.out] at hr1
        go_wp2
        go_roundw
        case rel => exact ⟨k + 1, by go_num, by omega, by rw [HR2.out]; exact hr1, hb.trans hb1⟩
        case measure => simp [intOf]; omega
      · have hk' : s.data.toList.take k = s.data.toList := List.take_of_length_le (by have := Hsz.out; omega)
        rw [hk'] at hr hlen hst htl
        clear hk'
        generalize Wd.run (0, [], []) s.data.toList = r at *
        obtain ⟨st, wd, ws⟩ := r
        go_wp2_with fail
        refine (end_any w.heap.size w.heap.size st wd ws _ hr (by omega) (by omega) hst).mono ?_
        intro e w1 hend
        cases hf : Wd.fin (st, wd, ws) with
        | none =>
          rw [hf] at Hr hend
          clear hf
          obtain ⟨hb1, rfl⟩ := hend
          go_wp2
          go_ret2
          exact StrsPost.of Hr.out rfl (by omega) (by omega) Strs.nil (hb.trans hb1)
        | some l =>
          rw [hf] at Hr hend
          clear hf
          obtain ⟨hb1, rfl, st', wd', A, n, c, A2, n2, c2, h2⟩ := hend
          have k2 : w1.cell? ⟨w.heap.size, 2, none⟩ = some (.slice A2 n2 c2) := h2.1.cell 2
          have hl := own_strs h2.2.2.2
          have HO := hide h2
          by_cases h64 : 64 < n2
          · have Hr2 : Hid (Wd.outcome (some l) = ([], 3)) := hide (if_pos (by omega))
            have d2 : decide ((64 : Int) < (n2 : Int)) = true := by simp; omega
            clear hl h2
            go_wp2
            go_ret2
            exact StrsPost.of (Hr.out.trans Hr2.out) rfl (by omega) (by omega) Strs.nil (hb.trans hb1)
          · have Hr2 : Hid (Wd.outcome (some l) = (l, 0)) := hide (if_neg (by omega))
            have d2 : decide ((64 : Int) < (n2 : Int)) = false := by simp; omega
            clear hl h2
            go_wp2
            go_ret2
            exact StrsPost.of (Hr.out.trans Hr2.out) rfl (own_cap HO.out.2.2.2) (own_cap63 HO.out.2.2.2) (Strs.of_own HO.out.2.2.2) (hb.trans hb1)
set_option maxHeartbeats 400000 in
theorem refPlain_any (c : UInt8) (w : World) : Calls Tryz.prog 76 #[.int .u8 (c.toNat : Int)] w fun e w' => e = .returned (.bool (Wd.plain c)) ∧ w = w' := by
  unfold Wd.plain
  have hc := c.toNat_lt
  generalize c.toNat = x at *
  by_cases h1 : 33 ≤ x
  · by_cases h2 : x ≤ 126
    · by_cases h3 : x = 34
      · subst h3
        go_enter Tryz.func76, Tryz.ntmps76
        go_wp2
        go_ret
        exact ⟨rfl, rfl⟩
      · have e3 : ((x : Int) == 34) = false := by simp; omega
        have e3' : ((x : Int) != 34) = true := by simp; omega
        by_cases h4 : x = 92
        · subst h4
          go_enter Tryz.func76, Tryz.ntmps76
          go_wp2
          go_ret
          exact ⟨rfl, rfl⟩
        · have e4 : ((x : Int) == 92) = false := by simp; omega
          have e4' : ((x : Int) != 92) = true := by simp; omega
          go_enter Tryz.func76, Tryz.ntmps76
          go_wp2
          go_ret
          exact ⟨by simp [h1, h2, h3, h4], rfl⟩
    · go_enter Tryz.func76, Tryz.ntmps76
      go_wp2
      go_ret
      exact ⟨by simp, rfl⟩
  · go_enter Tryz.func76, Tryz.ntmps76
    go_wp2
    go_ret
    exact ⟨by simp, rfl⟩


theorem refPair_any (c : UInt8) (w : World) : Calls Tryz.prog 77 #[.int .u8 (c.toNat : Int)] w fun e w' => e = .returned (.tuple #[.int .u8 ((((Wd.letter c).getD 0).toNat : Nat) : Int), .bool (Wd.letter c).isSome]) ∧ w = w' := by
  by_cases h1 : c = 34
  · subst h1
    go_enter Tryz.func77, Tryz.ntmps77
    go_wp2
    go_ret2
    exact ⟨rfl, rfl⟩
  · by_cases h2 : c = 92
    · subst h2
      go_enter Tryz.func77, Tryz.ntmps77
      go_wp2
      go_ret2
      exact ⟨rfl, rfl⟩
    · by_cases h3 : c = 110
      · subst h3
        go_enter Tryz.func77, Tryz.ntmps77
        go_wp2
        go_ret2
        exact ⟨rfl, rfl⟩
      · by_cases h4 : c = 114
        · subst h4
          go_enter Tryz.func77, Tryz.ntmps77
          go_wp2
          go_ret2
          exact ⟨rfl, rfl⟩
        · have n1 : c.toNat ≠ 34 := ne_nat h1
          have n2 : c.toNat ≠ 92 := ne_nat h2
          have n3 : c.toNat ≠ 110 := ne_nat h3
          have n4 : c.toNat ≠ 114 := ne_nat h4
          have hx : Wd.letter c = none := by
            unfold Wd.letter
            rw [if_neg n1, if_neg n2, if_neg n3, if_neg n4]
          rw [hx]
          have e1 : ((c.toNat : Int) == 34) = false := by simp; omega
          have e2 : ((c.toNat : Int) == 92) = false := by simp; omega
          have e3 : ((c.toNat : Int) == 110) = false := by simp; omega
          have e4 : ((c.toNat : Int) == 114) = false := by simp; omega
          clear hx
          go_enter Tryz.func77, Tryz.ntmps77
          go_wp2
          go_ret2
          exact ⟨rfl, rfl⟩

/-- What reading a word leaves. -/
def WordPost (s : ByteArray) (r : Option (List UInt8 × List UInt8)) (w : World) (e : Ending) (w' : World) : Prop := Below w.heap.size w w' ∧ match r with
  | none => ∃ x y, e = .returned (.tuple #[.string x, .int .i64 y, .bool false])
  | some (wd, rest) => ∃ to : Nat, to ≤ s.size ∧ rest = s.data.toList.drop to ∧ e = .returned (.tuple #[.string ⟨wd.toArray⟩, .int .i64 (to : Int), .bool true])
theorem WordPost.no {s : ByteArray} {r : Option (List UInt8 × List UInt8)} {w w' : World} {e : Ending} {x : ByteArray} {y : Int} (hr : r = none) (he : e = .returned (.tuple #[.string x, .int .i64 y, .bool false])) (hb : Below w.heap.size w w') : WordPost s r w e w' := by
  subst hr; exact ⟨hb, x, y, he⟩
theorem WordPost.yes {s : ByteArray} {r : Option (List UInt8 × List UInt8)} {w w' : World} {e : Ending} {wd : List UInt8} {to : Nat} {x : ByteArray} {y : Int} (hr : r = some (wd, s.data.toList.drop to)) (ht : to ≤ s.size) (he : e = .returned (.tuple #[.string x, .int .i64 y, .bool true])) (hx : x = ⟨wd.toArray⟩) (hy : y = (to : Int)) (hb : Below w.heap.size w w') : WordPost s r w e w' := by
  subst hr hx hy; exact ⟨hb, to, ht, rfl, he⟩


/-- How far the plain bytes go. -/
theorem plain_step (l : List UInt8) (p k : Nat) (c : UInt8) (hk : p ≤ k) (hd : l.drop k = c :: l.drop (k + 1)) (h1 : (l.drop p).takeWhile Wd.plain = (l.drop p).take (k - p) ++ (l.drop k).takeWhile Wd.plain) (h2 : (l.drop p).dropWhile Wd.plain = (l.drop k).dropWhile Wd.plain) (hc : Wd.plain c = true) :
    (l.drop p).takeWhile Wd.plain = (l.drop p).take (k + 1 - p) ++ (l.drop (k + 1)).takeWhile Wd.plain ∧ (l.drop p).dropWhile Wd.plain = (l.drop (k + 1)).dropWhile Wd.plain := by
  have hx : (l.drop p)[k - p]? = some c := by
    rw [List.getElem?_drop, show p + (k - p) = k by omega]
    have := congrArg (fun x => x[0]?) hd
    simpa using this
  constructor
  · rw [h1, hd, List.takeWhile_cons, if_pos hc, show k + 1 - p = (k - p) + 1 by omega, List.take_add_one, hx]
    simp
  · rw [h2, hd, List.dropWhile_cons, if_pos hc]
theorem plain_stop (l : List UInt8) (p k : Nat) (hd : l.drop k = [] ∨ ∃ c r, l.drop k = c :: r ∧ Wd.plain c = false) (h1 : (l.drop p).takeWhile Wd.plain = (l.drop p).take (k - p) ++ (l.drop k).takeWhile Wd.plain) (h2 : (l.drop p).dropWhile Wd.plain = (l.drop k).dropWhile Wd.plain) :
    (l.drop p).takeWhile Wd.plain = (l.drop p).take (k - p) ∧ (l.drop p).dropWhile Wd.plain = l.drop k := by
  rcases hd with hd | ⟨c, r, hd, hc⟩
  · rw [h1, h2, hd]; simp
  · rw [h1, h2, hd, List.takeWhile_cons, List.dropWhile_cons]; simp [hc]
theorem word_plain (l : List UInt8) (p k : Nat) (hk : p ≤ k) (hkl : k ≤ l.length) (h34 : ∀ c r, l.drop p = c :: r → c.toNat ≠ 34) (h1 : (l.drop p).takeWhile Wd.plain = (l.drop p).take (k - p)) (h2 : (l.drop p).dropWhile Wd.plain = l.drop k) :
    Wd.word (l.drop p) = if p < k then some ((l.drop p).take (k - p), l.drop k) else none := by
  cases hd : l.drop p with
  | nil =>
    have : l.length ≤ p := by simpa using hd
    rw [if_neg (by omega)]; rfl
  | cons c r =>
    rw [hd] at h1 h2
    rw [Wd.word_cons, if_neg (h34 c r hd)]
    by_cases hc : Wd.plain c = true
    · rw [if_pos hc]
      have hlt : p < k := by
        rcases Nat.lt_or_ge p k with h | h
        · exact h
        · rw [show k - p = 0 by omega, List.takeWhile_cons, if_pos hc] at h1
          simp at h1
      rw [if_pos hlt, h1, h2]
    · rw [if_neg hc]
      have hlt : ¬ p < k := by
        intro hlt
        rw [List.takeWhile_cons, if_neg hc] at h1
        have := congrArg List.length h1
        simp only [List.length_nil, List.length_take] at this
        have hl : (c :: r).length = l.length - p := by rw [← hd, List.length_drop]
        omega
      rw [if_neg hlt]

set_option maxHeartbeats 1000000 in
theorem refWord_plain (s : ByteArray) (p : Nat) (w : World) (hs : s.size ≤ 4096) (hp : p ≤ s.size) (hq : ∀ h : p < s.size, s[p] ≠ 34) :
    Calls Tryz.prog 62 #[.string s, .int .i64 (p : Int)] w (WordPost s (Wd.word (s.data.toList.drop p)) w) := by
  have hq34 : ∀ c r, s.data.toList.drop p = c :: r → c.toNat ≠ 34 := by
    intro c r h
    have hlt : p < s.size := by
      rcases Nat.lt_or_ge p s.size with h' | h'
      · exact h'
      · rw [List.drop_eq_nil_of_le (by rw [← Lib.size_eq]; exact h')] at h; cases h
    rw [drop_cons s p hlt] at h
    injection h with h _
    subst h
    exact ne_nat (hq hlt)
  have Hq := hide hq34
  have hsz := hide (Lib.size_eq s)
  have start : s.size ≤ p ∨ ∃ h : p < s.size, decide ((s.size : Nat) ≤ p) = false ∧ ((s[p].toNat : Int) == 34) = false ∧ ((s[p].toNat : Int) != 34) = true := by
    rcases Nat.lt_or_ge p s.size with h' | h'
    · have n1 : s[p].toNat ≠ 34 := ne_nat (hq h')
      exact .inr ⟨h', by simp; omega, by simp; omega, by simp; omega⟩
    · exact .inl h'
  clear hq34 hq
  rcases start with hge | ⟨hlt, d1, e1, e1'⟩
  · obtain rfl : p = s.size := by omega
    go_enter Tryz.func62, Tryz.ntmps62
    go_wp2_with fail
    go_loop [7] (fun s7 => s7 = .int .i64 (s.size : Int)) (fun _ => 0)
    case atStart => rfl
    case round =>
      subst hrel
      go_wp2
      go_ret3
      refine WordPost.no ?_ rfl (Below.refl _ _)
      rw [List.drop_eq_nil_of_le (by rw [← hsz.out]; exact Nat.le_refl _)]
      rfl
  · go_enter Tryz.func62, Tryz.ntmps62
    go_wp2_with fail
    go_loop [7] (fun s7 => ∃ k : Nat, s7 = .int .i64 (k : Int) ∧ p ≤ k ∧ k ≤ s.size ∧ Hid ((s.data.toList.drop p).takeWhile Wd.plain = (s.data.toList.drop p).take (k - p) ++ (s.data.toList.drop k).takeWhile Wd.plain ∧ (s.data.toList.drop p).dropWhile Wd.plain = (s.data.toList.drop k).dropWhile Wd.plain)) (fun s7 => s.size - (intOf s7).toNat)
    case atStart => exact ⟨p, rfl, by omega, hp, hide ⟨by simp, rfl⟩⟩
    case round =>
      obtain ⟨k, rfl, hpk, hk, HH⟩ := hrel
      by_cases hlk : k < s.size
      · cases hc : Wd.plain s[k] with
        | true =>
          have H2 := hide (plain_step s.data.toList p k s[k] hpk (drop_cons s k hlk) HH.out.1 HH.out.2 hc)
          have Hc := hide hc
          clear hc
          go_wp2_with fail
          refine (refPlain_any s[k] _).mono ?_
          rintro e w1 ⟨rfl, rfl⟩
          rw [Hc.out]
          go_wp2
          go_round
          case rel => exact ⟨k + 1, by go_num, by omega, by omega, H2⟩
          case measure => simp [intOf]; omega
        | false =>
          have H2 := plain_stop s.data.toList p k (.inr ⟨_, _, drop_cons s k hlk, hc⟩) HH.out.1 HH.out.2
          have H3 := hide (word_plain s.data.toList p k hpk (by have := hsz.out; omega) Hq.out H2.1 H2.2)
          have Hc := hide hc
          clear hc H2
          go_wp2_with fail
          refine (refPlain_any s[k] _).mono ?_
          rintro e w1 ⟨rfl, rfl⟩
          rw [Hc.out]
          by_cases hpk' : p < k
          · go_wp2
            go_ret3
            exact WordPost.yes (H3.out.trans (if_pos hpk')) hk rfl (Lib.extract_eq _ _ _) rfl (Below.refl _ _)
          · obtain rfl : p = k := by omega
            go_wp2
            go_ret3
            exact WordPost.no (H3.out.trans (if_neg hpk')) rfl (Below.refl _ _)
      · obtain rfl : k = s.size := by omega
        have H2 := plain_stop s.data.toList p s.size (.inl (List.drop_eq_nil_of_le (by rw [← hsz.out]; exact Nat.le_refl _))) HH.out.1 HH.out.2
        have H3 := hide (word_plain s.data.toList p s.size hpk (by have := hsz.out; omega) Hq.out H2.1 H2.2)
        clear H2
        go_wp2
        go_ret3
        exact WordPost.yes (H3.out.trans (if_pos hlt)) hk rfl (Lib.extract_eq _ _ _) rfl (Below.refl _ _)

theorem no_34 (l out : List UInt8) (c : UInt8) (k : Nat) (hd : l.drop k = c :: l.drop (k + 1)) (h : c = 34) : Wd.quoted false out (l.drop k) = some (out, l.drop (k + 1)) := by
  subst h; rw [hd, Wd.quoted_no]; rfl
theorem no_lf (l out : List UInt8) (c : UInt8) (k : Nat) (hd : l.drop k = c :: l.drop (k + 1)) (h : c = 10 ∨ c = 13) : Wd.quoted false out (l.drop k) = none := by
  rcases h with rfl | rfl <;> (rw [hd, Wd.quoted_no]; rfl)
theorem no_92 (l out : List UInt8) (c : UInt8) (k : Nat) (hd : l.drop k = c :: l.drop (k + 1)) (h : c = 92) : Wd.quoted false out (l.drop k) = Wd.quoted true out (l.drop (k + 1)) := by
  subst h; rw [hd, Wd.quoted_no]; rfl
theorem no_else (l out : List UInt8) (c : UInt8) (k : Nat) (hd : l.drop k = c :: l.drop (k + 1)) (h1 : c ≠ 34) (h2 : c ≠ 10) (h3 : c ≠ 13) (h4 : c ≠ 92) : Wd.quoted false out (l.drop k) = Wd.quoted false (out ++ [c]) (l.drop (k + 1)) := by
  have n1 : c.toNat ≠ 34 := ne_nat h1
  have n2 : c.toNat ≠ 10 := ne_nat h2
  have n3 : c.toNat ≠ 13 := ne_nat h3
  have n4 : c.toNat ≠ 92 := ne_nat h4
  rw [hd, Wd.quoted_no, if_neg n1, if_neg (by omega), if_neg n4]

set_option maxHeartbeats 2000000 in
set_option maxRecDepth 100000 in
theorem refWord_quoted (s : ByteArray) (p : Nat) (w : World) (hs : s.size ≤ 4096) (hp : p < s.size) (hq : s[p] = 34) :
    Calls Tryz.prog 62 #[.string s, .int .i64 (p : Int)] w (WordPost s (Wd.word (s.data.toList.drop p)) w) := by
  have hw : Wd.word (s.data.toList.drop p) = Wd.quoted false [] (s.data.toList.drop (p + 1)) := by
    rw [drop_cons s p hp, Wd.word_cons, hq]; rfl
  have Hw := hide hw
  have hsz := hide (Lib.size_eq s)
  have n0 : (s[p].toNat : Int) = 34 := by rw [hq]; rfl
  have d1 : decide ((s.size : Nat) ≤ p) = false := by simp; omega
  have hn0 := World.ownsRow_nil w w.heap.size 5 1
  clear hw hq
  go_enter Tryz.func62, Tryz.ntmps62
  go_wp2_with fail
  go_loopw [8, 9] (fun s8 s9 wr => ∃ (k n c : Nat) (A : Option Addr) (out : List UInt8), s8 = .slice A n c ∧ s9 = .int .i64 (k : Int) ∧ p + 1 ≤ k ∧ k ≤ s.size ∧ n ≤ k ∧ wr.ownsRow w.heap.size 5 1 (.slice A n c) n (bv out) ∧ Below w.heap.size w wr ∧ Hid (Wd.quoted false out (s.data.toList.drop k) = Wd.quoted false [] (s.data.toList.drop (p + 1)))) (fun _ s9 _ => s.size - (intOf s9).toNat)
  case atStart => exact ⟨p + 1, 0, 0, none, [], rfl, by go_num, by omega, by omega, by omega, hn0, Below.refl _ _, hide rfl⟩
  case round =>
    obtain ⟨k, n, c, A, out, rfl, rfl, hpk, hk, hnk, hown, hb, HH⟩ := hrel
    have hB : w.heap.size ≤ wr.heap.size := hb.size
    by_cases hlk : k < s.size
    · have Hd := hide (drop_cons s k hlk)
      by_cases h34 : s[k] = 34
      · have H2 := hide (no_34 s.data.toList out s[k] k Hd.out h34)
        have n1 : (s[k].toNat : Int) = 34 := by rw [h34]; rfl
        have hconv := run_string_rd (P := Tryz.prog) wr Tryz.underlying26 Tryz.underlying5 Tryz.underlying9 (c := c) (Bytes.of_own hown)
        clear h34
        go_wp2
        go_ret3
        exact WordPost.yes (Hw.out.trans (HH.out.symm.trans H2.out)) (show k + 1 ≤ s.size by omega) rfl rfl (by omega) hb
      · have e34 : ((s[k].toNat : Int) == 34) = false := by
          have n1 : s[k].toNat ≠ 34 := ne_nat h34
          simp; omega
        by_cases hlf : s[k] = 10 ∨ s[k] = 13
        · have H2 := hide (no_lf s.data.toList out s[k] k Hd.out hlf)
          have hh : ((s[k].toNat : Int) == 10) = true ∨ (((s[k].toNat : Int) == 10) = false ∧ ((s[k].toNat : Int) == 13) = true) := by
            rcases hlf with h | h
            · rw [h]; exact .inl rfl
            · rw [h]; exact .inr ⟨rfl, rfl⟩
          clear hlf h34
          rcases hh with h10 | ⟨h10, h13⟩
          all_goals
            go_wp2
            go_ret3
            exact WordPost.no (Hw.out.trans (HH.out.symm.trans H2.out)) rfl hb
        · have h10 : s[k] ≠ 10 := fun h => hlf (.inl h)
          have h13 : s[k] ≠ 13 := fun h => hlf (.inr h)
          have e10 : ((s[k].toNat : Int) == 10) = false := by
            have n1 : s[k].toNat ≠ 10 := ne_nat h10
            simp; omega
          have e13 : ((s[k].toNat : Int) == 13) = false := by
            have n1 : s[k].toNat ≠ 13 := ne_nat h13
            simp; omega
          by_cases h92 : s[k] = 92
          · have H2 := hide (no_92 s.data.toList out s[k] k Hd.out h92)
            have n1 : (s[k].toNat : Int) = 92 := by rw [h92]; rfl
            clear h92 h10 h13 hlf h34 e34 e10 e13
            by_cases hend : k + 1 = s.size
            · have ht : ((k : Int) + 1 == (s.size : Int)) = true := by simp; omega
              have H3 : Hid (s.data.toList.drop (k + 1) = []) := hide (List.drop_eq_nil_of_le (by rw [← hsz.out]; omega))
              clear hend
              go_wp2
              go_ret3
              exact WordPost.no (Hw.out.trans (HH.out.symm.trans (H2.out.trans (by rw [H3.out]; rfl)))) rfl hb
            · have hlt2 : k + 1 < s.size := by omega
              have ht : ((k : Int) + 1 == (s.size : Int)) = false := by simp; omega
              have Hd2 := hide (drop_cons s (k + 1) hlt2)
              clear hend
              cases hx : Wd.letter s[k + 1] with
              | none =>
                have Hx := hide hx
                clear hx
                go_wp2_with fail
                refine (refPair_any s[k + 1] _).mono ?_
                rintro e w1 ⟨rfl, rfl⟩
                rw [Hx.out]
                simp only [Option.getD_none, Option.isSome_none]
                go_wp2
                go_ret3
                exact WordPost.no (Hw.out.trans (HH.out.symm.trans (H2.out.trans (by rw [Hd2.out, Wd.quoted_yes, Hx.out])))) rfl hb
              | some y =>
                have Hx := hide hx
                clear hx
                go_wp2_with fail
                refine (refPair_any s[k + 1] _).mono ?_
                rintro e w1 ⟨rfl, rfl⟩
                rw [Hx.out]
                simp only [Option.getD_some, Option.isSome_some]
                go_wp2_with (at_builtin; refine wpList_append_rd rfl (.tmp 91) (.tmp 93) _ rfl byteTy rfl (hown.alloc _) rfl (Row.new _ _ _) (by simp [Value.oneCell']) (by unfold maxLen; omega) (by omega) (by simp; omega) ?_; intro A3 c3 w3 hown3 hgrow3 hat3)
                have hb2 : Below w.heap.size w w3 := below_own (hb.alloc hB _) (hown.alloc _) hgrow3 (by simp; omega)
                rw [bv_snoc_u8] at hown3
                go_roundw
                case rel => exact ⟨k + 2, n + 1, c3, A3, out ++ [y], rfl, by go_num, by omega, by omega, by omega, hown3, hb2, hide (by rw [← HH.out, H2.out, Hd2.out, Wd.quoted_yes, Hx.out])⟩
                case measure => simp [intOf]; omega
          · have H2 := hide (no_else s.data.toList out s[k] k Hd.out h34 h10 h13 h92)
            have e92 : ((s[k].toNat : Int) == 92) = false := by
              have n1 : s[k].toNat ≠ 92 := ne_nat h92
              simp; omega
            clear h92 h10 h13 hlf h34
            go_wp2_with (at_builtin; refine wpList_append_rd rfl (.tmp 55) (.tmp 57) _ rfl byteTy rfl (hown.alloc _) rfl (Row.new _ _ _) (by simp [Value.oneCell']) (by unfold maxLen; omega) (by omega) (by simp; omega) ?_; intro A3 c3 w3 hown3 hgrow3 hat3)
            have hb2 : Below w.heap.size w w3 := below_own (hb.alloc hB _) (hown.alloc _) hgrow3 (by simp; omega)
            rw [bv_snoc_u8] at hown3
            go_roundw
            case rel => exact ⟨k + 1, n + 1, c3, A3, out ++ [s[k]], rfl, by go_num, by omega, by omega, by omega, hown3, hb2, hide (by rw [← HH.out, H2.out])⟩
            case measure => simp [intOf]; omega
    · obtain rfl : k = s.size := by omega
      have H3 : Hid (s.data.toList.drop s.size = []) := hide (List.drop_eq_nil_of_le (by rw [← hsz.out]; exact Nat.le_refl _))
      go_wp2
      go_ret3
      exact WordPost.no (Hw.out.trans (HH.out.symm.trans (by rw [H3.out]; rfl))) rfl hb

theorem refWord_any (s : ByteArray) (p : Nat) (w : World) (hs : s.size ≤ 4096) (hp : p ≤ s.size) :
    Calls Tryz.prog 62 #[.string s, .int .i64 (p : Int)] w (WordPost s (Wd.word (s.data.toList.drop p)) w) := by
  by_cases h : ∃ h : p < s.size, s[p] = 34
  · obtain ⟨hlt, hq⟩ := h
    exact refWord_quoted s p w hs hlt hq
  · exact refWord_plain s p w hs hp fun hlt hq => h ⟨hlt, hq⟩
end Go.Proofs.YtfjekckcpkkdiaaGreatDoor
