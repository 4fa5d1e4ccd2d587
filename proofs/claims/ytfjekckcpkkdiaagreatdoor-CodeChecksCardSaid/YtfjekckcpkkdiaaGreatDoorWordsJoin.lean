/- Layer 2, lines of words: contracts of words.Join and of the document's own answer. -/
import Derived.Test.YtfjekckcpkkdiaaGreatDoorWordsLines
import Derived.Lib.AppendStr
namespace Go.Proofs.YtfjekckcpkkdiaaGreatDoor
open Go.RowKit

namespace Wd
theorem plainW_no {w : List UInt8} {c : UInt8} (h : plain c = false) (hc : c ∈ w) : plainW w = false := by
  unfold plainW
  have : w.all plain = false := by
    rw [List.all_eq_false]
    exact ⟨c, hc, by simp [h]⟩
  rw [this]; rfl
theorem plainW_yes {w : List UInt8} (h : w.all plain = true) : plainW w = !w.isEmpty := by
  unfold plainW
  rw [h]
  cases w <;> simp
end Wd

set_option maxHeartbeats 400000 in
theorem isPlainWord_any (s : ByteArray) (w : World) (hs : s.size ≤ 9223372036854775807) :
    Calls Tryz.prog 78 #[.string s] w fun e w' => e = .returned (.bool (Wd.plainW s.data.toList)) ∧ w = w' := by
  have hsz := hide (Lib.size_eq s)
  go_enter Tryz.func78, Tryz.ntmps78
  go_wp2_with fail
  go_loop [6] (fun i => ∃ k : Nat, i = .int .i64 (k : Int) ∧ k ≤ s.size ∧ Hid ((s.data.toList.take k).all Wd.plain = true)) (fun i => s.size - (intOf i).toNat)
  case atStart => exact ⟨0, rfl, by omega, hide rfl⟩
  case round =>
    obtain ⟨k, rfl, hk, HH⟩ := hrel
    by_cases hlt : k < s.size
    · cases hp : Wd.plain s[k] with
      | true =>
        have H2 : Hid ((s.data.toList.take (k + 1)).all Wd.plain = true) := hide (by rw [take_snoc s k hlt, List.all_append, HH.out]; simp [hp])
        have Hp := hide hp
        clear hp
        go_wp2_with fail
        refine (isPlain_any s[k] _).mono ?_
        rintro e w1 ⟨rfl, rfl⟩
        rw [Hp.out]
        go_wp2
        go_round
        case rel => exact ⟨k + 1, by go_num, by omega, H2⟩
        case measure => simp [intOf]; omega
      | false =>
        have H2 : Hid (Wd.plainW s.data.toList = false) := hide (Wd.plainW_no hp (List.mem_of_getElem? (str_at hlt)))
        have Hp := hide hp
        clear hp
        go_wp2_with fail
        refine (isPlain_any s[k] _).mono ?_
        rintro e w1 ⟨rfl, rfl⟩
        rw [Hp.out]
        go_wp2
        go_ret
        exact ⟨ret_bool H2.out.symm, rfl⟩
    · obtain rfl : k = s.size := by omega
      have hx : Wd.plainW s.data.toList = !s.toList.isEmpty := by
        rw [List.take_of_length_le (by rw [← hsz.out]; exact Nat.le_refl _)] at HH
        rw [Wd.plainW_yes HH.out, Lib.toList_data]
      have Hx := hide hx
      clear hx
      go_wp2
      go_ret
      exact ⟨ret_bool Hx.out.symm, rfl⟩

set_option maxHeartbeats 400000 in
theorem refPlainWord_any (s : ByteArray) (w : World) (hs : s.size ≤ 9223372036854775807) :
    Calls Tryz.prog 67 #[.string s] w fun e w' => e = .returned (.bool (Wd.plainW s.data.toList)) ∧ w = w' := by
  have hsz := hide (Lib.size_eq s)
  go_enter Tryz.func67, Tryz.ntmps67
  go_wp2_with fail
  go_loop [3] (fun i => ∃ k : Nat, i = .int .i64 (k : Int) ∧ k ≤ s.size ∧ Hid ((s.data.toList.take k).all Wd.plain = true)) (fun i => s.size - (intOf i).toNat)
  case atStart => exact ⟨0, rfl, by omega, hide rfl⟩
  case round =>
    obtain ⟨k, rfl, hk, HH⟩ := hrel
    by_cases hlt : k < s.size
    · cases hp : Wd.plain s[k] with
      | true =>
        have H2 : Hid ((s.data.toList.take (k + 1)).all Wd.plain = true) := hide (by rw [take_snoc s k hlt, List.all_append, HH.out]; simp [hp])
        have Hp := hide hp
        clear hp
        go_wp2_with fail
        refine (refPlain_any s[k] _).mono ?_
        rintro e w1 ⟨rfl, rfl⟩
        rw [Hp.out]
        go_wp2
        go_round
        case rel => exact ⟨k + 1, by go_num, by omega, H2⟩
        case measure => simp [intOf]; omega
      | false =>
        have H2 : Hid (Wd.plainW s.data.toList = false) := hide (Wd.plainW_no hp (List.mem_of_getElem? (str_at hlt)))
        have Hp := hide hp
        clear hp
        go_wp2_with fail
        refine (refPlain_any s[k] _).mono ?_
        rintro e w1 ⟨rfl, rfl⟩
        rw [Hp.out]
        go_wp2
        go_ret
        exact ⟨ret_bool H2.out.symm, rfl⟩
    · obtain rfl : k = s.size := by omega
      have hx : Wd.plainW s.data.toList = !s.toList.isEmpty := by
        rw [List.take_of_length_le (by rw [← hsz.out]; exact Nat.le_refl _)] at HH
        rw [Wd.plainW_yes HH.out, Lib.toList_data]
      have Hx := hide hx
      clear hx
      go_wp2
      go_ret
      exact ⟨ret_bool Hx.out.symm, rfl⟩



/-- What an append leaves: a row of its own that holds l. -/
def AppPost (base : Nat) (l : List UInt8) (w : World) (e : Ending) (w' : World) : Prop := ∃ A n c, e = .returned (.slice A n c) ∧ w'.ownsRow base 5 1 (.slice A n c) n (bv l) ∧ Below base w w'

set_option maxHeartbeats 400000 in
theorem appendQuoted_any (A : Option Addr) (n c0 base : Nat) (l : List UInt8) (c : UInt8) (w : World) (hown : w.ownsRow base 5 1 (.slice A n c0) n (bv l)) (hbase : base ≤ w.heap.size) (hn : n ≤ 1099511627776) :
    Calls Tryz.prog 79 #[.slice A n c0, .int .u8 (c.toNat : Int)] w (AppPost base (l ++ Wd.esc c) w) := by
  by_cases h1 : c = 34
  · subst h1
    rw [show Wd.esc 34 = [92, 34] from rfl]
    go_enter Tryz.func79, Tryz.ntmps79
    go_wp2_with fail
    refine (index_any [34, 92, 10, 13] 34 _).mono ?_
    rintro e w1 ⟨rfl, rfl⟩
    rw [show Lib.indexByte [34, 92, 10, 13] 34 = 0 by decide]
    go_wp2_with (at_builtin; refine wpList_append_rd rfl (.tmp 10) (.tmp 13) _ rfl byteTy rfl (hown.alloc _) rfl (Row.list _ [.int .u8 92, .int .u8 34] _) (by simp [Value.oneCell']) (by unfold maxLen; omega) (by omega) (by simp; omega) ?_; intro A3 c3 w3 hown3 hgrow3 hat3)
    go_ret
    exact ⟨A3, _, c3, rfl, by rw [bv_append]; exact hown3, below_own ((Below.refl _ _).alloc hbase _) (hown.alloc _) hgrow3 (by simp; omega)⟩
  · by_cases h2 : c = 92
    · subst h2
      rw [show Wd.esc 92 = [92, 92] from rfl]
      go_enter Tryz.func79, Tryz.ntmps79
      go_wp2_with fail
      refine (index_any [34, 92, 10, 13] 92 _).mono ?_
      rintro e w1 ⟨rfl, rfl⟩
      rw [show Lib.indexByte [34, 92, 10, 13] 92 = 1 by decide]
      go_wp2_with (at_builtin; refine wpList_append_rd rfl (.tmp 10) (.tmp 13) _ rfl byteTy rfl (hown.alloc _) rfl (Row.list _ [.int .u8 92, .int .u8 92] _) (by simp [Value.oneCell']) (by unfold maxLen; omega) (by omega) (by simp; omega) ?_; intro A3 c3 w3 hown3 hgrow3 hat3)
      go_ret
      exact ⟨A3, _, c3, rfl, by rw [bv_append]; exact hown3, below_own ((Below.refl _ _).alloc hbase _) (hown.alloc _) hgrow3 (by simp; omega)⟩
    · by_cases h3 : c = 10
      · subst h3
        rw [show Wd.esc 10 = [92, 110] from rfl]
        go_enter Tryz.func79, Tryz.ntmps79
        go_wp2_with fail
        refine (index_any [34, 92, 10, 13] 10 _).mono ?_
        rintro e w1 ⟨rfl, rfl⟩
        rw [show Lib.indexByte [34, 92, 10, 13] 10 = 2 by decide]
        go_wp2_with (at_builtin; refine wpList_append_rd rfl (.tmp 10) (.tmp 13) _ rfl byteTy rfl (hown.alloc _) rfl (Row.list _ [.int .u8 92, .int .u8 110] _) (by simp [Value.oneCell']) (by unfold maxLen; omega) (by omega) (by simp; omega) ?_; intro A3 c3 w3 hown3 hgrow3 hat3)
        go_ret
        exact ⟨A3, _, c3, rfl, by rw [bv_append]; exact hown3, below_own ((Below.refl _ _).alloc hbase _) (hown.alloc _) hgrow3 (by simp; omega)⟩
      · by_cases h4 : c = 13
        · subst h4
          rw [show Wd.esc 13 = [92, 114] from rfl]
          go_enter Tryz.func79, Tryz.ntmps79
          go_wp2_with fail
          refine (index_any [34, 92, 10, 13] 13 _).mono ?_
          rintro e w1 ⟨rfl, rfl⟩
          rw [show Lib.indexByte [34, 92, 10, 13] 13 = 3 by decide]
          go_wp2_with (at_builtin; refine wpList_append_rd rfl (.tmp 10) (.tmp 13) _ rfl byteTy rfl (hown.alloc _) rfl (Row.list _ [.int .u8 92, .int .u8 114] _) (by simp [Value.oneCell']) (by unfold maxLen; omega) (by omega) (by simp; omega) ?_; intro A3 c3 w3 hown3 hgrow3 hat3)
          go_ret
          exact ⟨A3, _, c3, rfl, by rw [bv_append]; exact hown3, below_own ((Below.refl _ _).alloc hbase _) (hown.alloc _) hgrow3 (by simp; omega)⟩
        · have he : Wd.esc c = [c] := by
            have n1 : c.toNat ≠ 34 := ne_nat h1
            have n2 : c.toNat ≠ 92 := ne_nat h2
            have n3 : c.toNat ≠ 10 := ne_nat h3
            have n4 : c.toNat ≠ 13 := ne_nat h4
            unfold Wd.esc
            rw [if_neg n1, if_neg n2, if_neg n3, if_neg n4]
          rw [he]
          have Hix := hide (ix4 34 92 10 13 c h1 h2 h3 h4)
          clear h1 h2 h3 h4 he
          go_enter Tryz.func79, Tryz.ntmps79
          go_wp2_with fail
          refine (index_any [34, 92, 10, 13] c _).mono ?_
          rintro e w1 ⟨rfl, rfl⟩
          rw [Hix.out]
          go_wp2_with (at_builtin; refine wpList_append_rd rfl (.tmp 15) (.tmp 17) _ rfl byteTy rfl (hown.alloc _) rfl (Row.new _ _ _) (by simp [Value.oneCell']) (by unfold maxLen; omega) (by omega) (by simp; omega) ?_; intro A3 c3 w3 hown3 hgrow3 hat3)
          go_ret
          exact ⟨A3, _, c3, rfl, by rw [bv_append]; exact hown3, below_own ((Below.refl _ _).alloc hbase _) (hown.alloc _) hgrow3 (by simp; omega)⟩

set_option maxHeartbeats 1000000 in
theorem appendWord_any (A : Option Addr) (n c0 base : Nat) (l : List UInt8) (s : ByteArray) (w : World) (hown : w.ownsRow base 5 1 (.slice A n c0) n (bv l)) (hbase : base ≤ w.heap.size) (hn : n ≤ 1048576) (hs : s.size ≤ 1048576) :
    Calls Tryz.prog 64 #[.slice A n c0, .string s] w (AppPost base (l ++ Wd.written s.data.toList) w) := by
  have hsz := hide (Lib.size_eq s)
  have hln := own_bytes hown
  have Hln := hide hln
  clear hln
  cases hp : Wd.plainW s.data.toList with
  | true =>
    have hw : Wd.written s.data.toList = s.data.toList := by unfold Wd.written; rw [if_pos hp]
    rw [hw]
    have Hp := hide hp
    clear hp hw
    go_enter Tryz.func64, Tryz.ntmps64
    go_wp2_with fail
    refine (isPlainWord_any s _ (by omega)).mono ?_
    rintro e w1 ⟨rfl, rfl⟩
    rw [Hp.out]
    go_wp2_with (at_builtin; refine wpList_append_str rfl (.tmp 8) (.tmp 9) rfl rfl hown rfl (by omega) hbase ?_; intro A3 c3 w3 hown3 hgrow3)
    go_ret
    exact ⟨A3, _, c3, rfl, hown3, below_own (Below.refl _ _) hown hgrow3 hbase⟩
  | false =>
    have hw : Wd.written s.data.toList = 34 :: (Wd.quote s.data.toList ++ [34]) := by unfold Wd.written; rw [if_neg (by simp [hp])]
    rw [hw]
    have Hp := hide hp
    clear hp hw
    go_enter Tryz.func64, Tryz.ntmps64
    go_wp2_with fail
    refine (isPlainWord_any s _ (by omega)).mono ?_
    rintro e w1 ⟨rfl, rfl⟩
    rw [Hp.out]
    go_wp2_with (at_builtin; refine wpList_append_rd rfl (.tmp 11) (.tmp 12) _ rfl byteTy rfl (hown.alloc _) rfl (Row.new _ _ _) (by simp [Value.oneCell']) (by unfold maxLen; omega) (by omega) (by simp; omega) ?_; intro A3 c3 w3 hown3 hgrow3 hat3)
    have hb3 := below_own ((Below.refl _ _).alloc hbase _) (hown.alloc _) hgrow3 (by simp; omega)
    have hown3' : w3.ownsRow base 5 1 (.slice A3 (n + 1) c3) (n + 1) (bv (l ++ 34 :: Wd.quote (s.data.toList.take 0))) := by
      have : bv l ++ [.int .u8 34] = bv (l ++ 34 :: Wd.quote (s.data.toList.take 0)) := by rw [bv_append]; rfl
      rw [← this]; exact hown3
    clear hown3
    go_wp2_with fail
    go_loopw [0, 16] (fun s0 s16 wr => ∃ (k m c : Nat) (B : Option Addr), s0 = .slice B m c ∧ s16 = .int .i64 (k : Int) ∧ k ≤ s.size ∧ wr.ownsRow base 5 1 (.slice B m c) m (bv (l ++ 34 :: Wd.quote (s.data.toList.take k))) ∧ Below base w wr) (fun _ s16 _ => s.size - (intOf s16).toNat)
    case atStart => exact ⟨0, n + 1, c3, A3, rfl, rfl, by omega, hown3', hb3⟩
    case round =>
      obtain ⟨k, m, c, B, rfl, rfl, hk, hown4, hb4⟩ := hrel
      have hB := Nat.le_trans hbase hb4.size
      have hm := own_bytes hown4
      have hq := Wd.quote_le (s.data.toList.take k)
      have htk : (s.data.toList.take k).length ≤ k := List.length_take_le _ _
      have hmb : m ≤ 1099511627776 := by
        have := Hln.out
        rw [← hm, List.length_append, List.length_cons]
        omega
      clear hm hq htk
      by_cases hlt : k < s.size
      · have Hq : Hid ((l ++ 34 :: Wd.quote (s.data.toList.take k)) ++ Wd.esc s[k] = l ++ 34 :: Wd.quote (s.data.toList.take (k + 1))) := hide (by
          rw [take_snoc s k hlt, Wd.quote_snoc]; simp)
        go_wp2_with fail
        refine (appendQuoted_any B m c base _ s[k] _ hown4 hB hmb).mono ?_
        rintro e w5 ⟨B5, m5, c5, rfl, hown5, hb5⟩
        rw [Hq.out] at hown5
        go_wp2
        go_roundw
        case rel => exact ⟨k + 1, m5, c5, B5, rfl, by go_num, by omega, hown5, hb4.trans hb5⟩
        case measure => simp [intOf]; omega
      · have hk' : s.data.toList.take k = s.data.toList := List.take_of_length_le (by rw [← hsz.out]; omega)
        rw [hk'] at hown4
        clear hk'
        go_wp2_with (at_builtin; refine wpList_append_rd rfl (.tmp 25) (.tmp 26) _ rfl byteTy rfl (hown4.alloc _) rfl (Row.new _ _ _) (by simp [Value.oneCell']) (by unfold maxLen; omega) (by omega) (by simp; omega) ?_; intro A3 c3 w3 hown3 hgrow3 hat3)
        go_ret
        refine ⟨A3, _, c3, rfl, ?_, below_own (hb4.alloc hB _) (hown4.alloc _) hgrow3 (by simp; omega)⟩
        have : bv (l ++ 34 :: Wd.quote s.data.toList) ++ [.int .u8 34] = bv (l ++ 34 :: (Wd.quote s.data.toList ++ [34])) := by
          simp [bv]
        rw [← this]
        exact hown3

/-- A string and an error code. -/
def StrPost (r : List UInt8 × Nat) (w : World) (e : Ending) (w' : World) : Prop := e = .returned (.tuple #[.string ⟨r.1.toArray⟩, .int .i64 (r.2 : Int)]) ∧ Below w.heap.size w w'
theorem StrPost.of {r : List UInt8 × Nat} {l : List UInt8} {er : Nat} {w w' : World} {e : Ending} (hr : r = (l, er)) (he : e = .returned (.tuple #[.string ⟨l.toArray⟩, .int .i64 (er : Int)])) (hb : Below w.heap.size w w') : StrPost r w e w' := by
  subst hr; exact ⟨he, hb⟩

namespace Wd
theorem join_none {l : List (List UInt8)} (h : ¬ 64 < l.length) (hj : joinG [] true l = none) : join l = ([], 3) := by unfold join; rw [if_neg h, hj]
theorem join_some {l : List (List UInt8)} {x : List UInt8} (h : ¬ 64 < l.length) (hj : joinG [] true l = some x) : join l = (x, 0) := by unfold join; rw [if_neg h, hj]
/-- A word more. -/
theorem join_step {l : List (List UInt8)} {k : Nat} {line : List UInt8} (hk : k < l.length) (h : joinG line (decide (k = 0)) (l.drop k) = joinG [] true l) :
    (4096 < (sep line (decide (k = 0)) ++ written l[k]).length → joinG [] true l = none) ∧ (¬ 4096 < (sep line (decide (k = 0)) ++ written l[k]).length → joinG (sep line (decide (k = 0)) ++ written l[k]) (decide (k + 1 = 0)) (l.drop (k + 1)) = joinG [] true l) := by
  rw [List.drop_eq_getElem_cons hk, joinG] at h
  constructor
  · intro h1; rw [← h, if_pos h1]
  · intro h1; rw [← h, if_neg h1]; rfl
theorem join_end {l : List (List UInt8)} {line : List UInt8} (h : joinG line (decide (l.length = 0)) (l.drop l.length) = joinG [] true l) : joinG [] true l = some line := by
  rw [← h, List.drop_length]; rfl
end Wd

set_option maxHeartbeats 2000000 in
theorem join_any (A : Option Addr) (n c : Nat) (l : List (List UInt8)) (w : World) (B : Nat) (hl : Strs w B A n l) (hB : B ≤ w.heap.size) (hn : n ≤ 9223372036854775807) (hw : ∀ x ∈ l, x.length ≤ 1000000) :
    Calls Tryz.prog 52 #[.slice A n c] w (StrPost (Wd.join l) w) := by
  have Hw := hide hw
  clear hw
  by_cases h64 : 64 < n
  · have hr : Wd.join l = ([], 3) := by unfold Wd.join; rw [if_pos (by rw [hl.len]; exact h64)]
    rw [hr]
    have d : decide ((64 : Int) < (n : Int)) = true := by simp; omega
    go_enter Tryz.func52, Tryz.ntmps52
    go_wp2
    go_ret2
    exact StrPost.of rfl rfl (Below.refl _ _)
  · have d : decide ((64 : Int) < (n : Int)) = false := by simp; omega
    have hn64 : n ≤ 64 := by omega
    have H64 : Hid (¬ 64 < l.length) := hide (by rw [hl.len]; exact h64)
    have hn0 := World.ownsRow_nil w w.heap.size 5 1
    have Hll := hide hl.len
    go_enter Tryz.func52, Tryz.ntmps52
    go_wp2_with fail
    go_loopw [4, 12] (fun s4 s12 wr => ∃ (k m c : Nat) (C : Option Addr) (line : List UInt8), s4 = .slice C m c ∧ s12 = .int .i64 (k : Int) ∧ k ≤ n ∧ m ≤ 4096 ∧ wr.ownsRow w.heap.size 5 1 (.slice C m c) m (bv line) ∧ Below w.heap.size w wr ∧ Hid (Wd.joinG line (decide (k = 0)) (l.drop k) = Wd.joinG [] true l)) (fun _ s12 _ => n - (intOf s12).toNat)
    case atStart => exact ⟨0, 0, 0, none, [], rfl, rfl, by omega, by omega, hn0, Below.refl _ _, hide rfl⟩
    case round =>
      obtain ⟨k, m, c1, C, line, rfl, rfl, hk, hm, hown, hb, HH⟩ := hrel
      have hBr : w.heap.size ≤ wr.heap.size := hb.size
      by_cases hlt : k < n
      · obtain ⟨ba, oa, hkl, rfl, hba, hca⟩ := hl.at_ hlt
        have hca' : wr.cell? ⟨ba, oa + k, none⟩ = some (.string ⟨l[k].toArray⟩) := (hb.cell (p := ⟨ba, oa + k, none⟩) (by show ba < _; omega)).trans hca
        by_cases h0 : k = 0
        · subst h0
          have hca0 : wr.cell? ⟨ba, oa, none⟩ = some (.string ⟨l[0].toArray⟩) := hca'
          have Hj1 : Hid (4096 < (line ++ Wd.written l[0]).length → Wd.joinG [] true l = none) := hide (Wd.join_step hkl HH.out).1
          have Hj2 : Hid (¬ 4096 < (line ++ Wd.written l[0]).length → Wd.joinG (line ++ Wd.written l[0]) false (l.drop 1) = Wd.joinG [] true l) := hide (Wd.join_step hkl HH.out).2
          clear HH
          go_wp2_with fail
          refine (appendWord_any C m c1 w.heap.size _ ⟨l[0].toArray⟩ _ hown hBr (by omega) (by rw [ba_size]; have := Hw.out _ (List.getElem_mem hkl); omega)).mono ?_
          rintro e w5 ⟨B5, m5, c5, rfl, hown5, hb5⟩
          have hm5 : (line ++ Wd.written l[0]).length = m5 := own_bytes hown5
          have hb5' := hb.trans hb5
          by_cases h4 : 4096 < m5
          · have d4 : decide ((4096 : Int) < (m5 : Int)) = true := by simp; omega
            have Hr := hide (Hj1.out (by omega))
            clear hm5 h4
            go_wp2
            go_ret2
            exact StrPost.of (Wd.join_none H64.out Hr.out) rfl hb5'
          · have d4 : decide ((4096 : Int) < (m5 : Int)) = false := by simp; omega
            have Hr := hide (Hj2.out (by omega))
            clear hm5
            have h4 : m5 ≤ 4096 := by omega
            go_wp2
            go_roundw
            case rel => exact ⟨1, m5, c5, B5, _, rfl, by go_num, by omega, by omega, hown5, hb5', Hr⟩
            case measure => simp [intOf]; omega
        · have dk : decide ((0 : Int) < (k : Int)) = true := by simp; omega
          have Hsep : Hid (Wd.sep line (decide (k = 0)) = line ++ [32]) := hide (by rw [decide_eq_false h0]; rfl)
          have Hj := Wd.join_step hkl HH.out
          have Hj1 := hide Hj.1
          have Hj2 := hide Hj.2
          clear Hj HH
          go_wp2_with (at_builtin; refine wpList_append_rd rfl (.tmp 19) (.tmp 20) _ rfl byteTy rfl (hown.alloc _) rfl (Row.new _ _ _) (by simp [Value.oneCell']) (by unfold maxLen; omega) (by omega) (by simp; omega) ?_; intro A3 c3 w3 hown3 hgrow3 hat3)
          have hb3 : Below w.heap.size w w3 := below_own (hb.alloc hBr _) (hown.alloc _) hgrow3 (by simp; omega)
          have hB3 := hb3.size
          have hown4 : w3.ownsRow w.heap.size 5 1 (.slice A3 (m + 1) c3) (m + 1) (bv (line ++ [32])) := by rw [bv_append]; exact hown3
          have hca3 : w3.cell? ⟨ba, oa + k, none⟩ = some (.string ⟨l[k].toArray⟩) := (hb3.cell (p := ⟨ba, oa + k, none⟩) (by show ba < _; omega)).trans hca
          clear hown3
          go_wp2_with fail
          refine (appendWord_any A3 (m + 1) c3 w.heap.size _ ⟨l[k].toArray⟩ _ hown4 hB3 (by omega) (by rw [ba_size]; have := Hw.out _ (List.getElem_mem hkl); omega)).mono ?_
          rintro e w5 ⟨B5, m5, c5, rfl, hown5, hb5⟩
          have hm5 : (line ++ [32] ++ Wd.written l[k]).length = m5 := own_bytes hown5
          have hb5' := hb3.trans hb5
          by_cases h4 : 4096 < m5
          · have d4 : decide ((4096 : Int) < (m5 : Int)) = true := by simp; omega
            have Hr := hide (Hj1.out (by rw [Hsep.out]; omega))
            clear hm5 h4
            go_wp2
            go_ret2
            exact StrPost.of (Wd.join_none H64.out Hr.out) rfl hb5'
          · have d4 : decide ((4096 : Int) < (m5 : Int)) = false := by simp; omega
            have Hr := hide (Hj2.out (by rw [Hsep.out]; omega))
            clear hm5
            have h4 : m5 ≤ 4096 := by omega
            go_wp2
            go_roundw
            case rel => exact ⟨k + 1, m5, c5, B5, _, rfl, by go_num, by omega, by omega, hown5, hb5', by rw [← Hsep.out]; exact Hr⟩
            case measure => simp [intOf]; omega
      · obtain rfl : k = n := by omega
        have hr := Wd.join_end (l := l) (line := line) (by rw [Hll.out]; exact HH.out)
        have Hr := hide (Wd.join_some H64.out hr)
        have hconv := run_string_rd (P := Tryz.prog) wr Tryz.underlying26 Tryz.underlying5 Tryz.underlying9 (c := c1) (Bytes.of_own hown)
        clear hr
        go_wp2
        go_ret2
        exact StrPost.of Hr.out rfl hb
end Go.Proofs.YtfjekckcpkkdiaaGreatDoor
