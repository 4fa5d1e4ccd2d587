/- Layer 2, the lines of a text: contracts of words.Lines and of the document's own answer. -/
import Derived.Test.YtfjekckcpkkdiaaGreatDoorWordsRef
namespace Go.Proofs.YtfjekckcpkkdiaaGreatDoor
open Go.RowKit

namespace Wd
theorem index_10 (l : List UInt8) : (Lib.indexByte l 10 = -1 ∧ l.takeWhile no10 = l ∧ l.dropWhile no10 = []) ∨ ∃ k : Nat, k < l.length ∧ Lib.indexByte l 10 = (k : Int) ∧ l.takeWhile no10 = l.take k ∧ l.dropWhile no10 = 10 :: l.drop (k + 1) := by
  induction l with
  | nil => left; simp [Lib.indexByte]
  | cons c l ih =>
    by_cases h : c = 10
    · subst h
      right
      refine ⟨0, by simp, rfl, rfl, rfl⟩
    · have hb : (c == 10) = false := by simpa using h
      have hn : no10 c = true := by
        have : c.toNat ≠ 10 := fun e => h (UInt8.toNat_inj.1 e)
        simp [no10, this]
      rcases ih with ⟨h1, h2, h3⟩ | ⟨k, hk, h1, h2, h3⟩
      · left
        refine ⟨by simp [Lib.indexByte, hb, h1], ?_, ?_⟩
        · rw [List.takeWhile_cons, if_pos hn, h2]
        · rw [List.dropWhile_cons, if_pos hn, h3]
      · right
        refine ⟨k + 1, by simpa using hk, ?_, ?_, ?_⟩
        · have : ((k : Int) == -1) = false := by simp
          simp [Lib.indexByte, hb, h1]
        · rw [List.takeWhile_cons, if_pos hn, h2]; rfl
        · rw [List.dropWhile_cons, if_pos hn, h3]; rfl
/-- What is behind the first line feed. -/
def after (l : List UInt8) : List UInt8 := (l.dropWhile no10).drop 1
theorem lines_step (l : List UInt8) (h : l ≠ []) : linesG [] l = l.takeWhile no10 :: linesG [] (after l) := by
  rw [linesG_cut]
  unfold after
  cases hd : l.dropWhile no10 with
  | nil =>
    have : l.takeWhile no10 = l := by
      have := List.takeWhile_append_dropWhile (p := no10) (l := l)
      rw [hd, List.append_nil] at this
      exact this
    simp [h, this, linesG]
  | cons c r => simp
theorem after_lt (l : List UInt8) (h : l ≠ []) : (after l).length < l.length := by
  have h1 := (List.dropWhile_sublist no10 (l := l)).length_le
  have h2 : 0 < l.length := List.length_pos_iff.2 h
  unfold after
  rw [List.length_drop]
  omega
end Wd

set_option maxHeartbeats 400000 in
theorem liteCut_any (s : ByteArray) (w : World) (hs : s.size ≤ 9223372036854775800) :
    Calls Tryz.prog 68 #[.string s, .string ⟨#[10]⟩] w fun e w' => ∃ q f, e = .returned (.tuple #[.string ⟨(s.data.toList.takeWhile Wd.no10).toArray⟩, .string ⟨(Wd.after s.data.toList).toArray⟩, .bool f]) ∧ w' = w.drewN q := by
  have hsz := Lib.size_eq s
  have hix := Wd.index_10 s.data.toList
  rcases hix with ⟨h1, h2, h3⟩ | ⟨k, hk, h1, h2, h3⟩
  · have H1 := hide h1
    have e1 : s = ⟨(s.data.toList.takeWhile Wd.no10).toArray⟩ := by rw [h2, Lib.mk_data]
    have e2 : Wd.after s.data.toList = [] := by unfold Wd.after; rw [h3]; rfl
    have E1 := hide e1
    rw [e2]
    clear h1 h2 h3 e1 e2 hsz
    go_enter Tryz.func68, Tryz.ntmps68
    go_wp2_with fail
    refine (Tryz.stringslite_Index_one s 10 _).mono ?_
    rintro e w1 ⟨rfl, rfl⟩
    rw [H1.out]
    go_wp2
    go_ret3
    exact ⟨0, false, by rw [← E1.out]; rfl, rfl⟩
  · have H1 := hide h1
    have Hs := hide hsz
    have hk' : k < s.size := by omega
    have E1 : Hid (s.extract 0 k = ⟨(s.data.toList.takeWhile Wd.no10).toArray⟩) := hide (by rw [h2, Lib.extract_eq]; simp)
    have E2 : Hid (s.extract (k + 1) s.size = ⟨(Wd.after s.data.toList).toArray⟩) := hide (by
      unfold Wd.after; rw [h3, Lib.extract_eq, List.take_of_length_le (by rw [List.length_drop, ← Hs.out]; exact Nat.le_refl _)]; rfl)
    clear h1 h2 h3 hsz hk
    go_enter Tryz.func68, Tryz.ntmps68
    go_wp2_with fail
    refine (Tryz.stringslite_Index_one s 10 _).mono ?_
    rintro e w1 ⟨rfl, rfl⟩
    rw [H1.out]
    go_wp2_with fail
    go_quiet (fail)
    go_wp2
    go_ret3
    exact ⟨nq, true, by rw [← E1.out, ← E2.out]; rfl, rfl⟩

theorem cut_any (s : ByteArray) (w : World) (hs : s.size ≤ 9223372036854775800) :
    Calls Tryz.prog 57 #[.string s, .string ⟨#[10]⟩] w fun e w' => ∃ q f, e = .returned (.tuple #[.string ⟨(s.data.toList.takeWhile Wd.no10).toArray⟩, .string ⟨(Wd.after s.data.toList).toArray⟩, .bool f]) ∧ w' = w.drewN q := by
  go_enter Tryz.func57, Tryz.ntmps57
  go_wp2_with fail
  refine (liteCut_any s _ hs).mono ?_
  rintro e w1 ⟨q, f, rfl, rfl⟩
  go_wp2
  go_ret3
  exact ⟨q, f, rfl, rfl⟩
theorem clone_any (s : ByteArray) (w : World) (hs : s.size ≤ 281474976710656) :
    Calls Tryz.prog 58 #[.string s] w fun e w' => e = .returned (.string s) ∧ Below w.heap.size w w' := by
  go_enter Tryz.func58, Tryz.ntmps58
  go_wp2_with fail
  refine (Tryz.stringslite_Clone s _ hs).mono ?_
  rintro e w1 ⟨rfl, hb⟩
  go_wp2
  go_ret
  exact ⟨rfl, hb⟩

/-- Lines. -/
def LinesPost (r : List (List UInt8)) (w : World) (e : Ending) (w' : World) : Prop :=
  ∃ A c, e = .returned (.slice A r.length c) ∧ r.length ≤ c ∧ c ≤ 9223372036854775807 ∧ Strs w' w'.heap.size A r.length r ∧ Below w.heap.size w w'
theorem LinesPost.of {r l : List (List UInt8)} {n c : Nat} {w w' : World} {e : Ending} {A : Option Addr} (hr : l = r) (he : e = .returned (.slice A n c)) (hn : n ≤ c) (hc : c ≤ 9223372036854775807) (hs : Strs w' w'.heap.size A n l) (hb : Below w.heap.size w w') : LinesPost r w e w' := by
  subst hr
  obtain rfl := hs.len
  exact ⟨A, c, he, hn, hc, hs, hb⟩

set_option maxHeartbeats 1000000 in
theorem lines_any (s : ByteArray) (w : World) (hs : s.size ≤ 1099511627776) :
    Calls Tryz.prog 38 #[.string s] w (LinesPost (Wd.lines s.data.toList) w) := by
  have hsz := hide (Lib.size_eq s)
  have hn0 := World.ownsRow_nil w w.heap.size 9 1
  go_enter Tryz.func38, Tryz.ntmps38
  go_wp2_with fail
  go_loopw [0, 3] (fun s0 s3 wr => ∃ (rest : List UInt8) (n c : Nat) (A : Option Addr) (out : List (List UInt8)), s0 = .string ⟨rest.toArray⟩ ∧ s3 = .slice A n c ∧ n + rest.length ≤ s.size ∧ wr.ownsRow w.heap.size 9 1 (.slice A n c) n (sv out) ∧ Below w.heap.size w wr ∧ Hid (out ++ Wd.linesG [] rest = Wd.lines s.data.toList)) (fun s0 _ _ => match s0 with | .string b => b.size | _ => 0)
  case atStart => exact ⟨s.data.toList, 0, 0, none, [], by rw [Lib.mk_data], rfl, by rw [← hsz.out]; omega, hn0, Below.refl _ _, hide rfl⟩
  case round =>
    obtain ⟨rest, n, c, A, out, rfl, rfl, hn, hown, hb, HH⟩ := hrel
    have hB : w.heap.size ≤ wr.heap.size := hb.size
    by_cases h0 : rest = []
    · subst h0
      go_wp2
      go_ret
      exact LinesPost.of (by rw [← HH.out]; simp [Wd.linesG]) rfl (own_cap hown) (own_cap63 hown) (Strs.of_own hown) hb
    · have e0 : (⟨rest.toArray⟩ : ByteArray).toList.isEmpty = false := by rw [ba_list]; simpa using h0
      have hst := Wd.lines_step rest h0
      have hlt := Wd.after_lt rest h0
      have Hst := hide hst
      have H0 := hide h0
      have e0' : rest.isEmpty = false := by simpa using h0
      clear hst h0
      go_wp2_with fail
      refine (cut_any ⟨rest.toArray⟩ _ (by rw [ba_size]; omega)).mono ?_
      rintro e w1 ⟨q, f, rfl, rfl⟩
      go_wp2_with fail
      refine (clone_any ⟨(rest.takeWhile Wd.no10).toArray⟩ _ ?_).mono ?_
      · rw [ba_size]
        have := (List.takeWhile_sublist Wd.no10 (l := rest)).length_le
        omega
      rintro e w2 ⟨rfl, hb2⟩
      have hown2 := own_below (own_drewN hown q) hb2
      have hbw := (below_drewN hb q).trans (hb2.mono hB)
      have hB2 := hbw.size
      go_wp2_with (at_builtin; refine wpList_append_rd rfl (.tmp 15) (.tmp 18) _ rfl strTy rfl (hown2.alloc _) rfl (Row.new _ _ _) (by simp [Value.oneCell']) (by unfold maxLen; omega) (by omega) (by simp; omega) ?_; intro A3 c3 w3 hown3 hgrow3 hat3)
      have hb3 : Below w.heap.size w w3 := below_own (hbw.alloc hB2 _) (hown2.alloc _) hgrow3 (by simp; omega)
      rw [sv_snoc] at hown3
      go_roundw
      case rel => exact ⟨Wd.after rest, n + 1, c3, A3, out ++ [rest.takeWhile Wd.no10], rfl, rfl, by omega, hown3, hb3, hide (by rw [← HH.out, Hst.out]; simp)⟩
      case measure => simp only [ba_size]; omega

namespace Wd
theorem linesG_10 (cur r : List UInt8) : linesG cur (10 :: r) = cur :: linesG [] r := rfl
theorem linesG_no (cur : List UInt8) (c : UInt8) (r : List UInt8) (h : c ≠ 10) : linesG cur (c :: r) = linesG (cur ++ [c]) r := by
  have : c.toNat ≠ 10 := fun e => h (UInt8.toNat_inj.1 e)
  rw [linesG, if_neg this]
theorem part_snoc {l : List UInt8} {f k : Nat} {c : UInt8} (hf : f ≤ k) (hd : l.drop k = c :: l.drop (k + 1)) : (l.drop f).take (k + 1 - f) = (l.drop f).take (k - f) ++ [c] := by
  have hx : (l.drop f)[k - f]? = some c := by
    rw [List.getElem?_drop, show f + (k - f) = k by omega]
    have := congrArg (fun x => x[0]?) hd
    simpa using this
  rw [show k + 1 - f = (k - f) + 1 by omega, List.take_add_one, hx]
  rfl
end Wd

set_option maxHeartbeats 1000000 in
theorem refLines_any (s : ByteArray) (w : World) (hs : s.size ≤ 1099511627776) :
    Calls Tryz.prog 40 #[.string s] w (LinesPost (Wd.lines s.data.toList) w) := by
  have hsz := hide (Lib.size_eq s)
  have hn0 := World.ownsRow_nil w w.heap.size 9 1
  go_enter Tryz.func40, Tryz.ntmps40
  go_wp2_with fail
  go_loopw [3, 4, 5] (fun s3 s4 s5 wr => ∃ (k f n c : Nat) (A : Option Addr) (out : List (List UInt8)), s3 = .slice A n c ∧ s4 = .int .i64 (f : Int) ∧ s5 = .int .i64 (k : Int) ∧ f ≤ k ∧ k ≤ s.size ∧ n ≤ f ∧ wr.ownsRow w.heap.size 9 1 (.slice A n c) n (sv out) ∧ Below w.heap.size w wr ∧ Hid (out ++ Wd.linesG ((s.data.toList.drop f).take (k - f)) (s.data.toList.drop k) = Wd.lines s.data.toList)) (fun _ _ s5 _ => s.size - (intOf s5).toNat)
  case atStart => exact ⟨0, 0, 0, 0, none, [], rfl, rfl, rfl, by omega, by omega, by omega, hn0, Below.refl _ _, hide rfl⟩
  case round =>
    obtain ⟨k, f, n, c, A, out, rfl, rfl, rfl, hfk, hk, hnf, hown, hb, HH⟩ := hrel
    have hB : w.heap.size ≤ wr.heap.size := hb.size
    by_cases hlt : k < s.size
    · have Hd := hide (drop_cons s k hlt)
      by_cases h10 : s[k] = 10
      · have n1 : (s[k].toNat : Int) = 10 := by rw [h10]; rfl
        have H2 : Hid ((out ++ [(s.data.toList.drop f).take (k - f)]) ++ Wd.linesG [] (s.data.toList.drop (k + 1)) = Wd.lines s.data.toList) := hide (by
          rw [← HH.out, Hd.out, h10, Wd.linesG_10]; simp)
        have E1 := Lib.extract_eq s f k
        clear h10
        go_wp2_with (at_builtin; refine wpList_append_rd rfl (.tmp 16) (.tmp 21) _ rfl strTy rfl (hown.alloc _) rfl (Row.new _ _ _) (by simp [Value.oneCell']) (by unfold maxLen; omega) (by omega) (by simp; omega) ?_; intro A3 c3 w3 hown3 hgrow3 hat3)
        have hb3 : Below w.heap.size w w3 := below_own (hb.alloc hB _) (hown.alloc _) hgrow3 (by simp; omega)
        rw [sv_snoc] at hown3
        go_roundw
        case rel => exact ⟨k + 1, k + 1, n + 1, c3, A3, _, rfl, by go_num, by go_num, by omega, by omega, by omega, hown3, hb3, hide (by rw [← H2.out]; simp)⟩
        case measure => simp [intOf]; omega
      · have e10 : ((s[k].toNat : Int) == 10) = false := by
          have n1 : s[k].toNat ≠ 10 := ne_nat h10
          simp; omega
        have H2 : Hid (out ++ Wd.linesG ((s.data.toList.drop f).take (k + 1 - f)) (s.data.toList.drop (k + 1)) = Wd.lines s.data.toList) := hide (by
          rw [← HH.out, Wd.part_snoc hfk Hd.out, Hd.out, Wd.linesG_no _ _ _ h10])
        clear h10
        go_wp2
        go_roundw
        case rel => exact ⟨k + 1, f, n, c, A, out, rfl, rfl, by go_num, by omega, by omega, hnf, hown, hb, H2⟩
        case measure => simp [intOf]; omega
    · obtain rfl : k = s.size := by omega
      have H2 : Hid (out ++ Wd.linesG (s.data.toList.drop f) [] = Wd.lines s.data.toList) := hide (by
        have D0 : s.data.toList.drop s.size = [] := List.drop_eq_nil_of_le (by rw [← hsz.out]; exact Nat.le_refl _)
        have T0 : (s.data.toList.drop f).take (s.size - f) = s.data.toList.drop f := List.take_of_length_le (by rw [List.length_drop, ← hsz.out]; exact Nat.le_refl _)
        rw [← HH.out, D0, T0])
      have Hlen : Hid ((s.data.toList.drop f).length = s.size - f) := hide (by rw [List.length_drop, ← hsz.out])
      by_cases hf : f < s.size
      · have E1 : s.extract f s.size = ⟨(s.data.toList.drop f).toArray⟩ := by
          rw [Lib.extract_eq, List.take_of_length_le (by rw [List.length_drop, ← hsz.out]; exact Nat.le_refl _)]
        have H3 : Hid (out ++ [s.data.toList.drop f] = Wd.lines s.data.toList) := hide (by
          rw [← H2.out, Wd.linesG, if_neg (fun e => by have := Hlen.out; rw [e] at this; simp at this; omega)])
        go_wp2_with (at_builtin; refine wpList_append_rd rfl (.tmp 29) (.tmp 33) _ rfl strTy rfl (hown.alloc _) rfl (Row.new _ _ _) (by simp [Value.oneCell']) (by unfold maxLen; omega) (by omega) (by simp; omega) ?_; intro A3 c3 w3 hown3 hgrow3 hat3)
        have hb3 : Below w.heap.size w w3 := below_own (hb.alloc hB _) (hown.alloc _) hgrow3 (by simp; omega)
        rw [sv_snoc] at hown3
        go_ret
        exact LinesPost.of H3.out rfl (own_cap hown3) (own_cap63 hown3) (Strs.of_own hown3) hb3
      · have H3 : Hid (out = Wd.lines s.data.toList) := hide (by
          rw [← H2.out, List.drop_eq_nil_of_le (by rw [← hsz.out]; omega)]; simp [Wd.linesG])
        go_wp2
        go_ret
        exact LinesPost.of H3.out rfl (own_cap hown) (own_cap63 hown) (Strs.of_own hown) hb
end Go.Proofs.YtfjekckcpkkdiaaGreatDoor
