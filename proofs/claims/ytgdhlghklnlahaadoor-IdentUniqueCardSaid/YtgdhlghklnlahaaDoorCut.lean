/- Cutting a string at the first byte of a kind, and all its parts: mathematics, and strings.Cut's contract. -/
import Derived.Test.YtgdhlghklnlahaaDoorStr
import Derived.Test.YtgdhlghklnlahaaDoorShelf
import Derived.Lib.Bytealg
import Derived.Deep.QuietTactic
import Derived.BigQuiet
namespace Go.Proofs.YtgdhlghklnlahaaDoor
open Go.RowKit

namespace Ct
def no (b c : UInt8) : Bool := decide (c ≠ b)
/-- What is behind the first b. -/
def after (b : UInt8) (l : List UInt8) : List UInt8 := (l.dropWhile (no b)).drop 1
theorem index (b : UInt8) (l : List UInt8) : (Lib.indexByte l b = -1 ∧ l.takeWhile (no b) = l ∧ l.dropWhile (no b) = []) ∨ ∃ k : Nat, k < l.length ∧ Lib.indexByte l b = (k : Int) ∧ l.takeWhile (no b) = l.take k ∧ l.dropWhile (no b) = b :: l.drop (k + 1) := by
  induction l with
  | nil => left; simp [Lib.indexByte]
  | cons c l ih =>
    by_cases h : c = b
    · subst h
      right
      have hn : no c c = false := by simp [no]
      refine ⟨0, by simp, by simp [Lib.indexByte], ?_, ?_⟩
      · rw [List.takeWhile_cons, hn]; rfl
      · rw [List.dropWhile_cons, hn]; rfl
    · have hb : (c == b) = false := by simpa using h
      have hn : no b c = true := by simp [no, h]
      rcases ih with ⟨h1, h2, h3⟩ | ⟨k, hk, h1, h2, h3⟩
      · left
        refine ⟨by simp [Lib.indexByte, hb, h1], ?_, ?_⟩
        · rw [List.takeWhile_cons, if_pos hn, h2]
        · rw [List.dropWhile_cons, if_pos hn, h3]
      · right
        refine ⟨k + 1, by simpa using hk, ?_, ?_, ?_⟩
        · have : ((k : Int) == -1) = false := by simp
          simp [Lib.indexByte, hb, h1]
        · rw [List.takeWhile_cons, if_pos hn, h2]; rfl
        · rw [List.dropWhile_cons, if_pos hn, h3]; rfl
/-- The parts between the b's, from a beginning on. -/
def partsG (b : UInt8) (cur : List UInt8) : List UInt8 → List (List UInt8)
  | [] => [cur]
  | c :: r => if c = b then cur :: partsG b [] r else partsG b (cur ++ [c]) r
def parts (b : UInt8) (l : List UInt8) : List (List UInt8) := partsG b [] l
theorem partsG_yes (b : UInt8) (cur r : List UInt8) : partsG b cur (b :: r) = cur :: partsG b [] r := by rw [partsG, if_pos rfl]
theorem partsG_no (b : UInt8) (cur : List UInt8) (c : UInt8) (r : List UInt8) (h : c ≠ b) : partsG b cur (c :: r) = partsG b (cur ++ [c]) r := by rw [partsG, if_neg h]
theorem partsG_cut (b : UInt8) (cur l : List UInt8) : partsG b cur l = match l.dropWhile (no b) with
    | [] => [cur ++ l]
    | _ :: r => (cur ++ l.takeWhile (no b)) :: partsG b [] r := by
  induction l generalizing cur with
  | nil => simp [partsG]
  | cons c l ih =>
    by_cases h : c = b
    · subst h
      have hn : no c c = false := by simp [no]
      rw [partsG_yes, List.dropWhile_cons, List.takeWhile_cons, hn]
      simp
    · have hn : no b c = true := by simp [no, h]
      rw [partsG_no _ _ _ _ h, ih, List.dropWhile_cons, List.takeWhile_cons, if_pos hn, if_pos hn]
      cases l.dropWhile (no b) <;> simp
theorem parts_none (b : UInt8) (l : List UInt8) (h : l.dropWhile (no b) = []) : parts b l = [l] := by unfold parts; rw [partsG_cut, h]; rfl
theorem parts_some (b : UInt8) (l : List UInt8) (h : l.dropWhile (no b) ≠ []) : parts b l = l.takeWhile (no b) :: parts b (after b l) := by
  unfold parts after
  rw [partsG_cut]
  cases hd : l.dropWhile (no b) with
  | nil => exact absurd hd h
  | cons c r => simp
theorem partsG_le (b : UInt8) (cur l : List UInt8) : ∀ x ∈ partsG b cur l, x.length ≤ cur.length + l.length := by
  induction l generalizing cur with
  | nil => intro x hx; simp only [partsG, List.mem_singleton] at hx; subst hx; simp
  | cons c l ih =>
    intro x hx
    rw [partsG] at hx
    split at hx
    · rcases List.mem_cons.1 hx with rfl | hx
      · simp
      · have := ih [] x hx
        simp at this ⊢; omega
    · have := ih _ x hx
      simp at this ⊢; omega
theorem parts_le (b : UInt8) (l : List UInt8) : ∀ x ∈ parts b l, x.length ≤ l.length := fun x hx => by
  have := partsG_le b [] l x hx
  simpa using this
theorem partsG_pos (b : UInt8) (cur l : List UInt8) : 1 ≤ (partsG b cur l).length := by
  induction l generalizing cur with
  | nil => simp [partsG]
  | cons c l ih =>
    rw [partsG]
    split
    · simp
    · exact ih _
theorem part_snoc {l : List UInt8} {f k : Nat} {c : UInt8} (hf : f ≤ k) (hd : l.drop k = c :: l.drop (k + 1)) : (l.drop f).take (k + 1 - f) = (l.drop f).take (k - f) ++ [c] := by
  have hx : (l.drop f)[k - f]? = some c := by
    rw [List.getElem?_drop, show f + (k - f) = k by omega]
    have := congrArg (fun x => x[0]?) hd
    simpa using this
  rw [show k + 1 - f = (k - f) + 1 by omega, List.take_add_one, hx]
  rfl
end Ct

set_option maxHeartbeats 400000 in
theorem liteCutB_any (s : ByteArray) (b : UInt8) (w : World) (hs : s.size ≤ 9223372036854775800) :
    Calls Tryd.prog 33 #[.string s, .string ⟨#[b]⟩] w fun e w' => ∃ q f, e = .returned (.tuple #[.string ⟨(s.data.toList.takeWhile (Ct.no b)).toArray⟩, .string ⟨(Ct.after b s.data.toList).toArray⟩, .bool f]) ∧ w' = w.drewN q := by
  have hsz := Lib.size_eq s
  have hb1 : (⟨#[b]⟩ : ByteArray).size = 1 := rfl
  have hix := Ct.index b s.data.toList
  rcases hix with ⟨h1, h2, h3⟩ | ⟨k, hk, h1, h2, h3⟩
  · have H1 := hide h1
    have e1 : s = ⟨(s.data.toList.takeWhile (Ct.no b)).toArray⟩ := by rw [h2, Lib.mk_data]
    have e2 : Ct.after b s.data.toList = [] := by unfold Ct.after; rw [h3]; rfl
    have E1 := hide e1
    rw [e2]
    clear h1 h2 h3 e1 e2 hsz
    go_enter Tryd.func33, Tryd.ntmps33
    go_wp2_with fail
    refine (Tryd.stringslite_Index_one s b _).mono ?_
    rintro e w1 ⟨rfl, rfl⟩
    rw [H1.out]
    go_wp2
    go_ret3
    exact ⟨0, false, by rw [← E1.out]; rfl, rfl⟩
  · have H1 := hide h1
    have Hs := hide hsz
    have hk' : k < s.size := by omega
    have E1 : Hid (s.extract 0 k = ⟨(s.data.toList.takeWhile (Ct.no b)).toArray⟩) := hide (by rw [h2, Lib.extract_eq]; simp)
    have E2 : Hid (s.extract (k + 1) s.size = ⟨(Ct.after b s.data.toList).toArray⟩) := hide (by
      unfold Ct.after; rw [h3, Lib.extract_eq, List.take_of_length_le (by rw [List.length_drop, ← Hs.out]; exact Nat.le_refl _)]; rfl)
    clear h1 h2 h3 hsz hk
    go_enter Tryd.func33, Tryd.ntmps33
    go_wp2_with fail
    refine (Tryd.stringslite_Index_one s b _).mono ?_
    rintro e w1 ⟨rfl, rfl⟩
    rw [H1.out]
    go_wp2_with fail
    go_quiet (fail)
    go_wp2
    go_ret3
    exact ⟨nq, true, by rw [← E1.out, ← E2.out]; rfl, rfl⟩

theorem cutB_any (s : ByteArray) (b : UInt8) (w : World) (hs : s.size ≤ 9223372036854775800) :
    Calls Tryd.prog 25 #[.string s, .string ⟨#[b]⟩] w fun e w' => ∃ q f, e = .returned (.tuple #[.string ⟨(s.data.toList.takeWhile (Ct.no b)).toArray⟩, .string ⟨(Ct.after b s.data.toList).toArray⟩, .bool f]) ∧ w' = w.drewN q := by
  go_enter Tryd.func25, Tryd.ntmps25
  go_wp2_with fail
  refine (liteCutB_any s b _ hs).mono ?_
  rintro e w1 ⟨q, f, rfl, rfl⟩
  go_wp2
  go_ret3
  exact ⟨q, f, rfl, rfl⟩
end Go.Proofs.YtgdhlghklnlahaaDoor
