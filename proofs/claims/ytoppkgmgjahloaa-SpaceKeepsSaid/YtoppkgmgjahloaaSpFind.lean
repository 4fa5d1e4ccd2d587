/- Layer 7: Find, of package space and of the reference: contracts. -/
import Derived.Test.YtoppkgmgjahloaaSpRefValid
namespace Go.Proofs.Ytoppkgmgjahloaa
open Go.RowKit

set_option maxHeartbeats 4000000 in
theorem start_any (n : Nat) (hn : n ≤ 1000) (W : World) : Calls Try.prog 26 #[.int .i64 (n : Int)] W fun e w' => e = .returned (.int .i64 ((n : Int) * 16)) ∧ w' = W := by
  have hn' : (n : Int) ≤ 1000 := by omega
  go_enter Try.func26, Try.ntmps26
  go_wp2_with fail
  go_ret
  exact ⟨rfl, rfl⟩

/-- The page and the word of an address, or none. -/
def PlacePost (n : Nat) (a : Int) (w : World) (e : Ending) (w' : World) : Prop :=
  w' = w ∧ ((∃ m q r : Nat, a = (m : Int) ∧ m < 16 * n ∧ q = m / 16 ∧ r = m % 16 ∧ e = .returned (.tuple #[.int .i64 (q : Int), .int .i64 (r : Int), .bool true])) ∨ (¬ (0 ≤ a ∧ a < 16 * (n : Int)) ∧ e = .returned (.tuple #[.int .i64 0, .int .i64 0, .bool false])))
set_option maxRecDepth 100000 in
set_option maxHeartbeats 4000000 in
theorem place_any (a : Int) (n : Nat) (hn : n ≤ 16) (W : World) : Calls Try.prog 21 #[.int .i64 a, .int .i64 (n : Int)] W (PlacePost n a W) := by
  by_cases h0 : a < 0
  · have HF : Hid (¬ (0 ≤ a ∧ a < 16 * (n : Int))) := hide (by omega)
    go_enter Try.func21, Try.ntmps21
    go_wp2_with fail
    go_ret3
    exact ⟨rfl, .inr ⟨HF.out, rfl⟩⟩
  · obtain ⟨m, rfl⟩ := Int.eq_ofNat_of_zero_le (show 0 ≤ a by omega)
    by_cases h1 : m < 16 * n
    · have h1' : ¬ (n : Int) * 16 ≤ (m : Int) := by omega
      obtain ⟨q, hq⟩ : ∃ q, q = m / 16 := ⟨_, rfl⟩
      obtain ⟨r, hr⟩ : ∃ r, r = m % 16 := ⟨_, rfl⟩
      have HQ := hide hq
      have HR := hide hr
      have HM := hide h1
      have d1 : (m : Int) / 16 = (q : Int) := by omega
      have d2 : (m : Int).tdiv 16 = (q : Int) := by rw [Int.tdiv_eq_ediv_of_nonneg (by omega)]; exact d1
      have d3 : (m : Int) % 16 = (r : Int) := by omega
      have d4 : (m : Int).tmod 16 = (r : Int) := by rw [Int.tmod_eq_emod_of_nonneg (by omega)]; exact d3
      have hq16 : q < 16 := by omega
      have hr16 : r < 16 := by omega
      clear hq hr h1
      go_enter Try.func21, Try.ntmps21
      go_wp2_with fail
      refine (start_any n (by omega) _).mono ?_
      rintro e w1 ⟨rfl, rfl⟩
      go_wp2_with fail
      go_ret3
      exact ⟨by first | rfl | trivial, .inl ⟨m, q, r, rfl, HM.out, HQ.out, HR.out, rfl⟩⟩
    · have h1' : (n : Int) * 16 ≤ (m : Int) := by omega
      have HF : Hid (¬ (0 ≤ (m : Int) ∧ (m : Int) < 16 * (n : Int))) := hide (by omega)
      clear h1
      go_enter Try.func21, Try.ntmps21
      go_wp2_with fail
      refine (start_any n (by omega) _).mono ?_
      rintro e w1 ⟨rfl, rfl⟩
      go_wp2_with fail
      go_ret3
      exact ⟨by first | rfl | trivial, .inr ⟨HF.out, rfl⟩⟩

/-- An identifier, a word, an error. -/
def FindPost (r : Int × Int × Int) (w : World) (e : Ending) (w' : World) : Prop := e = .returned (.tuple #[.int .u64 r.1, .int .i64 r.2.1, .int .i64 r.2.2]) ∧ Below w.heap.size w w'
theorem FindPost.of {r : Int × Int × Int} {w w' : World} {e : Ending} {a b c : Int} (hr : r = (a, b, c)) (he : e = .returned (.tuple #[.int .u64 a, .int .i64 b, .int .i64 c])) (hb : Below w.heap.size w w') : FindPost r w e w' := by subst hr; exact ⟨he, hb⟩
theorem Sp.find_bad {l : List Sp.Ref} (h : ¬ Sp.Ok l) (a : Int) : Sp.find l a = (0, 0, 1) := by unfold Sp.find; rw [if_neg h]
theorem Sp.find_out {l : List Sp.Ref} (h : Sp.Ok l) {a : Int} (ha : ¬ (0 ≤ a ∧ a < 16 * (l.length : Int))) : Sp.find l a = (0, 0, 11) := by unfold Sp.find; rw [if_pos h, if_neg ha]
theorem Sp.find_at {l : List Sp.Ref} (h : Sp.Ok l) {m : Nat} (hk : m / 16 < l.length) : Sp.find l (m : Int) = (l[m / 16].id, ((m % 16 : Nat) : Int), 0) := by
  unfold Sp.find
  rw [if_pos h, if_pos (by omega)]
  have e1 : ((m : Int) / 16).toNat = m / 16 := by omega
  have e2 : (m : Int) % 16 = ((m % 16 : Nat) : Int) := by omega
  rw [e1, e2, List.getD_eq_getElem?_getD, List.getElem?_eq_getElem hk]
  rfl
set_option maxRecDepth 100000 in
set_option maxHeartbeats 4000000 in
theorem find_any (l : List Sp.Ref) (A : Option Addr) (n cap : Nat) (a : Int) (W : World) (h : Refs W W.heap.size A n l) (hn : n ≤ cap ∧ cap ≤ 9223372036854775807) :
    Calls Try.prog 9 #[.slice A n cap, .int .i64 a] W (FindPost (Sp.find l a) W) := by
  have hl := h.len
  have HR := hide h
  clear h
  go_enter Try.func9, Try.ntmps9
  go_wp2_with fail
  refine (valid_any l A n cap _ HR.out hn).mono ?_
  rintro e w1 ⟨rfl, hb1⟩
  have HB1 := hide hb1
  clear hb1
  by_cases hok : Sp.Ok l
  · have h16 : n ≤ 16 := by have := hok.1; omega
    rw [decide_eq_true hok]
    have HK := hide hok
    clear hok
    go_wp2_with fail
    refine (place_any a n h16 _).mono ?_
    rintro e w2 ⟨rfl, ⟨m, q, r, rfl, hm, hq, hr, rfl⟩ | ⟨ha, rfl⟩⟩
    · obtain ⟨b, o, hkl, rfl, hb, c0, c1⟩ := (HR.out.below HB1.out).at_ (i := q) (by omega)
      have HF : Hid (Sp.find l (m : Int) = (l[q].id, (r : Int), 0)) := hide (by subst hq hr; exact Sp.find_at HK.out hkl)
      obtain ⟨x, hx⟩ : ∃ x, l[q] = x := ⟨_, rfl⟩
      rw [hx] at c0 c1 HF
      have hqn : (q : Int) < (n : Int) := by omega
      clear hx hm hq hr
      go_wp2_with fail
      go_ret3
      exact FindPost.of HF.out rfl HB1.out
    · have HF : Hid (Sp.find l a = (0, 0, 11)) := hide (Sp.find_out HK.out (by rw [hl]; exact ha))
      clear ha
      go_wp2_with fail
      go_ret3
      exact FindPost.of HF.out rfl HB1.out
  · have HF : Hid (Sp.find l a = (0, 0, 1)) := hide (Sp.find_bad hok a)
    rw [decide_eq_false hok]
    clear hok
    go_wp2_with fail
    go_ret3
    exact FindPost.of HF.out rfl HB1.out
set_option maxRecDepth 100000 in
set_option maxHeartbeats 4000000 in
theorem refFind_any (l : List Sp.Ref) (A : Option Addr) (n cap : Nat) (a : Int) (W : World) (h : Refs W W.heap.size A n l) (hn : n ≤ cap ∧ cap ≤ 9223372036854775807) :
    Calls Try.prog 10 #[.slice A n cap, .int .i64 a] W (FindPost (Sp.find l a) W) := by
  have hl := h.len
  have HR := hide h
  clear h
  go_enter Try.func10, Try.ntmps10
  go_wp2_with fail
  refine (refValid_any l A n cap _ HR.out hn).mono ?_
  rintro e w1 ⟨rfl, hb1⟩
  have HB1 := hide hb1
  clear hb1
  by_cases hok : Sp.Ok l
  · have h16 : n ≤ 16 := by have := hok.1; omega
    rw [decide_eq_true hok]
    have HK := hide hok
    clear hok
    by_cases ha : 0 ≤ a ∧ a < 16 * (n : Int)
    · obtain ⟨m, rfl⟩ := Int.eq_ofNat_of_zero_le ha.1
      obtain ⟨q, hq⟩ : ∃ q, q = m / 16 := ⟨_, rfl⟩
      obtain ⟨r, hr⟩ : ∃ r, r = m % 16 := ⟨_, rfl⟩
      have d1 : (m : Int) / 16 = (q : Int) := by omega
      have d2 : (m : Int).tdiv 16 = (q : Int) := by rw [Int.tdiv_eq_ediv_of_nonneg (by omega)]; exact d1
      have d3 : (m : Int) % 16 = (r : Int) := by omega
      have d4 : (m : Int).tmod 16 = (r : Int) := by rw [Int.tmod_eq_emod_of_nonneg (by omega)]; exact d3
      obtain ⟨b, o, hkl, rfl, hb, c0, c1⟩ := (HR.out.below HB1.out).at_ (i := q) (by omega)
      have HF : Hid (Sp.find l (m : Int) = (l[q].id, (r : Int), 0)) := hide (by subst hq hr; exact Sp.find_at HK.out hkl)
      obtain ⟨x, hx⟩ : ∃ x, l[q] = x := ⟨_, rfl⟩
      rw [hx] at c0 c1 HF
      have hqn : (q : Int) < (n : Int) := by omega
      have h1' : ¬ (n : Int) * 16 ≤ (m : Int) := by omega
      have hr16 : r < 16 := by omega
      clear hx hq hr ha
      go_wp2_with fail
      go_ret3
      exact FindPost.of HF.out rfl HB1.out
    · have HF : Hid (Sp.find l a = (0, 0, 11)) := hide (Sp.find_out HK.out (by rw [hl]; exact ha))
      by_cases h0 : a < 0
      · clear ha
        go_wp2_with fail
        go_ret3
        exact FindPost.of HF.out rfl HB1.out
      · have h1' : (n : Int) * 16 ≤ a := by omega
        clear ha
        go_wp2_with fail
        go_ret3
        exact FindPost.of HF.out rfl HB1.out
  · have HF : Hid (Sp.find l a = (0, 0, 1)) := hide (Sp.find_bad hok a)
    rw [decide_eq_false hok]
    clear hok
    go_wp2_with fail
    go_ret3
    exact FindPost.of HF.out rfl HB1.out
end Go.Proofs.Ytoppkgmgjahloaa
