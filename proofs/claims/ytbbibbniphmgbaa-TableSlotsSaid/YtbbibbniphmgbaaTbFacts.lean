/- Layer 10, plain mathematics: which descriptors are used, with one slot more, with one less. -/
import Derived.Test.YtbbibbniphmgbaaTbClear
namespace Go.Proofs.Ytbbibbniphmgbaa
open Go.RowKit

/-- Which descriptors of a table are used. -/
def Tb.used (t : List Tb.Slot) (k : Nat) : Bool := (t.getD k Tb.Slot.zero).kind != 0
theorem Tb.used_zero : Tb.used [] = fun _ => false := by funext k; simp [Tb.used, Tb.Slot.zero]
theorem Tb.used_at {t : List Tb.Slot} {k : Nat} (hk : k < t.length) : Tb.used t k = (t[k].kind != 0) := by
  unfold Tb.used
  rw [List.getD_eq_getElem?_getD, List.getElem?_eq_getElem hk]
  rfl
theorem Tb.used_out {t : List Tb.Slot} {k : Nat} (hk : t.length ≤ k) : Tb.used t k = false := by
  unfold Tb.used
  rw [List.getD_eq_getElem?_getD, List.getElem?_eq_none hk]
  rfl
theorem Tb.used_get (t : List Tb.Slot) (k : Nat) : (Tb.get t (k : Int)).2 = if Tb.used t k then 0 else 6 := by
  by_cases hk : k < t.length
  · by_cases hz : t[k].kind = 0
    · rw [Tb.get_none hk hz, Tb.used_at hk]; simp [hz]
    · rw [Tb.get_at hk hz, Tb.used_at hk]; simp [hz]
  · rw [Tb.get_out (by omega), Tb.used_out (by omega)]; simp
theorem Tb.get_used {t : List Tb.Slot} {k : Nat} (h : Tb.used t k = true) : ∃ s, Tb.get t (k : Int) = (s, 0) := by
  have := Tb.used_get t k
  rw [if_pos h] at this
  exact ⟨_, by rw [← this]⟩
theorem Tb.get_unused {t : List Tb.Slot} {k : Nat} (h : Tb.used t k = false) : Tb.get t (k : Int) = (Tb.Slot.zero, 6) := by
  by_cases hk : k < t.length
  · rw [Tb.used_at hk] at h
    exact Tb.get_none hk (by simpa using h)
  · exact Tb.get_out (by omega)
/-- The least free place. -/
theorem Tb.free_used {t : List Tb.Slot} {k : Nat} (h : Tb.used t k = false) (hb : ∀ j, j < k → Tb.used t j = true) : Tb.free t = k := by
  rcases Nat.lt_or_ge k t.length with hk | hk
  · refine Tb.free_eq hk ?_ ?_
    · rw [Tb.used_at hk] at h; simpa using h
    · intro j hj hjk
      have := hb j hjk
      rw [Tb.used_at hj] at this
      simpa using this
  · rcases Nat.eq_or_lt_of_le hk with e | e
    · rw [← e]
      refine Tb.free_none fun j hj => ?_
      have := hb j (by omega)
      rw [Tb.used_at hj] at this
      simpa using this
    · have := hb t.length e
      rw [Tb.used_out (Nat.le_refl _)] at this
      cases this
theorem Tb.valid_sub {t : List Tb.Slot} (h : Tb.Valid t) {k : Nat} {s : Tb.Slot} (hs : s.Ok) : (∀ x ∈ (if k < t.length then t.set k s else t ++ [s]), x.Ok) := by
  intro x hx
  split at hx
  · rcases List.mem_or_eq_of_mem_set hx with h1 | rfl
    · exact h.2.1 x h1
    · exact hs
  · rcases List.mem_append.1 hx with h1 | h1
    · exact h.2.1 x h1
    · rw [List.mem_singleton.1 h1]; exact hs
/-- A table with one more slot is a table. -/
theorem Tb.putL_valid {t : List Tb.Slot} (h : Tb.Valid t) {s : Tb.Slot} (hs : s.Ok) (h0 : s.kind ≠ 0) (hf : Tb.free t < 16) : Tb.Valid (Tb.putL t s) := by
  unfold Tb.putL
  refine ⟨?_, Tb.valid_sub h hs, ?_⟩
  · split
    · rw [List.length_set]; exact h.1
    · have := Tb.free_le t
      have := h.1
      rw [List.length_append, List.length_singleton]; omega
  · split
    · rename_i hl
      have hn : 0 < t.length := by omega
      rw [Tb.lastOf_eq (t := t.set (Tb.free t) s) (n := t.length) (by simp) hn, List.getElem_set]
      split
      · exact h0
      · have := h.2.2
        rw [Tb.lastOf_eq rfl hn] at this
        exact this
    · rw [Tb.lastOf_snoc]; exact h0
theorem Tb.putL_used {t : List Tb.Slot} {s : Tb.Slot} (h0 : s.kind ≠ 0) {k : Nat} (hk : Tb.free t = k) (j : Nat) : Tb.used (Tb.putL t s) j = if j = k then true else Tb.used t j := by
  subst hk
  unfold Tb.putL
  have hle := Tb.free_le t
  split
  · rename_i hl
    by_cases hj : j < t.length
    · rw [Tb.used_at (by simpa using hj), Tb.used_at hj, List.getElem_set]
      by_cases e : Tb.free t = j
      · rw [if_pos e, if_pos e.symm]; simpa using h0
      · rw [if_neg e, if_neg (fun x => e x.symm)]
    · rw [Tb.used_out (by simp; omega), Tb.used_out (by omega), if_neg (by omega)]
  · have hfl : Tb.free t = t.length := by omega
    by_cases e : j = Tb.free t
    · rw [if_pos e, Tb.used_at (by simp; omega), List.getElem_append_right (by omega)]
      simpa using h0
    · rw [if_neg e]
      by_cases hj : j < t.length
      · rw [Tb.used_at (by simp; omega), Tb.used_at hj, List.getElem_append_left hj]
      · rw [Tb.used_out (by simp; omega), Tb.used_out (by omega)]
/-- What trimming leaves. -/
theorem Tb.trim_pre (t : List Tb.Slot) : ∃ m, m ≤ t.length ∧ Tb.trim t = t.take m ∧ (∀ j (hj : j < t.length), m ≤ j → t[j].kind = 0) ∧ (Tb.lastOf (t.take m)).kind ≠ 0 := by
  have key : ∀ m, m ≤ t.length → (∀ j (hj : j < t.length), m ≤ j → t[j].kind = 0) → ∃ m', m' ≤ t.length ∧ (∀ j (hj : j < t.length), m' ≤ j → t[j].kind = 0) ∧ (Tb.lastOf (t.take m')).kind ≠ 0 := by
    intro m
    induction m with
    | zero => intro _ h; exact ⟨0, Nat.zero_le _, h, by rw [List.take_zero]; decide⟩
    | succ m ih =>
      intro hm h
      by_cases hz : (t[m]'(by omega)).kind = 0
      · refine ih (by omega) fun j hj hmj => ?_
        rcases Nat.eq_or_lt_of_le hmj with e | e
        · subst e; exact hz
        · exact h j hj e
      · refine ⟨m + 1, hm, h, ?_⟩
        rw [Tb.lastOf_eq (t := t.take (m + 1)) (n := m + 1) (by rw [List.length_take]; omega) (by omega), List.getElem_take]
        exact hz
  obtain ⟨m, h1, h2, h3⟩ := key t.length (Nat.le_refl _) (fun j hj h => by omega)
  exact ⟨m, h1, Tb.trim_take h1 h2 h3, h2, h3⟩
theorem Tb.trim_used (t : List Tb.Slot) (j : Nat) : Tb.used (Tb.trim t) j = Tb.used t j := by
  obtain ⟨m, h1, h2, h3, _⟩ := Tb.trim_pre t
  rw [h2]
  by_cases hj : j < m
  · rw [Tb.used_at (by rw [List.length_take]; omega), Tb.used_at (by omega), List.getElem_take]
  · rw [Tb.used_out (by rw [List.length_take]; omega)]
    by_cases hj2 : j < t.length
    · rw [Tb.used_at hj2]
      have := h3 j hj2 (by omega)
      simp [this]
    · rw [Tb.used_out (by omega)]
theorem Tb.set_used (t : List Tb.Slot) (k j : Nat) : Tb.used (t.set k Tb.Slot.zero) j = if j = k then false else Tb.used t j := by
  by_cases hj : j < t.length
  · rw [Tb.used_at (by simpa using hj), Tb.used_at hj, List.getElem_set]
    by_cases e : k = j
    · rw [if_pos e, if_pos e.symm]; rfl
    · rw [if_neg e, if_neg (fun x => e x.symm)]
  · rw [Tb.used_out (by simp; omega), Tb.used_out (by omega)]; simp
theorem Tb.trim_valid {t : List Tb.Slot} (h : t.length ≤ 16) (ho : ∀ s ∈ t, s.Ok) : Tb.Valid (Tb.trim t) := by
  obtain ⟨m, h1, h2, h3, h4⟩ := Tb.trim_pre t
  rw [h2]
  exact ⟨by rw [List.length_take]; omega, fun s hs => ho s (List.mem_of_mem_take hs), h4⟩
theorem Tb.clear_valid {t : List Tb.Slot} (h : Tb.Valid t) (k : Nat) : Tb.Valid (Tb.trim (t.set k Tb.Slot.zero)) := by
  refine Tb.trim_valid (by rw [List.length_set]; exact h.1) fun s hs => ?_
  rcases List.mem_or_eq_of_mem_set hs with h1 | rfl
  · exact h.2.1 s h1
  · exact Tb.Slot.zero_ok
theorem Tb.putL_self {t : List Tb.Slot} {s : Tb.Slot} (h0 : s.kind ≠ 0) {k : Nat} (hk : Tb.free t = k) : Tb.get (Tb.putL t s) (k : Int) = (s, 0) := by
  subst hk
  have hle := Tb.free_le t
  unfold Tb.putL
  split
  · rename_i hl
    have h1 : Tb.free t < (t.set (Tb.free t) s).length := by simpa using hl
    have h2 : (t.set (Tb.free t) s)[Tb.free t] = s := List.getElem_set_self _
    rw [Tb.get_at h1 (by rw [h2]; exact h0), h2]
  · have hfl : Tb.free t = t.length := by omega
    have h1 : Tb.free t < (t ++ [s]).length := by simp; omega
    have h2 : (t ++ [s])[Tb.free t] = s := by rw [List.getElem_append_right (by omega)]; simp
    rw [Tb.get_at h1 (by rw [h2]; exact h0), h2]
theorem Tb.putL_other {t : List Tb.Slot} {s : Tb.Slot} (h0 : s.kind ≠ 0) {k j : Nat} (hk : Tb.free t = k) (hj : j ≠ k) : Tb.get (Tb.putL t s) (j : Int) = Tb.get t (j : Int) := by
  have hu := Tb.putL_used (t := t) h0 hk j
  rw [if_neg hj] at hu
  cases h : Tb.used t j with
  | false => rw [Tb.get_unused h, Tb.get_unused (hu.trans h)]
  | true =>
    have hjl : j < t.length := by
      refine Nat.lt_of_not_le fun hle => ?_
      rw [Tb.used_out hle] at h
      cases h
    have hz : t[j].kind ≠ 0 := by rw [Tb.used_at hjl] at h; simpa using h
    have hle := Tb.free_le t
    subst hk
    have e : ∃ h' : j < (Tb.putL t s).length, (Tb.putL t s)[j] = t[j] := by
      unfold Tb.putL
      split
      · exact ⟨by simpa using hjl, List.getElem_set_ne (Ne.symm hj) _⟩
      · exact ⟨by simp; omega, List.getElem_append_left hjl⟩
    obtain ⟨h1, h2⟩ := e
    rw [Tb.get_at h1 (by rw [h2]; exact hz), Tb.get_at hjl hz, h2]
theorem Tb.trim_self {t : List Tb.Slot} (h : Tb.Valid t) : Tb.trim t = t := by
  have := Tb.trim_take (t := t) (m := t.length) (Nat.le_refl _) (fun j hj hm => by omega) (by rw [List.take_length]; exact h.2.2)
  rwa [List.take_length] at this
theorem Tb.ok_none {s : Tb.Slot} (h : s.Ok) (hz : s.kind = 0) : s = Tb.Slot.zero := by
  unfold Tb.Slot.Ok at h
  rwa [if_pos hz] at h
/-- Clearing what was put restores the table. -/
theorem Tb.putL_clear {t : List Tb.Slot} (h : Tb.Valid t) {s : Tb.Slot} {k : Nat} (hk : Tb.free t = k) : Tb.trim ((Tb.putL t s).set k Tb.Slot.zero) = t := by
  subst hk
  have hle := Tb.free_le t
  unfold Tb.putL
  split
  · rename_i hl
    have hz : t[Tb.free t] = Tb.Slot.zero := Tb.ok_none (h.2.1 _ (List.getElem_mem hl)) (Tb.free_kind hl)
    rw [List.set_set]
    have e : t.set (Tb.free t) Tb.Slot.zero = t := by
      conv => lhs; rw [← hz]
      exact List.set_getElem_self hl
    rw [e]
    exact Tb.trim_self h
  · have hfl : Tb.free t = t.length := by omega
    rw [hfl, List.set_append_right _ _ (Nat.le_refl _)]
    simp only [Nat.sub_self, List.set_cons_zero]
    have := Tb.trim_take (t := t ++ [Tb.Slot.zero]) (m := t.length) (by simp) (fun j hj hm => by
      rw [List.getElem_append_right hm]
      have : j = t.length := by simp at hj; omega
      subst this
      simp [Tb.Slot.zero]) (by rw [List.take_left]; exact h.2.2)
    rwa [List.take_left] at this
theorem Tb.put_ok {t : List Tb.Slot} (h : Tb.Valid t) {s : Tb.Slot} (hs : s.Ok ∧ s.kind ≠ 0) {k : Nat} (hk : Tb.free t = k) (h16 : k < 16) : Tb.put t s = (Tb.putL t s, (k : Int), 0) := by
  unfold Tb.put
  rw [if_pos ⟨h, hs.1, hs.2⟩, if_pos (by omega), hk]
end Go.Proofs.Ytbbibbniphmgbaa
