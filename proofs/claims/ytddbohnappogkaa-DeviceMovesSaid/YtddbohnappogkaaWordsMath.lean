/- Layer 2, plain mathematics of lines, words and their lists. Nothing of the program. -/
import Derived.Lib.Strings
import Derived.Lib.Bytealg
namespace Go.Proofs.Ytddbohnappogkaa
namespace Wd

/-- May stand in a plain word. -/
def plain (c : UInt8) : Bool := decide (33 ≤ c.toNat) && (decide (c.toNat ≤ 126) && (decide (c.toNat ≠ 34) && decide (c.toNat ≠ 92)))
/-- What a pair stands for. -/
def letter (c : UInt8) : Option UInt8 := if c.toNat = 34 then some 34 else if c.toNat = 92 then some 92 else if c.toNat = 110 then some 10 else if c.toNat = 114 then some 13 else none

/-- A byte more: the state (0 at the start, 1 before a word, 2 in a plain one, 3 in quotes, 4 behind a backslash, 5 behind quotes, 6 wrong), the word so far, the words so far. -/
def next (s : Nat × List UInt8 × List (List UInt8)) (c : UInt8) : Nat × List UInt8 × List (List UInt8) :=
  if s.1 ≤ 1 then (if c.toNat = 34 then (3, s.2) else if plain c then (2, s.2.1 ++ [c], s.2.2) else (6, s.2))
  else if s.1 = 2 then (if plain c then (2, s.2.1 ++ [c], s.2.2) else if c.toNat = 32 then (1, [], s.2.2 ++ [s.2.1]) else (6, s.2))
  else if s.1 = 3 then (if c.toNat = 34 then (5, s.2) else if c.toNat = 92 then (4, s.2) else if c.toNat = 10 ∨ c.toNat = 13 then (6, s.2) else (3, s.2.1 ++ [c], s.2.2))
  else if s.1 = 4 then (match letter c with | none => (6, s.2) | some x => (3, s.2.1 ++ [x], s.2.2))
  else if s.1 = 5 then (if c.toNat = 32 then (1, [], s.2.2 ++ [s.2.1]) else (6, s.2))
  else (6, s.2)
def run (s : Nat × List UInt8 × List (List UInt8)) (l : List UInt8) : Nat × List UInt8 × List (List UInt8) := l.foldl next s
def fin (s : Nat × List UInt8 × List (List UInt8)) : Option (List (List UInt8)) := if s.1 = 0 then some s.2.2 else if s.1 = 2 ∨ s.1 = 5 then some (s.2.2 ++ [s.2.1]) else none
/-- The words of the rest of a line, from a state on. -/
def from_ (s : Nat × List UInt8 × List (List UInt8)) (l : List UInt8) : Option (List (List UInt8)) := fin (run s l)
theorem run_cons (s : Nat × List UInt8 × List (List UInt8)) (c : UInt8) (l : List UInt8) : run s (c :: l) = run (next s c) l := rfl
theorem run_snoc (s : Nat × List UInt8 × List (List UInt8)) (c : UInt8) (l : List UInt8) : run s (l ++ [c]) = next (run s l) c := by simp [run]
theorem from_cons (s : Nat × List UInt8 × List (List UInt8)) (c : UInt8) (l : List UInt8) : from_ s (c :: l) = from_ (next s c) l := rfl

/-- Words and error, of what reading a line gave. -/
def outcome : Option (List (List UInt8)) → List (List UInt8) × Nat
  | none => ([], 5)
  | some ws => if 64 < ws.length then ([], 3) else (ws, 0)
/-- Words and error of a line. -/
def split (l : List UInt8) : List (List UInt8) × Nat := if 4096 < l.length then ([], 3) else outcome (from_ (0, [], []) l)

theorem next_st (s : Nat × List UInt8 × List (List UInt8)) (c : UInt8) : (next s c).1 ≤ 6 := by
  unfold next
  repeat' split
  all_goals simp
theorem next_w (s : Nat × List UInt8 × List (List UInt8)) (c : UInt8) : (next s c).2.1.length ≤ s.2.1.length + 1 ∧ (next s c).2.2.length ≤ s.2.2.length + 1 := by
  unfold next
  repeat' split
  all_goals simp
theorem run_st (s : Nat × List UInt8 × List (List UInt8)) (l : List UInt8) (h : s.1 ≤ 6) : (run s l).1 ≤ 6 := by
  induction l generalizing s with
  | nil => exact h
  | cons c l ih => rw [run_cons]; exact ih _ (next_st s c)
theorem run_w (s : Nat × List UInt8 × List (List UInt8)) (l : List UInt8) : (run s l).2.1.length ≤ s.2.1.length + l.length ∧ (run s l).2.2.length ≤ s.2.2.length + l.length := by
  induction l generalizing s with
  | nil => simp [run]
  | cons c l ih =>
    rw [run_cons]
    have := ih (next s c)
    have := next_w s c
    simp only [List.length_cons]
    omega

theorem wrong (w : List UInt8) (ws : List (List UInt8)) (l : List UInt8) : from_ (6, w, ws) l = none := by
  induction l with
  | nil => simp [from_, run, fin]
  | cons c l ih => rw [from_cons]; simpa [next] using ih

/-- What a quoted word's rest is: the word and what follows it; b: behind a backslash. -/
def quoted (b : Bool) (out : List UInt8) : List UInt8 → Option (List UInt8 × List UInt8)
  | [] => none
  | c :: r => if b then (match letter c with
      | none => none
      | some y => quoted false (out ++ [y]) r)
    else if c.toNat = 34 then some (out, r) else if c.toNat = 10 ∨ c.toNat = 13 then none else if c.toNat = 92 then quoted true out r else quoted false (out ++ [c]) r
/-- The first word, and what follows it. -/
def word : List UInt8 → Option (List UInt8 × List UInt8)
  | [] => none
  | c :: r => if c.toNat = 34 then quoted false [] r else if plain c then some ((c :: r).takeWhile plain, (c :: r).dropWhile plain) else none

theorem word_cons (c : UInt8) (r : List UInt8) : word (c :: r) = if c.toNat = 34 then quoted false [] r else if plain c then some ((c :: r).takeWhile plain, (c :: r).dropWhile plain) else none := rfl
theorem quoted_no (out : List UInt8) (c : UInt8) (r : List UInt8) : quoted false out (c :: r) = if c.toNat = 34 then some (out, r) else if c.toNat = 10 ∨ c.toNat = 13 then none else if c.toNat = 92 then quoted true out r else quoted false (out ++ [c]) r := rfl
theorem quoted_yes (out : List UInt8) (c : UInt8) (r : List UInt8) : quoted true out (c :: r) = match letter c with
    | none => none
    | some y => quoted false (out ++ [y]) r := rfl
theorem from_quoted (ws : List (List UInt8)) (l : List UInt8) (out : List UInt8) (b : Bool) : from_ (if b then 4 else 3, out, ws) l = (quoted b out l).elim none fun p => from_ (5, p.1, ws) p.2 := by
  induction l generalizing out b with
  | nil => cases b <;> rfl
  | cons c r ih =>
    rw [from_cons]
    cases b with
    | true =>
      simp only [next, quoted]
      cases hx : letter c with
      | none => simpa using wrong out ws r
      | some y => simpa using ih (out ++ [y]) false
    | false =>
      by_cases h1 : c.toNat = 34
      · simp [next, quoted, h1]
      · by_cases h2 : c.toNat = 10 ∨ c.toNat = 13
        · have h3 : c.toNat ≠ 92 := by omega
          simp only [next, quoted, h1, h2, h3]
          simpa using wrong out ws r
        · by_cases h3 : c.toNat = 92
          · simp only [next, quoted, h3]
            simpa using ih out true
          · simp only [next, quoted, h1, h2, h3]
            simpa using ih (out ++ [c]) false

theorem plain_ne {c : UInt8} (h : plain c = true) : 33 ≤ c.toNat ∧ c.toNat ≤ 126 ∧ c.toNat ≠ 34 ∧ c.toNat ≠ 92 := by
  unfold plain at h
  simp only [Bool.and_eq_true, decide_eq_true_eq] at h
  exact ⟨h.1, h.2.1, h.2.2⟩

theorem from_plain (ws : List (List UInt8)) (l out : List UInt8) : from_ (2, out, ws) l = from_ (5, out ++ l.takeWhile plain, ws) (l.dropWhile plain) := by
  induction l generalizing out with
  | nil => simp [from_, run, fin]
  | cons c r ih =>
    rw [from_cons]
    by_cases h : plain c = true
    · have e : next (2, out, ws) c = (2, out ++ [c], ws) := by simp [next, h]
      rw [e, ih]
      simp [h]
    · simp [from_cons, next, h]

theorem from_word (l : List UInt8) (ws : List (List UInt8)) : from_ (1, [], ws) l = (word l).elim none fun p => from_ (5, p.1, ws) p.2 := by
  rcases l with _ | ⟨c, r⟩
  · rfl
  · rw [from_cons]
    by_cases h1 : c.toNat = 34
    · simp only [next, word, h1]
      simpa using from_quoted ws r [] false
    · by_cases h2 : plain c = true
      · simp only [next, word, h1, h2]
        have := from_plain ws r [c]
        simpa [List.takeWhile_cons, List.dropWhile_cons, h2] using this
      · simp only [next, word, h1, h2]
        simpa using wrong [] ws r
theorem from_start (l : List UInt8) (h : l ≠ []) : from_ (0, [], []) l = from_ (1, [], []) l := by
  rcases l with _ | ⟨c, r⟩
  · exact absurd rfl h
  · rw [from_cons, from_cons]; rfl
theorem from_sep (w : List UInt8) (ws : List (List UInt8)) (c : UInt8) (r : List UInt8) : from_ (5, w, ws) (c :: r) = if c.toNat = 32 then from_ (1, [], ws ++ [w]) r else none := by
  rw [from_cons]
  by_cases h : c.toNat = 32
  · simp [next, h]
  · simp only [next, h]
    simpa using wrong w ws r
theorem from_end (w : List UInt8) (ws : List (List UInt8)) : from_ (5, w, ws) [] = some (ws ++ [w]) := rfl

theorem quoted_le (l : List UInt8) (b : Bool) (out w r : List UInt8) (hq : quoted b out l = some (w, r)) : r.length < l.length ∧ w.length ≤ out.length + l.length ∧ r = l.drop (l.length - r.length) := by
  induction l generalizing out b with
  | nil => cases hq
  | cons c l ih =>
    have up : ∀ (b' : Bool) (out' : List UInt8), out'.length ≤ out.length + 1 → quoted b' out' l = some (w, r) → r.length < (c :: l).length ∧ w.length ≤ out.length + (c :: l).length ∧ r = (c :: l).drop ((c :: l).length - r.length) := by
      intro b' out' ho h
      have := ih b' out' h
      simp only [List.length_cons]
      refine ⟨by omega, by omega, ?_⟩
      rw [show l.length + 1 - r.length = (l.length - r.length) + 1 by omega]
      exact this.2.2
    unfold quoted at hq
    split at hq
    · split at hq
      · cases hq
      · exact up _ _ (by simp) hq
    · split at hq
      · injection hq with hq
        injection hq with h1 h2
        subst h1 h2
        exact ⟨by simp, by simp only [List.length_cons]; omega, by simp⟩
      · split at hq
        · cases hq
        · split at hq
          · exact up _ _ (by omega) hq
          · exact up _ _ (by simp) hq

theorem word_lt {l w r : List UInt8} (h : word l = some (w, r)) : r.length < l.length := by
  rcases l with _ | ⟨c, t⟩
  · cases h
  · rw [word_cons] at h
    split at h
    · have := (quoted_le t false [] w r h).1
      simp only [List.length_cons]; omega
    · split at h
      · rename_i hc
        injection h with h
        injection h with _ h
        subst h
        rw [List.dropWhile_cons, if_pos hc]
        have := (List.dropWhile_sublist plain (l := t)).length_le
        simp only [List.length_cons]; omega
      · cases h

/-- How a word is written. -/
def esc (c : UInt8) : List UInt8 := if c.toNat = 34 then [92, 34] else if c.toNat = 92 then [92, 92] else if c.toNat = 10 then [92, 110] else if c.toNat = 13 then [92, 114] else [c]
def quote (w : List UInt8) : List UInt8 := w.flatMap esc
def plainW (w : List UInt8) : Bool := w.all plain && decide (w ≠ [])
def written (w : List UInt8) : List UInt8 := if plainW w then w else 34 :: (quote w ++ [34])
theorem esc_le (c : UInt8) : 1 ≤ (esc c).length ∧ (esc c).length ≤ 2 := by
  unfold esc
  repeat' split
  all_goals simp
theorem quote_le (w : List UInt8) : (quote w).length ≤ 2 * w.length := by
  induction w with
  | nil => simp [quote]
  | cons c w ih =>
    have := esc_le c
    simp only [quote, List.flatMap_cons, List.length_append, List.length_cons] at ih ⊢
    omega
theorem quote_snoc (w : List UInt8) (c : UInt8) : quote (w ++ [c]) = quote w ++ esc c := by simp [quote]
theorem written_le (w : List UInt8) : (written w).length ≤ 2 * w.length + 2 := by
  have := quote_le w
  unfold written
  split
  · omega
  · simp only [List.length_cons, List.length_append, List.length_nil]; omega

/-- The line with the separator ahead of the next word. -/
def sep (line : List UInt8) (first : Bool) : List UInt8 := if first then line else line ++ [32]
/-- A line of the words l behind the line so far. -/
def joinG (line : List UInt8) (first : Bool) : List (List UInt8) → Option (List UInt8)
  | [] => some line
  | w :: r => if 4096 < (sep line first ++ written w).length then none else joinG (sep line first ++ written w) false r
def join (l : List (List UInt8)) : List UInt8 × Nat := if 64 < l.length then ([], 3) else match joinG [] true l with
  | none => ([], 3)
  | some x => (x, 0)

theorem from_written (w : List UInt8) (s : Nat) (hs : s ≤ 1) (ws : List (List UInt8)) (r : List UInt8) (hr : r = [] ∨ ∃ t, r = 32 :: t) : from_ (s, [], ws) (written w ++ r) = from_ (5, w, ws) r := by
  have hq : ∀ (v out : List UInt8), from_ (3, out, ws) (quote v ++ (34 :: r)) = from_ (5, out ++ v, ws) r := by
    intro v
    induction v with
    | nil => intro out; rw [List.append_nil]; rfl
    | cons c v ih =>
      intro out
      have key : from_ (3, out, ws) (esc c ++ (quote v ++ (34 :: r))) = from_ (3, out ++ [c], ws) (quote v ++ (34 :: r)) := by
        unfold esc
        by_cases h1 : c.toNat = 34
        · obtain rfl : c = 34 := UInt8.toNat_inj.1 h1
          rfl
        · by_cases h2 : c.toNat = 92
          · obtain rfl : c = 92 := UInt8.toNat_inj.1 h2
            rfl
          · by_cases h3 : c.toNat = 10
            · obtain rfl : c = 10 := UInt8.toNat_inj.1 h3
              rfl
            · by_cases h4 : c.toNat = 13
              · obtain rfl : c = 13 := UInt8.toNat_inj.1 h4
                rfl
              · simp only [h1, h2, h3, h4, if_false, List.cons_append, List.nil_append]
                rw [from_cons]
                simp [next, h1, h2, h3, h4]
      simp only [quote, List.flatMap_cons, List.append_assoc] at key ⊢
      rw [key]
      have := ih (out ++ [c])
      simp only [quote] at this
      rw [this]
      simp
  have hstart : ∀ l, l ≠ [] → from_ (s, [], ws) l = from_ (1, [], ws) l := by
    intro l hl
    rcases l with _ | ⟨c, t⟩
    · exact absurd rfl hl
    · rw [from_cons, from_cons]
      simp [next, hs]
  unfold written
  by_cases hp : plainW w = true
  · rw [if_pos hp]
    unfold plainW at hp
    simp only [Bool.and_eq_true, decide_eq_true_eq, List.all_eq_true] at hp
    rw [hstart _ (by simp [hp.2]), from_word]
    have htw : (w ++ r).takeWhile plain = w ∧ (w ++ r).dropWhile plain = r := by
      have h0 : r.takeWhile plain = [] ∧ r.dropWhile plain = r := by
        rcases hr with rfl | ⟨t, rfl⟩
        · simp
        · have : plain 32 = false := by decide
          simp [this]
      constructor
      · rw [List.takeWhile_append_of_pos (by simpa using hp.1), h0.1, List.append_nil]
      · rw [List.dropWhile_append_of_pos (by simpa using hp.1), h0.2]
    rcases w with _ | ⟨c, w⟩
    · exact absurd rfl hp.2
    · have hc := hp.1 c (by simp)
      have := plain_ne hc
      rw [List.cons_append] at htw ⊢
      simp only [word, this.2.2.1, hc, if_false, if_true, htw.1, htw.2]
      rfl
  · rw [if_neg hp, List.cons_append, List.append_assoc, hstart _ (by simp), from_cons]
    have : next (1, [], ws) 34 = (3, [], ws) := rfl
    rw [this]
    simpa using hq w []

theorem joinG_le {line : List UInt8} {first : Bool} {l : List (List UInt8)} {x : List UInt8} (h : joinG line first l = some x) (hl : line.length ≤ 4096) : x.length ≤ 4096 := by
  induction l generalizing line first with
  | nil => injection h with h; subst h; exact hl
  | cons w r ih =>
    unfold joinG at h
    split at h
    · cases h
    · exact ih h (by omega)

/-- The rest of a line behind a word. -/
theorem joinG_from {line : List UInt8} {l : List (List UInt8)} {x : List UInt8} (h : joinG line false l = some x) : ∃ t, x = line ++ t ∧ (t = [] ∨ ∃ t', t = 32 :: t') ∧ ∀ w ws, from_ (5, w, ws) t = some (ws ++ [w] ++ l) := by
  induction l generalizing line with
  | nil => injection h with h; subst h; exact ⟨[], by simp, .inl rfl, fun w ws => by simp [from_end]⟩
  | cons v r ih =>
    unfold joinG at h
    split at h
    · cases h
    · obtain ⟨t, hx, hr, hf⟩ := ih h
      refine ⟨32 :: (written v ++ t), by simpa [sep] using hx, .inr ⟨_, rfl⟩, fun w ws => ?_⟩
      rw [from_sep, if_pos (by decide), from_written v 1 (by omega) _ t hr, hf]
      simp
theorem join_split {l : List (List UInt8)} {x : List UInt8} (h : joinG [] true l = some x) : from_ (0, [], []) x = some l := by
  rcases l with _ | ⟨v, r⟩
  · injection h with h; subst h; rfl
  · unfold joinG at h
    split at h
    · cases h
    · obtain ⟨t, hx, hr, hf⟩ := joinG_from h
      simp only [sep, if_true, List.nil_append] at hx
      subst hx
      rw [from_written v 0 (by omega) _ t hr, hf]
      simp
theorem split_join {l : List (List UInt8)} (h : (join l).2 = 0) : split (join l).1 = (l, 0) := by
  unfold join at h ⊢
  split at h
  · cases h
  · rename_i hl
    rw [if_neg hl]
    cases hj : joinG [] true l with
    | none => rw [hj] at h; cases h
    | some x =>
      simp only
      unfold split
      rw [if_neg (by have := joinG_le hj (by simp); omega), join_split hj]
      exact if_neg hl
theorem join_err (l : List (List UInt8)) : (join l).2 = 0 ∨ ((join l).2 = 3 ∧ (join l).1 = []) := by
  unfold join
  repeat' split
  all_goals simp
theorem split_err (l : List UInt8) : (split l).2 = 0 ∨ (((split l).2 = 3 ∨ (split l).2 = 5) ∧ (split l).1 = []) := by
  unfold split outcome
  repeat' split
  all_goals simp

/-- No line feed is written. -/
theorem esc_10 (c : UInt8) : ∀ x ∈ esc c, x ≠ 10 := by
  intro x hx h
  subst h
  unfold esc at hx
  by_cases h3 : c.toNat = 10
  · obtain rfl : c = 10 := UInt8.toNat_inj.1 h3
    revert hx; decide
  · repeat' split at hx
    all_goals simp at hx
    all_goals
      subst hx
      exact h3 rfl
theorem written_10 (w : List UInt8) : ∀ x ∈ written w, x ≠ 10 := by
  intro x hx h
  subst h
  unfold written at hx
  split at hx
  · rename_i hp
    unfold plainW at hp
    simp only [Bool.and_eq_true, List.all_eq_true] at hp
    have := hp.1 _ hx
    revert this; decide
  · simp only [List.mem_cons, List.mem_append, List.not_mem_nil, or_false, quote, List.mem_flatMap] at hx
    rcases hx with hx | ⟨c, _, hc⟩ | hx
    · revert hx; decide
    · exact esc_10 c _ hc rfl
    · revert hx; decide
theorem joinG_10 {line : List UInt8} {first : Bool} {l : List (List UInt8)} {x : List UInt8} (h : joinG line first l = some x) (hl : ∀ c ∈ line, c ≠ 10) : ∀ c ∈ x, c ≠ 10 := by
  induction l generalizing line first with
  | nil => injection h with h; subst h; exact hl
  | cons w r ih =>
    unfold joinG at h
    split at h
    · cases h
    · refine ih h fun c hc => ?_
      rw [List.mem_append] at hc
      rcases hc with hc | hc
      · unfold sep at hc
        split at hc
        · exact hl c hc
        · rw [List.mem_append] at hc
          rcases hc with hc | hc
          · exact hl c hc
          · simp at hc; subst hc; decide
      · exact written_10 w c hc
theorem join_10 (l : List (List UInt8)) : ∀ c ∈ (join l).1, c ≠ 10 := by
  unfold join
  split
  · simp
  · cases h : joinG [] true l with
    | none => simp
    | some x => exact joinG_10 h (by simp)

/-- The lines of a text, of which cur has been read. -/
def linesG (cur : List UInt8) : List UInt8 → List (List UInt8)
  | [] => if cur = [] then [] else [cur]
  | c :: r => if c.toNat = 10 then cur :: linesG [] r else linesG (cur ++ [c]) r
def lines (l : List UInt8) : List (List UInt8) := linesG [] l
def no10 (c : UInt8) : Bool := decide (c.toNat ≠ 10)
theorem linesG_cut (cur l : List UInt8) : linesG cur l = match l.dropWhile no10 with
    | [] => if cur ++ l = [] then [] else [cur ++ l]
    | _ :: r => (cur ++ l.takeWhile no10) :: linesG [] r := by
  induction l generalizing cur with
  | nil => simp [linesG]
  | cons c l ih =>
    by_cases h : c.toNat = 10
    · have : no10 c = false := by simp [no10, h]
      simp [linesG, h, this]
    · have hn : no10 c = true := by simp [no10, h]
      rw [linesG, if_neg h, ih, List.dropWhile_cons, if_pos hn, List.takeWhile_cons, if_pos hn]
      cases List.dropWhile no10 l <;> simp
theorem lines_len (cur l : List UInt8) : (linesG cur l).length ≤ l.length + 1 := by
  induction l generalizing cur with
  | nil => unfold linesG; split <;> simp
  | cons c l ih =>
    unfold linesG
    split
    · have := ih []
      simp only [List.length_cons]; omega
    · have := ih (cur ++ [c])
      simp only [List.length_cons]; omega
/-- Each line with a line feed behind it. -/
def text (ls : List (List UInt8)) : List UInt8 := ls.flatMap (· ++ [10])
theorem text_lines (cur l : List UInt8) : (cur ++ l = [] ∧ text (linesG cur l) = []) ∨ (text (linesG cur l) = cur ++ l ∧ ∃ h : cur ++ l ≠ [], (cur ++ l).getLast h = 10) ∨ (text (linesG cur l) = cur ++ l ++ [10] ∧ ∃ h : cur ++ l ≠ [], (l = [] ∨ (cur ++ l).getLast h ≠ 10)) := by
  induction l generalizing cur with
  | nil =>
    by_cases h : cur = []
    · left; subst h; simp [linesG, text]
    · right; right
      simp [linesG, text, h]
  | cons c l ih =>
    by_cases h : c.toNat = 10
    · obtain rfl : c = 10 := UInt8.toNat_inj.1 h
      have e : text (linesG cur (10 :: l)) = cur ++ [10] ++ text (linesG [] l) := by simp [linesG, text]
      rw [e]
      right
      rcases ih [] with ⟨h1, h2⟩ | ⟨h1, h2, h3⟩ | ⟨h1, h2, h3⟩
      · left
        simp only [List.nil_append] at h1
        subst h1
        refine ⟨by simp [h2], by simp, by simp⟩
      · left
        simp only [List.nil_append] at h1 h2 h3
        refine ⟨by simp [h1], by simp, ?_⟩
        rw [List.getLast_append_of_ne_nil _ (by simp), List.getLast_cons h2]
        exact h3
      · right
        simp only [List.nil_append] at h1 h2 h3
        refine ⟨by simp [h1], by simp, .inr ?_⟩
        rcases h3 with h3 | h3
        · exact absurd h3 h2
        · rw [List.getLast_append_of_ne_nil _ (by simp), List.getLast_cons h2]
          exact h3
    · have e : linesG cur (c :: l) = linesG (cur ++ [c]) l := by rw [linesG, if_neg h]
      rw [e]
      right
      have hc : c ≠ 10 := fun hc => h (by subst hc; rfl)
      rcases ih (cur ++ [c]) with ⟨h1, h2⟩ | ⟨h1, h2, h3⟩ | ⟨h1, h2, h3⟩
      · simp at h1
      · left
        refine ⟨by simpa using h1, by simp, ?_⟩
        simpa using h3
      · right
        refine ⟨by simpa using h1, by simp, .inr ?_⟩
        rcases h3 with h3 | h3
        · subst h3
          simpa using hc
        · simpa using h3
theorem lines_two {x : List UInt8} (h : ∀ c ∈ x, c ≠ 10) : lines (x ++ [10] ++ x ++ [10]) = [x, x] := by
  have key : ∀ (y cur r : List UInt8), (∀ c ∈ y, c ≠ 10) → linesG cur (y ++ (10 :: r)) = (cur ++ y) :: linesG [] r := by
    intro y
    induction y with
    | nil => intro cur r _; simp [linesG]
    | cons c y ih =>
      intro cur r hy
      have hc : c.toNat ≠ 10 := fun hc => hy c (by simp) (UInt8.toNat_inj.1 hc)
      rw [List.cons_append, linesG, if_neg hc, ih _ _ (fun d hd => hy d (by simp [hd]))]
      simp
  unfold lines
  rw [show x ++ [10] ++ x ++ [10] = x ++ (10 :: (x ++ (10 :: []))) by simp, key x [] _ h, key x [] _ h]
  simp [linesG]
end Wd
end Go.Proofs.Ytddbohnappogkaa
