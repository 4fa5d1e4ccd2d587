/- Layer 4, plain mathematics of the five laws: a text among comments, a bad line among good ones, lines cut out of a text. Nothing of the program. -/
import Derived.Test.YtfjekckcpkkdiaaGreatDoorCodeText
namespace Go.Proofs.YtfjekckcpkkdiaaGreatDoor
namespace Cd

theorem steps_part (a b : List (List UInt8)) (s s' : St) (h : steps s (a ++ b) = some s') : ∃ s1, steps s a = some s1 := by
  induction a generalizing s with
  | nil => exact ⟨s, rfl⟩
  | cons l a ih =>
    rw [List.cons_append, steps] at h
    cases hl : readLine s l with
    | error e => rw [hl] at h; simp at h
    | ok s1 =>
      rw [hl] at h
      obtain ⟨s2, h2⟩ := ih s1 h
      exact ⟨s2, by rw [steps, hl]; exact h2⟩
theorem text_inj {p q : Pr} (hp : Good p) (hq : Good q) (h : text p = text q) : p = q := by
  have := parse_text hp
  rw [h, parse_text hq] at this
  exact (Prod.ext_iff.1 this).1.symm

/-- Another number for set. -/
theorem set_right {n : Nat} {a b b' c : Int} (h : right n ⟨1, a, b, c⟩ = true) (h1 : -9007199254740992 ≤ b') (h2 : b' ≤ 9007199254740992) : right n ⟨1, a, b', c⟩ = true := by
  unfold right fits bnd opn at h ⊢
  simp [tbl] at h ⊢
  omega
theorem good_set {p : Pr} (h : Good p) {i : Nat} {x : Ins} (hx : right p.code.length x = true) (h64 : in64 x) : Good ⟨p.code.set i x, p.strs, p.pages⟩ := by
  obtain ⟨hc, h6⟩ := h
  obtain ⟨⟨h1, h2, h3⟩, ⟨h4, h5⟩, hr⟩ := ok_of_check hc
  refine ⟨?_, fun y hy => ?_⟩
  · refine congrArg Prod.snd (check_of_ok (p := ⟨p.code.set i x, p.strs, p.pages⟩) (by simpa using h1) h2 h3 h4 h5 (fun y hy => ?_))
    simp only [List.length_set] at hy ⊢
    rcases List.mem_or_eq_of_mem_set hy with hy | rfl
    · exact hr y hy
    · exact hx
  · rcases List.mem_or_eq_of_mem_set hy with hy | rfl
    · exact h6 y hy
    · exact h64
/-- A text behind a comment and an empty line, and ahead of a comment. -/
def headC : List UInt8 := [35, 32, 97, 32, 112, 114, 111, 103, 114, 97, 109]
def endC : List UInt8 := [35, 32, 101, 110, 100]
theorem text_append (a b : List (List UInt8)) : Wd.text (a ++ b) = Wd.text a ++ Wd.text b := by simp [Wd.text]
theorem read_passed {s : St} {l : List UInt8} (h : passed l = true) : readLine s l = .ok s := by unfold readLine; rw [if_pos h]
theorem parse_around {p : Pr} (h : Good p) : parse ((headC ++ [10, 10]) ++ text p ++ endC) = (p, 0, 0) := by
  have hl := text_le h
  have e : (headC ++ [10, 10]) ++ text p ++ endC = Wd.text ([headC, []] ++ lineList p) ++ endC := by
    rw [text_append, text_lineList]
    rfl
  have h10 : ∀ l ∈ [headC, []] ++ lineList p, ∀ c ∈ l, c ≠ 10 := by
    intro l hl c hc
    rw [List.mem_append] at hl
    rcases hl with hl | hl
    · simp only [List.mem_cons, List.not_mem_nil, or_false] at hl
      rcases hl with rfl | rfl
      · revert c; decide
      · cases hc
    · exact lineList_10 p l hl c hc
  unfold parse
  rw [if_neg (by simp only [List.length_append]; rw [show headC.length = 11 from rfl, show endC.length = 5 from rfl]; simp only [List.length_cons, List.length_nil]; omega), e, lines_text _ h10]
  have hs : steps start ([headC, []] ++ lineList p) = some ⟨true, p⟩ := by
    rw [List.cons_append, List.cons_append, List.nil_append, steps, read_passed (by decide)]
    simp only
    rw [steps, read_passed (by decide)]
    exact steps_all h
  rw [parseG_steps _ _ _ _ _ hs, show Wd.lines endC = [endC] by decide, parseG, read_passed (by decide)]
  simp only
  rw [parseG, if_pos h.1]

/-- Lines that cannot be read. -/
def badL : List (List UInt8) := [[98, 111, 111], [115, 101, 116, 32, 114, 49], [97, 100, 100, 32, 114, 49, 32, 114, 50, 32, 114, 51, 32, 114, 52], [106, 117, 109, 112, 32, 120], [115, 101, 116, 32, 49, 32, 50], [110, 111, 112, 32], [34]]
def badB (l : List UInt8) : Bool := !passed l && (decide ((Wd.split l).2 = 5) || (decide ((Wd.split l).2 = 0) && match (Wd.split l).1 with
  | [] => true
  | w :: rest => decide (w ≠ pagesW) && (decide (w ≠ stringW) && (instr w rest).isNone)))
theorem badL_B : ∀ l ∈ badL, badB l = true := by decide +kernel
theorem bad_line (s : St) {l : List UInt8} (h : l ∈ badL) : readLine s l = .error 5 := by
  have hb := badL_B l h
  unfold badB at hb
  simp only [Bool.and_eq_true, Bool.or_eq_true, decide_eq_true_eq, Bool.not_eq_true'] at hb
  obtain ⟨hp, hb⟩ := hb
  unfold readLine
  rw [if_neg (by simp [hp])]
  rcases hb with hb | ⟨h0, hb⟩
  · rw [if_neg (by omega), hb]
  · rw [if_pos h0]
    cases hw : (Wd.split l).1 with
    | nil => rfl
    | cons w rest =>
      rw [hw] at hb
      simp only [Bool.and_eq_true, decide_eq_true_eq, Option.isNone_iff_eq_none] at hb
      simp [readWords, hb.1, hb.2.1, readIns, hb.2.2]
theorem badL_10 : ∀ l ∈ badL, ∀ c ∈ l, c ≠ 10 := by decide
theorem badL_le : ∀ l ∈ badL, l.length ≤ 20 := by decide
theorem parse_bad {p : Pr} (h : Good p) (k : Nat) (hk : k ≤ (lineList p).length) {l : List UInt8} (hl : l ∈ badL) :
    parse (Wd.text ((lineList p).take k) ++ (l ++ [10]) ++ Wd.text ((lineList p).drop k)) = (zero, k + 1, 5) := by
  have hlen := text_le h
  have hb := badL_le l hl
  have hsum : (Wd.text ((lineList p).take k)).length + (Wd.text ((lineList p).drop k)).length = (text p).length := by
    rw [text_lineList, ← List.length_append, ← text_append, List.take_append_drop]
  have e : Wd.text ((lineList p).take k) ++ (l ++ [10]) ++ Wd.text ((lineList p).drop k) = Wd.text ((lineList p).take k ++ (l :: (lineList p).drop k)) ++ [] := by
    rw [text_append, List.append_nil, List.append_assoc]
    rfl
  have h10 : ∀ x ∈ (lineList p).take k ++ (l :: (lineList p).drop k), ∀ c ∈ x, c ≠ 10 := by
    intro x hx
    simp only [List.mem_append, List.mem_cons] at hx
    rcases hx with hx | rfl | hx
    · exact lineList_10 p x (List.mem_of_mem_take hx)
    · exact badL_10 x hl
    · exact lineList_10 p x (List.mem_of_mem_drop hx)
  have hs := steps_all h
  rw [← List.take_append_drop k (lineList p)] at hs
  obtain ⟨s1, hs1⟩ := steps_part _ _ _ _ hs
  unfold parse
  rw [if_neg (by simp only [List.length_append, List.length_cons, List.length_nil]; omega), e, lines_text _ h10, show Wd.lines [] = [] from rfl, List.append_nil, parseG_steps _ _ _ _ _ hs1, parseG, bad_line s1 hl]
  simp only [List.length_take]
  rw [show 0 + min k (lineList p).length = k by omega]

/-- Bytes below 128. -/
def Ascii (l : List UInt8) : Prop := ∀ c ∈ l, c.toNat < 128
theorem Ascii.append {a b : List UInt8} (ha : Ascii a) (hb : Ascii b) : Ascii (a ++ b) := fun c hc => by
  rcases List.mem_append.1 hc with h | h
  · exact ha c h
  · exact hb c h
theorem Ascii.cons {c : UInt8} {a : List UInt8} (hc : c.toNat < 128) (ha : Ascii a) : Ascii (c :: a) := fun d hd => by
  rcases List.mem_cons.1 hd with rfl | h
  · exact hc
  · exact ha d h
theorem Ascii.flat {α : Type} {f : α → List UInt8} {l : List α} (h : ∀ x ∈ l, Ascii (f x)) : Ascii (l.flatMap f) := fun c hc => by
  obtain ⟨x, hx, hc⟩ := List.mem_flatMap.1 hc
  exact h x hx c hc
theorem plain_ascii {l : List UInt8} (h : l.all Wd.plain = true) : Ascii l := fun c hc => by
  have := List.all_eq_true.1 h c hc
  unfold Wd.plain at this
  simp only [Bool.and_eq_true, decide_eq_true_eq] at this
  omega
theorem esc_ascii {c : UInt8} (h : c.toNat < 128) : Ascii (Wd.esc c) := by
  unfold Wd.esc
  repeat' split
  all_goals intro d hd; simp only [List.mem_cons, List.not_mem_nil, or_false] at hd
  · rcases hd with rfl | rfl <;> decide
  · rcases hd with rfl | rfl <;> decide
  · rcases hd with rfl | rfl <;> decide
  · rcases hd with rfl | rfl <;> decide
  · subst hd; exact h
theorem written_ascii {s : List UInt8} (h : Ascii s) : Ascii (Wd.written s) := by
  unfold Wd.written
  split
  · exact h
  · exact Ascii.cons (by decide) (Ascii.append (Ascii.flat fun c hc => esc_ascii (h c hc)) (by intro c hc; simp only [List.mem_cons, List.not_mem_nil, or_false] at hc; subst hc; decide))
theorem lf_ascii : Ascii [10] := by intro c hc; simp only [List.mem_cons, List.not_mem_nil, or_false] at hc; subst hc; decide
theorem text_ascii {p : Pr} (h : Good p) (hs : ∀ s ∈ p.strs, Ascii s) : Ascii (text p) := by
  obtain ⟨hc, h64⟩ := h
  obtain ⟨⟨h1, h2, h3⟩, ⟨h4, h5⟩, h6⟩ := ok_of_check hc
  refine Ascii.append (Ascii.append ?_ (Ascii.flat fun s hx => ?_)) (Ascii.flat fun x hx => ?_)
  · unfold pagesL lineOf
    rw [pages_join (by omega) (by omega)]
    exact Ascii.append (Ascii.append (by unfold Ascii; decide) (Ascii.cons (by decide) (plain_ascii (itoa_plain _).1))) lf_ascii
  · unfold strL lineOf
    rw [str_join (by have := h3 s hx; omega)]
    exact Ascii.append (Ascii.append (by unfold Ascii; decide) (Ascii.cons (by decide) (written_ascii (hs s hx)))) lf_ascii
  · obtain ⟨⟨g0, g1⟩, _⟩ := right_fits (h6 x hx)
    rw [insL_eq (h64 x hx) g0 g1]
    refine Ascii.append (Ascii.append (plain_ascii (name_ok g0 g1).1) (Ascii.flat fun w hw => ?_)) lf_ascii
    simp only [opWords, List.mem_map] at hw
    obtain ⟨i, _, rfl⟩ := hw
    exact Ascii.cons (by decide) (plain_ascii (opWord_plain x i).1)

/-- The lines with their line feeds that have been cut off, and what is behind them. -/
def cutS (s : List (List UInt8) × List UInt8) (c : UInt8) : List (List UInt8) × List UInt8 := if c = 10 then (s.1 ++ [s.2 ++ [10]], []) else (s.1, s.2 ++ [c])
def cuts (l : List UInt8) : List (List UInt8) × List UInt8 := l.foldl cutS ([], [])
theorem cuts_snoc (l : List UInt8) (c : UInt8) : cuts (l ++ [c]) = cutS (cuts l) c := by simp [cuts]
theorem cuts_snoc_lf {l : List UInt8} {c : UInt8} (h : c = 10) : cuts (l ++ [c]) = ((cuts l).1 ++ [(cuts l).2 ++ [c]], []) := by subst h; rw [cuts_snoc]; rfl
theorem cuts_snoc_no {l : List UInt8} {c : UInt8} (h : c ≠ 10) : cuts (l ++ [c]) = ((cuts l).1, (cuts l).2 ++ [c]) := by rw [cuts_snoc]; unfold cutS; rw [if_neg h]
theorem cuts_all (l : List UInt8) : (cuts l).1.flatten ++ (cuts l).2 = l := by
  have key : ∀ (l : List UInt8) (s : List (List UInt8) × List UInt8), (l.foldl cutS s).1.flatten ++ (l.foldl cutS s).2 = s.1.flatten ++ s.2 ++ l := by
    intro l
    induction l with
    | nil => intro s; simp
    | cons c l ih =>
      intro s
      rw [List.foldl_cons, ih]
      unfold cutS
      split
      · rename_i h; subst h; simp
      · simp
  have := key l ([], [])
  simp only [List.flatten_nil, List.nil_append] at this
  exact this
theorem cuts_le (l : List UInt8) : (cuts l).2.length ≤ l.length := by
  have := congrArg List.length (cuts_all l)
  simp only [List.length_append] at this
  omega
theorem cuts_rest (l : List UInt8) : l.drop (l.length - (cuts l).2.length) = (cuts l).2 := by
  have h := cuts_all l
  have hl := congrArg List.length h
  simp only [List.length_append] at hl
  rw [show l.length - (cuts l).2.length = (cuts l).1.flatten.length by omega]
  generalize cuts l = r at *
  subst h
  rw [List.drop_left]
theorem cuts_text (ls : List (List UInt8)) (h : ∀ l ∈ ls, ∀ c ∈ l, c ≠ 10) : cuts (Wd.text ls) = (ls.map (· ++ [10]), []) := by
  have line : ∀ (y : List UInt8) (s : List (List UInt8) × List UInt8), (∀ c ∈ y, c ≠ 10) → y.foldl cutS s = (s.1, s.2 ++ y) := by
    intro y
    induction y with
    | nil => intro s _; simp
    | cons c y ih =>
      intro s hy
      rw [List.foldl_cons, ih _ (fun d hd => hy d (by simp [hd]))]
      unfold cutS
      rw [if_neg (hy c (by simp))]
      simp
  have key : ∀ (ls : List (List UInt8)) (a : List (List UInt8)), (∀ l ∈ ls, ∀ c ∈ l, c ≠ 10) → (Wd.text ls).foldl cutS (a, []) = (a ++ ls.map (· ++ [10]), []) := by
    intro ls
    induction ls with
    | nil => intro a _; simp [Wd.text]
    | cons l ls ih =>
      intro a h
      have e : Wd.text (l :: ls) = l ++ ([10] ++ Wd.text ls) := by simp [Wd.text]
      rw [e, List.foldl_append, line l _ (h l (by simp)), List.foldl_append]
      have : [10].foldl cutS (a, [] ++ l) = (a ++ [l ++ [10]], []) := by simp [cutS]
      rw [this, ih _ (fun l' hl' => h l' (by simp [hl']))]
      simp
  have := key ls [] h
  rw [List.nil_append] at this
  exact this
theorem flat_take (ls : List (List UInt8)) (k : Nat) : ((ls.map (· ++ [10])).take k).flatten = Wd.text (ls.take k) := by
  rw [← List.map_take]; simp [Wd.text, List.flatMap]
theorem flat_drop (ls : List (List UInt8)) (k : Nat) : ((ls.map (· ++ [10])).drop k).flatten = Wd.text (ls.drop k) := by
  rw [← List.map_drop]; simp [Wd.text, List.flatMap]
end Cd
end Go.Proofs.YtfjekckcpkkdiaaGreatDoor
