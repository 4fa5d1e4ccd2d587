/- Layer 4: what the five laws share: plain mathematics of texts among comments, bad lines, lines that are cut; a program that a block holds; the sanity check and the bounds. -/
import Derived.Test.YtfjekckcpkkdiaaGreatDoorCodeText
import Derived.Test.YtfjekckcpkkdiaaGreatDoorCodeParse
import Derived.Test.YtfjekckcpkkdiaaGreatDoorCodeFormat
import Derived.Test.YtfjekckcpkkdiaaGreatDoorCodeRefFormat
import Derived.Test.YtfjekckcpkkdiaaGreatDoorCodeRefCheck2
import Derived.Test.YtfjekckcpkkdiaaGreatDoorCodeSame
namespace Go.Proofs.YtfjekckcpkkdiaaGreatDoor
namespace Cd

theorem steps_part (a b : List (List UInt8)) (s s' : St) (h : steps s (a ++ b) = some s') : ∃ s1, steps s a = some s1 := by
  induction a generalizing s with
  | nil => exact ⟨s, rfl⟩
  | cons l a ih =>
    rw [List.cons_append, steps] at h
    cases hl : readLine s l with
    | error e => rw [hl] at h; simp at h
    | ok s1 =>
      rw [hl] at h
      obtain ⟨s2, h2⟩ := ih s1 h
      exact ⟨s2, by rw [steps, hl]; exact h2⟩
theorem text_inj {p q : Pr} (hp : Good p) (hq : Good q) (h : text p = text q) : p = q := by
  have := parse_text hp
  rw [h, parse_text hq] at this
  exact (Prod.ext_iff.1 this).1.symm

/-- Another number for set. -/
theorem set_right {n : Nat} {a b b' c : Int} (h : right n ⟨1, a, b, c⟩ = true) (h1 : -9007199254740992 ≤ b') (h2 : b' ≤ 9007199254740992) : right n ⟨1, a, b', c⟩ = true := by
  unfold right fits bnd opn at h ⊢
  simp [tbl] at h ⊢
  omega
theorem good_set {p : Pr} (h : Good p) {i : Nat} {x : Ins} (hx : right p.code.length x = true) (h64 : in64 x) : Good ⟨p.code.set i x, p.strs, p.pages⟩ := by
  obtain ⟨hc, h6⟩ := h
  obtain ⟨⟨h1, h2, h3⟩, ⟨h4, h5⟩, hr⟩ := ok_of_check hc
  refine ⟨?_, fun y hy => ?_⟩
  · refine congrArg Prod.snd (check_of_ok (p := ⟨p.code.set i x, p.strs, p.pages⟩) (by simpa using h1) h2 h3 h4 h5 (fun y hy => ?_))
    simp only [List.length_set] at hy ⊢
    rcases List.mem_or_eq_of_mem_set hy with hy | rfl
    · exact hr y hy
    · exact hx
  · rcases List.mem_or_eq_of_mem_set hy with hy | rfl
    · exact h6 y hy
    · exact h64
/-- A text behind a comment and an empty line, and ahead of a comment. -/
def headC : List UInt8 := [35, 32, 97, 32, 112, 114, 111, 103, 114, 97, 109]
def endC : List UInt8 := [35, 32, 101, 110, 100]
theorem text_append (a b : List (List UInt8)) : Wd.text (a ++ b) = Wd.text a ++ Wd.text b := by simp [Wd.text]
theorem read_passed {s : St} {l : List UInt8} (h : passed l = true) : readLine s l = .ok s := by unfold readLine; rw [if_pos h]
theorem parse_around {p : Pr} (h : Good p) : parse ((headC ++ [10, 10]) ++ text p ++ endC) = (p, 0, 0) := by
  have hl := text_le h
  have e : (headC ++ [10, 10]) ++ text p ++ endC = Wd.text ([headC, []] ++ lineList p) ++ endC := by
    rw [text_append, text_lineList]
    rfl
  have h10 : ∀ l ∈ [headC, []] ++ lineList p, ∀ c ∈ l, c ≠ 10 := by
    intro l hl c hc
    rw [List.mem_append] at hl
    rcases hl with hl | hl
    · simp only [List.mem_cons, List.not_mem_nil, or_false] at hl
      rcases hl with rfl | rfl
      · revert c; decide
      · cases hc
    · exact lineList_10 p l hl c hc
  unfold parse
  rw [if_neg (by simp only [List.length_append]; rw [show headC.length = 11 from rfl, show endC.length = 5 from rfl]; simp only [List.length_cons, List.length_nil]; omega), e, lines_text _ h10]
  have hs : steps start ([headC, []] ++ lineList p) = some ⟨true, p⟩ := by
    rw [List.cons_append, List.cons_append, List.nil_append, steps, read_passed (by decide)]
    simp only
    rw [steps, read_passed (by decide)]
    exact steps_all h
  rw [parseG_steps _ _ _ _ _ hs, show Wd.lines endC = [endC] by decide, parseG, read_passed (by decide)]
  simp only
  rw [parseG, if_pos h.1]

/-- Lines that cannot be read. -/
def badL : List (List UInt8) := [[98, 111, 111], [115, 101, 116, 32, 114, 49], [97, 100, 100, 32, 114, 49, 32, 114, 50, 32, 114, 51, 32, 114, 52], [106, 117, 109, 112, 32, 120], [115, 101, 116, 32, 49, 32, 50], [110, 111, 112, 32], [34]]
def badB (l : List UInt8) : Bool := !passed l && (decide ((Wd.split l).2 = 5) || (decide ((Wd.split l).2 = 0) && match (Wd.split l).1 with
  | [] => true
  | w :: rest => decide (w ≠ pagesW) && (decide (w ≠ stringW) && (instr w rest).isNone)))
theorem badL_B : ∀ l ∈ badL, badB l = true := by decide +kernel
theorem bad_line (s : St) {l : List UInt8} (h : l ∈ badL) : readLine s l = .error 5 := by
  have hb := badL_B l h
  unfold badB at hb
  simp only [Bool.and_eq_true, Bool.or_eq_true, decide_eq_true_eq, Bool.not_eq_true'] at hb
  obtain ⟨hp, hb⟩ := hb
  unfold readLine
  rw [if_neg (by simp [hp])]
  rcases hb with hb | ⟨h0, hb⟩
  · rw [if_neg (by omega), hb]
  · rw [if_pos h0]
    cases hw : (Wd.split l).1 with
    | nil => rfl
    | cons w rest =>
      rw [hw] at hb
      simp only [Bool.and_eq_true, decide_eq_true_eq, Option.isNone_iff_eq_none] at hb
      simp [readWords, hb.1, hb.2.1, readIns, hb.2.2]
theorem badL_10 : ∀ l ∈ badL, ∀ c ∈ l, c ≠ 10 := by decide
theorem badL_le : ∀ l ∈ badL, l.length ≤ 20 := by decide
theorem parse_bad {p : Pr} (h : Good p) (k : Nat) (hk : k ≤ (lineList p).length) {l : List UInt8} (hl : l ∈ badL) :
    parse (Wd.text ((lineList p).take k) ++ (l ++ [10]) ++ Wd.text ((lineList p).drop k)) = (zero, k + 1, 5) := by
  have hlen := text_le h
  have hb := badL_le l hl
  have hsum : (Wd.text ((lineList p).take k)).length + (Wd.text ((lineList p).drop k)).length = (text p).length := by
    rw [text_lineList, ← List.length_append, ← text_append, List.take_append_drop]
  have e : Wd.text ((lineList p).take k) ++ (l ++ [10]) ++ Wd.text ((lineList p).drop k) = Wd.text ((lineList p).take k ++ (l :: (lineList p).drop k)) ++ [] := by
    rw [text_append, List.append_nil, List.append_assoc]
    rfl
  have h10 : ∀ x ∈ (lineList p).take k ++ (l :: (lineList p).drop k), ∀ c ∈ x, c ≠ 10 := by
    intro x hx
    simp only [List.mem_append, List.mem_cons] at hx
    rcases hx with hx | rfl | hx
    · exact lineList_10 p x (List.mem_of_mem_take hx)
    · exact badL_10 x hl
    · exact lineList_10 p x (List.mem_of_mem_drop hx)
  have hs := steps_all h
  rw [← List.take_append_drop k (lineList p)] at hs
  obtain ⟨s1, hs1⟩ := steps_part _ _ _ _ hs
  unfold parse
  rw [if_neg (by simp only [List.length_append, List.length_cons, List.length_nil]; omega), e, lines_text _ h10, show Wd.lines [] = [] from rfl, List.append_nil, parseG_steps _ _ _ _ _ hs1, parseG, bad_line s1 hl]
  simp only [List.length_take]
  rw [show 0 + min k (lineList p).length = k by omega]

/-- Bytes below 128. -/
def Ascii (l : List UInt8) : Prop := ∀ c ∈ l, c.toNat < 128
theorem Ascii.append {a b : List UInt8} (ha : Ascii a) (hb : Ascii b) : Ascii (a ++ b) := fun c hc => by
  rcases List.mem_append.1 hc with h | h
  · exact ha c h
  · exact hb c h
theorem Ascii.cons {c : UInt8} {a : List UInt8} (hc : c.toNat < 128) (ha : Ascii a) : Ascii (c :: a) := fun d hd => by
  rcases List.mem_cons.1 hd with rfl | h
  · exact hc
  · exact ha d h
theorem Ascii.flat {α : Type} {f : α → List UInt8} {l : List α} (h : ∀ x ∈ l, Ascii (f x)) : Ascii (l.flatMap f) := fun c hc => by
  obtain ⟨x, hx, hc⟩ := List.mem_flatMap.1 hc
  exact h x hx c hc
theorem plain_ascii {l : List UInt8} (h : l.all Wd.plain = true) : Ascii l := fun c hc => by
  have := List.all_eq_true.1 h c hc
  unfold Wd.plain at this
  simp only [Bool.and_eq_true, decide_eq_true_eq] at this
  omega
theorem esc_ascii {c : UInt8} (h : c.toNat < 128) : Ascii (Wd.esc c) := by
  unfold Wd.esc
  repeat' split
  all_goals intro d hd; simp only [List.mem_cons, List.not_mem_nil, or_false] at hd
  · rcases hd with rfl | rfl <;> decide
  · rcases hd with rfl | rfl <;> decide
  · rcases hd with rfl | rfl <;> decide
  · rcases hd with rfl | rfl <;> decide
  · subst hd; exact h
theorem written_ascii {s : List UInt8} (h : Ascii s) : Ascii (Wd.written s) := by
  unfold Wd.written
  split
  · exact h
  · exact Ascii.cons (by decide) (Ascii.append (Ascii.flat fun c hc => esc_ascii (h c hc)) (by intro c hc; simp only [List.mem_cons, List.not_mem_nil, or_false] at hc; subst hc; decide))
theorem lf_ascii : Ascii [10] := by intro c hc; simp only [List.mem_cons, List.not_mem_nil, or_false] at hc; subst hc; decide
theorem text_ascii {p : Pr} (h : Good p) (hs : ∀ s ∈ p.strs, Ascii s) : Ascii (text p) := by
  obtain ⟨hc, h64⟩ := h
  obtain ⟨⟨h1, h2, h3⟩, ⟨h4, h5⟩, h6⟩ := ok_of_check hc
  refine Ascii.append (Ascii.append ?_ (Ascii.flat fun s hx => ?_)) (Ascii.flat fun x hx => ?_)
  · unfold pagesL lineOf
    rw [pages_join (by omega) (by omega)]
    exact Ascii.append (Ascii.append (by unfold Ascii; decide) (Ascii.cons (by decide) (plain_ascii (itoa_plain _).1))) lf_ascii
  · unfold strL lineOf
    rw [str_join (by have := h3 s hx; omega)]
    exact Ascii.append (Ascii.append (by unfold Ascii; decide) (Ascii.cons (by decide) (written_ascii (hs s hx)))) lf_ascii
  · obtain ⟨⟨g0, g1⟩, _⟩ := right_fits (h6 x hx)
    rw [insL_eq (h64 x hx) g0 g1]
    refine Ascii.append (Ascii.append (plain_ascii (name_ok g0 g1).1) (Ascii.flat fun w hw => ?_)) lf_ascii
    simp only [opWords, List.mem_map] at hw
    obtain ⟨i, _, rfl⟩ := hw
    exact Ascii.cons (by decide) (plain_ascii (opWord_plain x i).1)

/-- The lines with their line feeds that have been cut off, and what is behind them. -/
def cutS (s : List (List UInt8) × List UInt8) (c : UInt8) : List (List UInt8) × List UInt8 := if c = 10 then (s.1 ++ [s.2 ++ [10]], []) else (s.1, s.2 ++ [c])
def cuts (l : List UInt8) : List (List UInt8) × List UInt8 := l.foldl cutS ([], [])
theorem cuts_snoc (l : List UInt8) (c : UInt8) : cuts (l ++ [c]) = cutS (cuts l) c := by simp [cuts]
theorem cuts_snoc_lf {l : List UInt8} {c : UInt8} (h : c = 10) : cuts (l ++ [c]) = ((cuts l).1 ++ [(cuts l).2 ++ [c]], []) := by subst h; rw [cuts_snoc]; rfl
theorem cuts_snoc_no {l : List UInt8} {c : UInt8} (h : c ≠ 10) : cuts (l ++ [c]) = ((cuts l).1, (cuts l).2 ++ [c]) := by rw [cuts_snoc]; unfold cutS; rw [if_neg h]
theorem cuts_all (l : List UInt8) : (cuts l).1.flatten ++ (cuts l).2 = l := by
  have key : ∀ (l : List UInt8) (s : List (List UInt8) × List UInt8), (l.foldl cutS s).1.flatten ++ (l.foldl cutS s).2 = s.1.flatten ++ s.2 ++ l := by
    intro l
    induction l with
    | nil => intro s; simp
    | cons c l ih =>
      intro s
      rw [List.foldl_cons, ih]
      unfold cutS
      split
      · rename_i h; subst h; simp
      · simp
  have := key l ([], [])
  simp only [List.flatten_nil, List.nil_append] at this
  exact this
theorem cuts_le (l : List UInt8) : (cuts l).2.length ≤ l.length := by
  have := congrArg List.length (cuts_all l)
  simp only [List.length_append] at this
  omega
theorem cuts_rest (l : List UInt8) : l.drop (l.length - (cuts l).2.length) = (cuts l).2 := by
  have h := cuts_all l
  have hl := congrArg List.length h
  simp only [List.length_append] at hl
  rw [show l.length - (cuts l).2.length = (cuts l).1.flatten.length by omega]
  generalize cuts l = r at *
  subst h
  rw [List.drop_left]
theorem cuts_text (ls : List (List UInt8)) (h : ∀ l ∈ ls, ∀ c ∈ l, c ≠ 10) : cuts (Wd.text ls) = (ls.map (· ++ [10]), []) := by
  have line : ∀ (y : List UInt8) (s : List (List UInt8) × List UInt8), (∀ c ∈ y, c ≠ 10) → y.foldl cutS s = (s.1, s.2 ++ y) := by
    intro y
    induction y with
    | nil => intro s _; simp
    | cons c y ih =>
      intro s hy
      rw [List.foldl_cons, ih _ (fun d hd => hy d (by simp [hd]))]
      unfold cutS
      rw [if_neg (hy c (by simp))]
      simp
  have key : ∀ (ls : List (List UInt8)) (a : List (List UInt8)), (∀ l ∈ ls, ∀ c ∈ l, c ≠ 10) → (Wd.text ls).foldl cutS (a, []) = (a ++ ls.map (· ++ [10]), []) := by
    intro ls
    induction ls with
    | nil => intro a _; simp [Wd.text]
    | cons l ls ih =>
      intro a h
      have e : Wd.text (l :: ls) = l ++ ([10] ++ Wd.text ls) := by simp [Wd.text]
      rw [e, List.foldl_append, line l _ (h l (by simp)), List.foldl_append]
      have : [10].foldl cutS (a, [] ++ l) = (a ++ [l ++ [10]], []) := by simp [cutS]
      rw [this, ih _ (fun l' hl' => h l' (by simp [hl']))]
      simp
  have := key ls [] h
  rw [List.nil_append] at this
  exact this
theorem flat_take (ls : List (List UInt8)) (k : Nat) : ((ls.map (· ++ [10])).take k).flatten = Wd.text (ls.take k) := by
  rw [← List.map_take]; simp [Wd.text, List.flatMap]
theorem flat_drop (ls : List (List UInt8)) (k : Nat) : ((ls.map (· ++ [10])).drop k).flatten = Wd.text (ls.drop k) := by
  rw [← List.map_drop]; simp [Wd.text, List.flatMap]
end Cd
end Go.Proofs.YtfjekckcpkkdiaaGreatDoor
namespace Go.Proofs.YtfjekckcpkkdiaaGreatDoor
open Go.RowKit

/-- The listed variables are laid, and what was there at W is as it was. -/
structure Env (W w : World) : Prop where
  laid : Laid w
  ops : LaidO w
  bel : Below W.heap.size W w
section
variable {W w w' : World}
theorem Env.start (hL : Laid W) (hO : LaidO W) : Env W W := ⟨hL, hO, Below.refl _ _⟩
theorem Env.next (h : Env W w) (hb : Below w.heap.size w w') : Env W w' := ⟨h.laid.below hb, h.ops.below hb, h.bel.trans (hb.mono h.bel.size)⟩
theorem bel_alloc (w : World) (o : Obj) : Below w.heap.size w (w.alloc o) := (Below.refl _ _).alloc (Nat.le_refl _) o
theorem Env.alloc (h : Env W w) (o : Obj) : Env W (w.alloc o) := h.next (bel_alloc w o)
theorem Env.drew (h : Env W w) : Env W w.drew := h.next ⟨rfl, rfl, rfl, Nat.le_refl _, fun _ _ => rfl⟩
theorem Env.tab (h : Env W w) : LaidT w := h.laid.tab
theorem bel_then {a b c : World} (h : Below a.heap.size a b) (k : Below b.heap.size b c) : Below a.heap.size a c := h.trans (k.mono h.size)
end

/-- Block g holds the program p. -/
def Held (w : World) (g : Nat) (A : Option Addr) (n c : Nat) (D : Option Addr) (m d : Nat) (p : Cd.Pr) : Prop :=
  Obl w g 25 #[.slice A n c, .slice D m d, .int .i64 p.pages] ∧ (Inss w w.heap.size A n p.code ∧ Strs w w.heap.size D m p.strs) ∧ (n ≤ 9223372036854775807 ∧ m ≤ 9223372036854775807)
section
variable {w w' : World} {g n c m d : Nat} {A D : Option Addr} {p : Cd.Pr}
theorem Held.below (h : Held w g A n c D m d p) (hb : Below w.heap.size w w') : Held w' g A n c D m d p :=
  ⟨h.1.below hb h.1.lt, ⟨(h.2.1.1.below hb).mono hb.size, (h.2.1.2.below hb).mono hb.size⟩, h.2.2⟩
theorem Held.alloc (h : Held w g A n c D m d p) (o : Obj) : Held (w.alloc o) g A n c D m d p := h.below (bel_alloc w o)
theorem Held.make (hi : Inss w w.heap.size A n p.code) (hs : Strs w w.heap.size D m p.strs) (hn : n ≤ 9223372036854775807) (hm : m ≤ 9223372036854775807) :
    Held (w.alloc (.cells #[.slice A n c, .slice D m d, .int .i64 p.pages] 25)) w.heap.size A n c D m d p :=
  ⟨Obl.make w _ _, ⟨(hi.below (bel_alloc w _)).mono (bel_alloc w _).size, (hs.below (bel_alloc w _)).mono (bel_alloc w _).size⟩, hn, hm⟩
theorem Held.lt (h : Held w g A n c D m d p) : g < w.heap.size := h.1.lt
theorem Held.c0 (h : Held w g A n c D m d p) : w.cell? ⟨g, 0, none⟩ = some (.slice A n c) := by have := h.1.cell 0; simpa using this
theorem Held.c1 (h : Held w g A n c D m d p) : w.cell? ⟨g, 1, none⟩ = some (.slice D m d) := by have := h.1.cell 1; simpa using this
theorem Held.c2 (h : Held w g A n c D m d p) : w.cell? ⟨g, 2, none⟩ = some (.int .i64 p.pages) := by have := h.1.cell 2; simpa using this
/-- Lists of a program whose strings are no longer than a machine's memory, and whose numbers are numbers of 64 bits. -/
def Fine (p : Cd.Pr) : Prop := (∀ x ∈ p.strs, x.length ≤ 9223372036854775807) ∧ ∀ x ∈ p.code, Cd.in64 x
theorem format_held (h : Held w g A n c D m d p) (hf : Fine p) (hO : LaidO w) (hT : LaidT w) : Calls Tryz.prog 13 #[.agg #[.slice A n c, .slice D m d, .int .i64 p.pages]] w (StrPost (Cd.format p) w) :=
  format4_any p A D n c m d w.heap.size w h.2.1.1 h.2.1.2 (Nat.le_refl _) h.2.2.1 h.2.2.2 hf.1 hf.2 hO hT
theorem refFormat_held (h : Held w g A n c D m d p) (hf : Fine p) : Calls Tryz.prog 14 #[.agg #[.slice A n c, .slice D m d, .int .i64 p.pages]] w (StrPost (Cd.format p) w) :=
  ref4Format_any p A D n c m d w.heap.size w h.2.1.1 h.2.1.2 (Nat.le_refl _) h.2.2.1 h.2.2.2 hf.1 hf.2
theorem check_held (h : Held w g A n c D m d p) (hf : Fine p) (hO : LaidO w) : Calls Tryz.prog 11 #[.agg #[.slice A n c, .slice D m d, .int .i64 p.pages]] w (IntsPost ((Cd.check p).1 : Int) ((Cd.check p).2 : Int) w) :=
  check_any p A D n c m d w.heap.size w h.2.1.1 h.2.1.2 (Nat.le_refl _) h.2.2.1 h.2.2.2 hf.1 hO
theorem refCheck_held (h : Held w g A n c D m d p) (hf : Fine p) : Calls Tryz.prog 12 #[.agg #[.slice A n c, .slice D m d, .int .i64 p.pages]] w (IntsPost ((Cd.check p).1 : Int) ((Cd.check p).2 : Int) w) :=
  refCheck_any p A D n c m d w.heap.size w h.2.1.1 h.2.1.2 (Nat.le_refl _) h.2.2.1 h.2.2.2 hf.1
theorem same_held {g' n' c' m' d' : Nat} {A' D' : Option Addr} {q : Cd.Pr} (h : Held w g A n c D m d p) (k : Held w g' A' n' c' D' m' d' q) :
    Calls Tryz.prog 15 #[.agg #[.slice A n c, .slice D m d, .int .i64 p.pages], .agg #[.slice A' n' c', .slice D' m' d', .int .i64 q.pages]] w fun e w' => e = .returned (.bool (decide (p = q))) ∧ Below w.heap.size w w' :=
  same_any p q A D A' D' n c m d n' c' m' d' w.heap.size w h.2.1.1 h.2.1.2 k.2.1.1 k.2.1.2 (Nat.le_refl _) h.2.2.1 h.2.2.2 k.2.2.1 k.2.2.2
theorem refSame_held {g' n' c' m' d' : Nat} {A' D' : Option Addr} {q : Cd.Pr} (h : Held w g A n c D m d p) (k : Held w g' A' n' c' D' m' d' q) :
    Calls Tryz.prog 16 #[.agg #[.slice A n c, .slice D m d, .int .i64 p.pages], .agg #[.slice A' n' c', .slice D' m' d', .int .i64 q.pages]] w fun e w' => e = .returned (.bool (decide (p = q))) ∧ Below w.heap.size w w' :=
  ref4Same_any p q A D A' D' n c m d n' c' m' d' w.heap.size w h.2.1.1 h.2.1.2 k.2.1.1 k.2.1.2 (Nat.le_refl _) h.2.2.1 h.2.2.2 k.2.2.1 k.2.2.2
end
/-- One number of one instruction is written. -/
theorem iv_set (l : List Cd.Ins) (i : Nat) (hi : i < l.length) (v : Int) :
    (iv l).set (i * 4) (.int .i64 v) = iv (l.set i ⟨v, l[i].a, l[i].b, l[i].c⟩) ∧ (iv l).set (i * 4 + 1) (.int .i64 v) = iv (l.set i ⟨l[i].op, v, l[i].b, l[i].c⟩) ∧
    (iv l).set (i * 4 + 2) (.int .i64 v) = iv (l.set i ⟨l[i].op, l[i].a, v, l[i].c⟩) ∧ (iv l).set (i * 4 + 3) (.int .i64 v) = iv (l.set i ⟨l[i].op, l[i].a, l[i].b, v⟩) := by
  induction l generalizing i with
  | nil => simp at hi
  | cons x l ih =>
    rcases i with _ | i
    · simp [iv, ic]
    · have h := ih i (by simpa using hi)
      have e : ∀ (j : Nat) (u : Value), (iv (x :: l)).set (j + 4) u = ic x ++ (iv l).set j u := by
        intro j u
        rw [iv_cons, List.set_append_right _ _ (by simp [ic])]
        congr 1
      simp only [List.set_cons_succ, List.getElem_cons_succ, iv_cons]
      rw [show (i + 1) * 4 = i * 4 + 4 by omega, show i * 4 + 4 + 1 = (i * 4 + 1) + 4 by omega, show i * 4 + 4 + 2 = (i * 4 + 2) + 4 by omega, show i * 4 + 4 + 3 = (i * 4 + 3) + 4 by omega, ← iv_cons, e, e, e, e, h.1, h.2.1, h.2.2.1, h.2.2.2]
      exact ⟨rfl, rfl, rfl, rfl⟩
/-- What parsing gave, opened. -/
theorem ParsePost.got {r : Cd.Pr × Nat × Nat} {p : Cd.Pr} {i er : Nat} {w w' : World} {e : Ending} (h : ParsePost r w e w') (hr : r = (p, i, er)) :
    ∃ A n c D m d, e = .returned (.tuple #[.agg #[.slice A n c, .slice D m d, .int .i64 p.pages], .int .i64 (i : Int), .int .i64 (er : Int)]) ∧ (Inss w' w'.heap.size A n p.code ∧ Strs w' w'.heap.size D m p.strs) ∧ (n ≤ 9223372036854775807 ∧ m ≤ 9223372036854775807) ∧ Below w.heap.size w w' := by
  subst hr
  obtain ⟨A, n, c, D, m, d, he, h1, h2, h3⟩ := h
  exact ⟨A, n, c, D, m, d, he, h1, h2, h3⟩
theorem StrPost.got {r : List UInt8 × Nat} {l : List UInt8} {er : Nat} {w w' : World} {e : Ending} (h : StrPost r w e w') (hr : r = (l, er)) :
    e = .returned (.tuple #[.string ⟨l.toArray⟩, .int .i64 (er : Int)]) ∧ Below w.heap.size w w' := by subst hr; exact h
end Go.Proofs.YtfjekckcpkkdiaaGreatDoor
namespace Go.Proofs.YtfjekckcpkkdiaaGreatDoor
open Go.RowKit

def saneP : Cd.Pr := ⟨[⟨1, 1, 5, 0⟩, ⟨12, 1, 0, 0⟩], [], 0⟩
def saneT : List UInt8 := [112, 97, 103, 101, 115, 32, 48, 10, 115, 101, 116, 32, 114, 49, 32, 53, 10, 99, 97, 108, 108, 32, 49, 10]
theorem sane_parse : Cd.parse [115, 101, 116, 32, 114, 49, 32, 53, 10, 99, 97, 108, 108, 32, 49, 10] = (saneP, 0, 0) := by kernel_rfl
theorem sane_format : Cd.format saneP = (saneT, 0) := by kernel_rfl

/-- What a program's short: some answer. -/
def KeepPost (w : World) (e : Ending) (w' : World) : Prop := ∃ v, e = .returned (.bool v) ∧ Below w.heap.size w w'
set_option maxRecDepth 100000 in
set_option maxHeartbeats 4000000 in
theorem short_any (strs : List (List UInt8)) (A D : Option Addr) (n c m d B : Nat) (pages : Int) (w : World) (hs : Strs w B D m strs) (hB : B ≤ w.heap.size) (hn : n ≤ 9223372036854775807) (hm : m ≤ 9223372036854775807) (hl : ∀ x ∈ strs, x.length ≤ 9223372036854775807) :
    Calls Tryz.prog 9 #[pa A n c D m d pages] w (KeepPost w) := by
  unfold pa
  have hml := hs.len
  have O1 := Obl.make w 25 #[.slice A n c, .slice D m d, .int .i64 pages]
  have hs1 : Strs (w.alloc (.cells #[.slice A n c, .slice D m d, .int .i64 pages] 25)) B D m strs := hs.below ((Below.refl _ _).alloc hB _)
  have HM : Hid (∀ k (h : k < strs.length), strs[k].length ≤ 9223372036854775807) := hide (fun k h => hl _ (List.getElem_mem h))
  have hbw0 : Below w.heap.size w (w.alloc (.cells #[.slice A n c, .slice D m d, .int .i64 pages] 25)) := (Below.refl _ _).alloc (Nat.le_refl _) _
  have q0 := O1.cell 0
  have q1 := O1.cell 1
  simp at q0 q1
  clear hl hs
  go_enter Tryz.func9, Tryz.ntmps9
  go_wp2_with fail
  go_loop [8] (fun s8 => ∃ k : Nat, s8 = .int .i64 (k : Int) ∧ k ≤ m) (fun s8 => m - (intOf s8).toNat)
  case atStart => exact ⟨0, rfl, by omega⟩
  case round =>
    obtain ⟨k, rfl, hk⟩ := hrel
    by_cases hlt : k < m
    · obtain ⟨b, o, hkl, rfl, hb, hcell⟩ := hs1.at_ hlt
      have hx : (⟨strs[k].toArray⟩ : ByteArray).size ≤ 9223372036854775807 := by rw [ba_size]; exact HM.out k hkl
      generalize (⟨strs[k].toArray⟩ : ByteArray) = xs at *
      by_cases hlong : 200 < xs.size
      · go_wp2
        go_ret
        exact ⟨_, rfl, hbw0⟩
      · go_wp2
        go_round
        case rel => exact ⟨k + 1, by go_num, by omega⟩
        case measure => simp [intOf]; omega
    · by_cases h3 : n ≤ 300
      · go_wp2
        go_ret
        exact ⟨_, rfl, hbw0⟩
      · go_wp2
        go_ret
        exact ⟨_, rfl, hbw0⟩

set_option maxRecDepth 100000 in
set_option maxHeartbeats 4000000 in
theorem sane_any (w : World) (hL : Laid w) (hO : LaidO w) (hT : LaidT w) :
    Calls Tryz.prog 8 #[] w fun e w' => e = .returned (.bool true) ∧ Below w.heap.size w w' := by
  have HL := hide hL
  have HO := hide hO
  have HT := hide hT
  clear hL hO hT
  go_enter Tryz.func8, Tryz.ntmps8
  go_wp2_with fail
  refine (parse4_any _ _ (by decide) HL.out HO.out).mono ?_
  rintro e w1 h
  rw [sane_parse] at h
  obtain ⟨A, n, c, D, m, d, rfl, ⟨hi, hs⟩, ⟨hn, hm⟩, hb⟩ := h
  simp only [saneP] at hi hs
  obtain rfl : n = 2 := by have := hi.len; simpa using this.symm
  obtain rfl : m = 0 := by have := hs.len; simpa using this.symm
  have hi1 := hi.alloc (Nat.le_refl _) (.cells #[.slice A 2 c, .slice D 0 d, .int .i64 0] 25)
  have hs1 : Strs (w1.alloc (.cells #[.slice A 2 c, .slice D 0 d, .int .i64 0] 25)) w1.heap.size D 0 [] := Strs.nil
  have O1 := Obl.make w1 25 #[.slice A 2 c, .slice D 0 d, .int .i64 0]
  have HB1 := hide (hb.trans ((Below.refl w.heap.size w1).alloc hb.size (.cells #[.slice A 2 c, .slice D 0 d, .int .i64 0] 25)))
  have HO1 := hide ((HO.out.below hb).alloc (.cells #[.slice A 2 c, .slice D 0 d, .int .i64 0] 25))
  have HT1 := hide (LaidT.below (LaidT.below HT.out hb) ((Below.refl _ _).alloc (Nat.le_refl _) (.cells #[.slice A 2 c, .slice D 0 d, .int .i64 0] 25)))
  clear hb hi hs
  simp only [pa, saneP]
  go_wp2_with fail
  refine (format4_any saneP A D 2 c 0 d w1.heap.size _ hi1 hs1 (by simp) (by omega) (by omega) (by simp [saneP]) (by simp [saneP, Cd.in64]) HO1.out HT1.out).mono ?_
  rintro e w2 h
  rw [sane_format] at h
  obtain ⟨rfl, hb2⟩ := h
  simp only [saneT]
  have O2 := O1.below hb2 O1.lt
  have hi2 := hi1.belowLe hb2 (by simp)
  have HB2 := hide (HB1.out.trans (hb2.mono HB1.out.size))
  have hs2 := hs1.belowLe hb2 (by simp)
  have hsz2 := hb2.size
  simp only [World.size_alloc] at hsz2
  obtain ⟨b, o, _, rfl, hbl, c0, c1, c2, c3⟩ := hi2.at_ (i := 0) (by omega)
  generalize w1.alloc (.cells #[.slice (some ⟨b, o, none⟩) 2 c, .slice D 0 d, .int .i64 0] 25) = w1' at *
  have q0 := O2.cell 0
  have q1 := O2.cell 1
  have q2 := O2.cell 2
  simp at q0 q1 q2 c0 c1 c2 c3
  clear hb2 O1
  go_wp2_with fail
  refine (same_any saneP saneP (some ⟨b, o, none⟩) D (some ⟨b, o, none⟩) D 2 c 0 d 2 c 0 d w1.heap.size w2 hi2 hs2 hi2 hs2 (by omega) (by omega) (by omega) (by omega) (by omega)).mono ?_
  rintro e w3 ⟨rfl, hb3⟩
  have HB3 := hide (HB2.out.trans (hb3.mono HB2.out.size))
  have e1 : decide (saneP = saneP) = true := by simp
  rw [e1]
  clear hb3 e1
  go_wp2
  go_ret
  exact ⟨rfl, HB3.out⟩
end Go.Proofs.YtfjekckcpkkdiaaGreatDoor
