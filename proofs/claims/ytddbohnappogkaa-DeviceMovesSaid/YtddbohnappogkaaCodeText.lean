/- Layer 4, plain mathematics: a program comes back from its text. Nothing of the program. -/
import Derived.Test.YtddbohnappogkaaCodeMath
namespace Go.Proofs.Ytddbohnappogkaa
namespace Cd

/-- The number of a word that stands for an operand. -/
def regW (w : List UInt8) : Option Int := if w.length = 2 ∧ w.getD 0 0 = 114 ∧ Wd.dig (w.getD 1 0) = true then some (((w.getD 1 0).toNat : Int) - 48) else none
def readOp (f : UInt8) (w : List UInt8) : Option Int := if f = 114 then regW w else if (Wd.number w).2 = 0 then some (Wd.number w).1 else none
def valAt (o : Opn) (ws : List (List UInt8)) (i : Nat) : Option Int := if i < o.form.length then readOp (o.form.getD i 0) (ws.getD i []) else some 0
def findOp (w : List UInt8) : Option Nat := tbl.findIdx? fun o => decide (o.name = w)
def vals (o : Opn) (ws : List (List UInt8)) (op : Nat) : Option Ins := match valAt o ws 0, valAt o ws 1, valAt o ws 2 with
  | some a, some b, some c => some ⟨(op : Int), a, b, c⟩
  | _, _, _ => none
def instr (w : List UInt8) (rest : List (List UInt8)) : Option Ins := match findOp w with
  | none => none
  | some op => if rest.length = (opn (op : Int)).form.length then vals (opn (op : Int)) rest op else none

/-- How far a text has been read. -/
structure St where
  paged : Bool
  prog : Pr
def zero : Pr := ⟨[], [], 0⟩
def start : St := ⟨false, zero⟩
def part (s : St) : Nat := if s.prog.code ≠ [] then 2 else if s.paged = true ∨ s.prog.strs ≠ [] then 1 else 0
def readPages (s : St) (rest : List (List UInt8)) : Option St := if part s = 0 ∧ rest.length = 1 then (readOp 110 (rest.getD 0 [])).map fun n => ⟨true, ⟨s.prog.code, s.prog.strs, n⟩⟩ else none
def readStr (s : St) (rest : List (List UInt8)) : Option St := if part s ≠ 2 ∧ rest.length = 1 then some ⟨s.paged, ⟨s.prog.code, s.prog.strs ++ [rest.getD 0 []], s.prog.pages⟩⟩ else none
def readIns (s : St) (w : List UInt8) (rest : List (List UInt8)) : Option St := (instr w rest).map fun x => ⟨s.paged, ⟨s.prog.code ++ [x], s.prog.strs, s.prog.pages⟩⟩
def readWords (s : St) (w : List UInt8) (rest : List (List UInt8)) : Option St := if w = pagesW then readPages s rest else if w = stringW then readStr s rest else readIns s w rest
def passed (line : List UInt8) : Bool := decide (line = []) || decide (line.head? = some 35)
def readLine (s : St) (line : List UInt8) : Except Nat St :=
  if passed line then .ok s else if (Wd.split line).2 = 0 then (match (Wd.split line).1 with
    | [] => .error 5
    | w :: rest => match readWords s w rest with
      | some s' => .ok s'
      | none => .error 5) else .error (Wd.split line).2
def parseG (s : St) (k : Nat) : List (List UInt8) → Pr × Nat × Nat
  | [] => if (check s.prog).2 = 0 then (s.prog, 0, 0) else (zero, 0, (check s.prog).2)
  | l :: r => match readLine s l with
    | .ok s' => parseG s' (k + 1) r
    | .error e => (zero, k + 1, e)
def parse (t : List UInt8) : Pr × Nat × Nat := if 65536 < t.length then (zero, 0, 3) else parseG start 0 (Wd.lines t)

theorem findOp_at (k : Nat) (h : k < 13) : findOp (opn (k : Int)).name = some k := by
  have : ∀ k : Fin 13, findOp (opn ((k : Nat) : Int)).name = some (k : Nat) := by decide
  exact this ⟨k, h⟩
theorem reg_back : ∀ v : Fin 8, regW (114 :: Lib.itoa ((v : Nat) : Int)) = some ((v : Nat) : Int) := by
  intro v
  have h10 : (v : Nat) < 10 := by omega
  have e : Lib.itoa ((v : Nat) : Int) = [UInt8.ofNat (48 + (v : Nat))] := by
    unfold Lib.itoa
    rw [if_neg (by omega), Int.toNat_natCast, Lib.decDigits, dif_pos h10]
  have hu : (UInt8.ofNat (48 + (v : Nat))).toNat = 48 + (v : Nat) := by simp [UInt8.toNat_ofNat']; omega
  have hd : Wd.dig (UInt8.ofNat (48 + (v : Nat))) = true := by rw [Wd.dig_iff, hu]; omega
  rw [e]
  unfold regW
  rw [if_pos ⟨rfl, rfl, hd⟩]
  show some (((UInt8.ofNat (48 + (v : Nat))).toNat : Int) - 48) = _
  rw [hu]
  simp only [Option.some.injEq]
  omega
theorem fits_reg {o : Opn} {n i : Nat} {v : Int} (h : fits o n i v = true) (hi : i < o.form.length) (hf : o.form.getD i 0 = 114) : 0 ≤ v ∧ v ≤ 7 := by
  unfold fits bnd at h
  rw [List.getElem?_eq_getElem hi] at h
  rw [getD_at _ _ hi] at hf
  simp only [hf, if_true, Bool.and_eq_true, decide_eq_true_eq] at h
  exact h
theorem fits_none {o : Opn} {n i : Nat} {v : Int} (h : fits o n i v = true) (hi : ¬ i < o.form.length) : v = 0 := by
  unfold fits bnd at h
  rw [List.getElem?_eq_none (by omega)] at h
  simp only [Bool.and_eq_true, decide_eq_true_eq] at h
  omega
theorem read_operand {f : UInt8} {v : Int} (h1 : -9223372036854775808 ≤ v) (h2 : v ≤ 9223372036854775807) (hr : f = 114 → 0 ≤ v ∧ v ≤ 7) : readOp f (operand f v) = some v := by
  unfold readOp operand
  split
  · rename_i hf
    obtain ⟨g1, g2⟩ := hr hf
    have := reg_back ⟨v.toNat, by omega⟩
    simp only [Int.toNat_of_nonneg g1] at this
    exact this
  · rw [Wd.number_itoa h1 h2]; rfl
theorem right_fits {n : Nat} {x : Ins} (h : right n x = true) : (0 ≤ x.op ∧ x.op ≤ 12) ∧ ∀ i, i < 3 → fits (opn x.op) n i (arg x i) = true := by
  unfold right at h
  simp only [Bool.and_eq_true, decide_eq_true_eq] at h
  refine ⟨h.1, fun i hi => ?_⟩
  rcases i with _ | _ | _ | i
  · exact h.2.1
  · exact h.2.2.1
  · exact h.2.2.2
  · omega
theorem opWords_len (x : Ins) (k : Nat) : (opWords x k).length = k := by simp [opWords]
theorem instr_back {n : Nat} {x : Ins} (h : right n x = true) (h64 : in64 x) : instr (opn x.op).name (opWords x (opn x.op).form.length) = some x := by
  obtain ⟨⟨h0, h1⟩, hf⟩ := right_fits h
  have hv : ∀ i, i < 3 → valAt (opn x.op) (opWords x (opn x.op).form.length) i = some (arg x i) := by
    intro i hi
    have hfi := hf i hi
    unfold valAt
    split
    · rename_i hlt
      have e : (opWords x (opn x.op).form.length).getD i [] = opWord x i := by
        rw [getD_at _ _ (by rw [opWords_len]; exact hlt)]
        simp [opWords]
      rw [e]
      unfold opWord
      exact read_operand (arg64 h64 i).1 (arg64 h64 i).2 fun hf => fits_reg hfi hlt hf
    · rename_i hlt
      rw [fits_none hfi hlt]
  obtain ⟨op, a, b, c⟩ := x
  simp only at h0 h1 hv ⊢
  obtain ⟨k, rfl⟩ := Int.eq_ofNat_of_zero_le h0
  unfold instr
  rw [findOp_at k (by omega)]
  simp only
  rw [if_pos (opWords_len _ _)]
  unfold vals
  rw [hv 0 (by omega), hv 1 (by omega), hv 2 (by omega)]
  rfl

theorem linesG_end (y cur r : List UInt8) (hy : ∀ c ∈ y, c ≠ 10) : Wd.linesG cur (y ++ (10 :: r)) = (cur ++ y) :: Wd.linesG [] r := by
  induction y generalizing cur with
  | nil => simp [Wd.linesG]
  | cons c y ih =>
    have hc : c.toNat ≠ 10 := fun hc => hy c (by simp) (UInt8.toNat_inj.1 hc)
    rw [List.cons_append, Wd.linesG, if_neg hc, ih _ (fun d hd => hy d (by simp [hd]))]
    simp
theorem lines_cons {y : List UInt8} (hy : ∀ c ∈ y, c ≠ 10) (r : List UInt8) : Wd.lines (y ++ [10] ++ r) = y :: Wd.lines r := by
  have := linesG_end y [] r hy
  unfold Wd.lines
  rw [List.append_assoc]
  exact this
theorem lines_text (ls : List (List UInt8)) (h : ∀ l ∈ ls, ∀ c ∈ l, c ≠ 10) (r : List UInt8) : Wd.lines (Wd.text ls ++ r) = ls ++ Wd.lines r := by
  induction ls with
  | nil => rfl
  | cons l ls ih =>
    unfold Wd.text at ih ⊢
    rw [List.flatMap_cons, List.append_assoc, lines_cons (h l (by simp)), ih fun l' hl' => h l' (by simp [hl'])]
    rfl

/-- The lines of a program, as words, and as they are written. -/
def wordLines (p : Pr) : List (List (List UInt8)) := [pagesW, Lib.itoa p.pages] :: (p.strs.map (fun s => [stringW, s]) ++ p.code.map insWords)
def lineList (p : Pr) : List (List UInt8) := (wordLines p).map fun l => (Wd.join l).1
theorem text_lineList (p : Pr) : text p = Wd.text (lineList p) := by
  unfold text lineList wordLines Wd.text pagesL
  rw [List.map_cons, List.flatMap_cons, List.map_append, List.flatMap_append, List.map_map, List.map_map, List.flatMap_map, List.flatMap_map, List.append_assoc]
  rfl
theorem lineList_10 (p : Pr) : ∀ l ∈ lineList p, ∀ c ∈ l, c ≠ 10 := by
  intro l hl
  simp only [lineList, List.mem_map] at hl
  obtain ⟨ws, _, rfl⟩ := hl
  exact Wd.join_10 ws

/-- Lines that are read, one after the other. -/
def steps (s : St) : List (List UInt8) → Option St
  | [] => some s
  | l :: r => match readLine s l with
    | .ok s' => steps s' r
    | .error _ => none
theorem parseG_steps (a b : List (List UInt8)) (s s' : St) (k : Nat) (h : steps s a = some s') : parseG s k (a ++ b) = parseG s' (k + a.length) b := by
  induction a generalizing s k with
  | nil => simp only [steps, Option.some.injEq] at h; subst h; rfl
  | cons l a ih =>
    unfold steps at h
    rw [List.cons_append, parseG]
    cases hl : readLine s l with
    | error e => rw [hl] at h; simp at h
    | ok s1 =>
      rw [hl] at h
      simp only at h ⊢
      rw [ih s1 (k + 1) h, List.length_cons]
      congr 1
      omega
theorem steps_append (a b : List (List UInt8)) (s s' : St) (h : steps s a = some s') : steps s (a ++ b) = steps s' b := by
  induction a generalizing s with
  | nil => simp only [steps, Option.some.injEq] at h; subst h; rfl
  | cons l a ih =>
    unfold steps at h
    rw [List.cons_append, steps]
    cases hl : readLine s l with
    | error e => rw [hl] at h; simp at h
    | ok s1 =>
      rw [hl] at h
      exact ih s1 h
/-- A line of words whose first one is a name. -/
theorem readLine_join {s : St} {w : List UInt8} {r : List (List UInt8)} {t : List UInt8} (h : Wd.join (w :: r) = (w ++ t, 0)) (h0 : w ≠ []) (h35 : w.head? ≠ some 35) :
    readLine s (Wd.join (w :: r)).1 = match readWords s w r with
      | some s' => .ok s'
      | none => .error 5 := by
  have hs := Wd.split_join (l := w :: r) (by rw [h])
  unfold readLine
  have hp : passed (Wd.join (w :: r)).1 = false := by
    rw [h]
    cases w with
    | nil => exact absurd rfl h0
    | cons c w =>
      unfold passed
      simp only [List.cons_append, List.head?_cons] at h35 ⊢
      simp [h35]
  rw [if_neg (by simp [hp]), hs]
  rfl

theorem readLine_pages {s : St} {n : Int} (h1 : -9223372036854775808 ≤ n) (h2 : n ≤ 9223372036854775807) (hp : part s = 0) : readLine s (Wd.join [pagesW, Lib.itoa n]).1 = .ok ⟨true, ⟨s.prog.code, s.prog.strs, n⟩⟩ := by
  rw [readLine_join (pages_join h1 h2) (by decide) (by decide)]
  have : readOp 110 (Lib.itoa n) = some n := read_operand (f := 110) h1 h2 (fun h => absurd h (by decide))
  simp [readWords, readPages, hp, this]
theorem readLine_str {s : St} {x : List UInt8} (h : x.length ≤ 2000) (hp : part s ≠ 2) : readLine s (Wd.join [stringW, x]).1 = .ok ⟨s.paged, ⟨s.prog.code, s.prog.strs ++ [x], s.prog.pages⟩⟩ := by
  rw [readLine_join (str_join h) (by decide) (by decide)]
  have : stringW ≠ pagesW := by decide
  simp [readWords, readStr, hp, this]
theorem readLine_ins {n : Nat} {s : St} {x : Ins} (h : right n x = true) (h64 : in64 x) : readLine s (Wd.join (insWords x)).1 = .ok ⟨s.paged, ⟨s.prog.code ++ [x], s.prog.strs, s.prog.pages⟩⟩ := by
  obtain ⟨⟨h0, h1⟩, _⟩ := right_fits h
  obtain ⟨_, n2, _, n4, n5, n6⟩ := name_ok h0 h1
  have hj := insWords_join h64 h0 h1
  unfold insWords at hj ⊢
  rw [readLine_join hj n2 n4]
  have := instr_back h h64
  simp [readWords, n5, n6, readIns, this]
theorem part_code {s : St} (h : s.prog.code = []) : part s ≠ 2 := by
  unfold part
  rw [if_neg (by simp [h])]
  split <;> omega

theorem steps_strs (l : List (List UInt8)) (s : St) (hl : ∀ x ∈ l, x.length ≤ 2000) (hc : s.prog.code = []) : steps s (l.map fun x => (Wd.join [stringW, x]).1) = some ⟨s.paged, ⟨s.prog.code, s.prog.strs ++ l, s.prog.pages⟩⟩ := by
  induction l generalizing s with
  | nil => simp [steps]
  | cons x l ih =>
    rw [List.map_cons, steps, readLine_str (hl x (by simp)) (part_code hc)]
    exact (ih ⟨s.paged, ⟨s.prog.code, s.prog.strs ++ [x], s.prog.pages⟩⟩ (fun y hy => hl y (by simp [hy])) hc).trans (by simp)
theorem steps_code {n : Nat} (l : List Ins) (s : St) (hl : ∀ x ∈ l, right n x = true ∧ in64 x) : steps s (l.map fun x => (Wd.join (insWords x)).1) = some ⟨s.paged, ⟨s.prog.code ++ l, s.prog.strs, s.prog.pages⟩⟩ := by
  induction l generalizing s with
  | nil => simp [steps]
  | cons x l ih =>
    rw [List.map_cons, steps, readLine_ins (hl x (by simp)).1 (hl x (by simp)).2]
    exact (ih ⟨s.paged, ⟨s.prog.code ++ [x], s.prog.strs, s.prog.pages⟩⟩ (fun y hy => hl y (by simp [hy]))).trans (by simp)
/-- A right program of numbers of 64 bits. -/
def Good (p : Pr) : Prop := (check p).2 = 0 ∧ ∀ x ∈ p.code, in64 x
theorem steps_all {p : Pr} (h : Good p) : steps start (lineList p) = some ⟨true, p⟩ := by
  obtain ⟨hc, h64⟩ := h
  obtain ⟨⟨h1, h2, h3⟩, ⟨h4, h5⟩, h6⟩ := ok_of_check hc
  unfold lineList wordLines
  rw [List.map_cons, List.map_append, List.map_map, List.map_map, steps, readLine_pages (by omega) (by omega) (by rfl)]
  rw [show p.strs.map ((fun l => (Wd.join l).1) ∘ fun s => [stringW, s]) = p.strs.map fun x => (Wd.join [stringW, x]).1 from rfl, show p.code.map ((fun l => (Wd.join l).1) ∘ insWords) = p.code.map fun x => (Wd.join (insWords x)).1 from rfl]
  simp only
  rw [steps_append _ _ _ _ (steps_strs p.strs ⟨true, ⟨start.prog.code, start.prog.strs, p.pages⟩⟩ (fun x hx => by have := h3 x hx; omega) rfl)]
  have := steps_code p.code ⟨true, ⟨start.prog.code, start.prog.strs ++ p.strs, p.pages⟩⟩ (fun x hx => ⟨h6 x hx, h64 x hx⟩)
  simpa [start, zero] using this
theorem flat_le {α : Type} (f : α → List UInt8) (l : List α) (k : Nat) (h : ∀ x ∈ l, (f x).length ≤ k) : (l.flatMap f).length ≤ l.length * k := by
  induction l with
  | nil => simp
  | cons x l ih =>
    have h1 := h x (by simp)
    have h2 := ih fun y hy => h y (by simp [hy])
    rw [List.flatMap_cons, List.length_append, List.length_cons, Nat.add_mul]
    omega
theorem pagesL_le {n : Int} (h1 : -9223372036854775808 ≤ n) (h2 : n ≤ 9223372036854775807) : (pagesL n).length ≤ 40 := by
  unfold pagesL lineOf
  rw [pages_join h1 h2]
  have := Wd.itoa_le h1 h2
  simp [pagesW]; omega
theorem strL_le {s : List UInt8} (h : s.length ≤ 2000) : (strL s).length ≤ 2 * s.length + 10 := by
  unfold strL lineOf
  rw [str_join h]
  have := Wd.written_le s
  simp [stringW]; omega
theorem insL_le {x : Ins} (h : in64 x) (h0 : 0 ≤ x.op) (h1 : x.op ≤ 12) : (insL x).length ≤ 110 := by
  rw [insL_eq h h0 h1]
  have hn := (name_ok h0 h1).2.2.1
  have hf := form_le x.op
  have hs := opWords_size h (opn x.op).form.length
  have e := tail_len (opWords x (opn x.op).form.length)
  rw [hs.2] at e
  simp only [List.length_append, e, List.length_cons, List.length_nil]
  omega
theorem text_le {p : Pr} (h : Good p) : (text p).length ≤ 60000 := by
  obtain ⟨hc, h64⟩ := h
  obtain ⟨⟨h1, h2, h3⟩, ⟨h4, h5⟩, h6⟩ := ok_of_check hc
  have l1 := pagesL_le (n := p.pages) (by omega) (by omega)
  have l2 := flat_le strL p.strs 270 (fun s hs => by have := h3 s hs; have := strL_le (s := s) (by omega); omega)
  have l3 := flat_le insL p.code 110 (fun x hx => by obtain ⟨⟨g0, g1⟩, _⟩ := right_fits (h6 x hx); exact insL_le (h64 x hx) g0 g1)
  unfold text
  simp only [List.length_append]
  omega
theorem parse_text {p : Pr} (h : Good p) : parse (text p) = (p, 0, 0) := by
  have hl := text_le h
  unfold parse
  rw [if_neg (by omega), text_lineList]
  have hx := lines_text (lineList p) (lineList_10 p) []
  rw [List.append_nil, show Wd.lines [] = [] from rfl, List.append_nil] at hx
  rw [hx]
  have := parseG_steps (lineList p) [] start _ 0 (steps_all h)
  rw [List.append_nil] at this
  rw [this, parseG]
  rw [if_pos h.1]
end Cd
end Go.Proofs.Ytddbohnappogkaa
