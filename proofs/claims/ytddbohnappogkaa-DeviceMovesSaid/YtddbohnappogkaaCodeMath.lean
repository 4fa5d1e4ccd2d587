/- Layer 4, plain mathematics of programs and their text. Nothing of the program. -/
import Derived.Test.YtddbohnappogkaaWordsMath
import Derived.Test.YtddbohnappogkaaNumMath
namespace Go.Proofs.Ytddbohnappogkaa
namespace Cd

theorem getD_at {α : Type} (l : List α) (d : α) {i : Nat} (h : i < l.length) : l.getD i d = l[i] := by simp [List.getD, h]
/-- An instruction. -/
structure Ins where
  op : Int
  a : Int
  b : Int
  c : Int
deriving DecidableEq
/-- A program. -/
structure Pr where
  code : List Ins
  strs : List (List UInt8)
  pages : Int
deriving DecidableEq
/-- An operation: its name, the letters of its operands, and what its number may be. -/
structure Opn where
  name : List UInt8
  form : List UInt8
  least : Int
  most : Int
deriving DecidableEq

def tbl : List Opn := [
  ⟨[110, 111, 112], [], 0, 0⟩,
  ⟨[115, 101, 116], [114, 110], -9007199254740992, 9007199254740992⟩,
  ⟨[109, 111, 118, 101], [114, 114], 0, 0⟩,
  ⟨[97, 100, 100], [114, 114, 114], 0, 0⟩,
  ⟨[115, 117, 98], [114, 114, 114], 0, 0⟩,
  ⟨[109, 117, 108], [114, 114, 114], 0, 0⟩,
  ⟨[108, 101, 115, 115], [114, 114, 114], 0, 0⟩,
  ⟨[101, 113, 117, 97, 108], [114, 114, 114], 0, 0⟩,
  ⟨[106, 117, 109, 112], [116], 0, 0⟩,
  ⟨[105, 102], [114, 116], 0, 0⟩,
  ⟨[108, 111, 97, 100], [114, 114, 110], 0, 256⟩,
  ⟨[115, 116, 111, 114, 101], [114, 114, 110], 0, 256⟩,
  ⟨[99, 97, 108, 108], [110], 1, 24⟩]
theorem tbl_len : tbl.length = 13 := rfl
def none_ : Opn := ⟨[], [], 0, 0⟩
/-- The operation of a number. -/
def opn (op : Int) : Opn := if 0 ≤ op ∧ op ≤ 12 then tbl.getD op.toNat none_ else none_
theorem opn_nat (k : Nat) (h : k < 13) : opn (k : Int) = tbl[k]'h := by
  unfold opn
  rw [if_pos (by omega), Int.toNat_natCast, getD_at _ _ (by rw [tbl_len]; exact h)]
  rfl
theorem opn_cases {q : Opn → Prop} (h : ∀ o ∈ tbl, q o) {op : Int} (h0 : 0 ≤ op) (h1 : op ≤ 12) : q (opn op) := by
  obtain ⟨k, rfl⟩ := Int.eq_ofNat_of_zero_le h0
  rw [opn_nat k (by omega)]
  exact h _ (List.getElem_mem _)

/-- The least and the greatest value of operand i, in a program of n instructions. -/
def bnd (o : Opn) (n i : Nat) : Int × Int := match o.form[i]? with
  | none => (0, 0)
  | some f => if f = 114 then (0, 7) else if f = 116 then (0, (n : Int)) else (o.least, o.most)
def arg (x : Ins) (i : Nat) : Int := if i = 0 then x.a else if i = 1 then x.b else if i = 2 then x.c else 0
def fits (o : Opn) (n i : Nat) (v : Int) : Bool := decide ((bnd o n i).1 ≤ v) && decide (v ≤ (bnd o n i).2)
def right (n : Nat) (x : Ins) : Bool := (decide (0 ≤ x.op) && decide (x.op ≤ 12)) && (fits (opn x.op) n 0 x.a && (fits (opn x.op) n 1 x.b && fits (opn x.op) n 2 x.c))

def bad (n : Nat) (l : List Ins) : Option Nat := l.findIdx? fun x => !right n x
/-- The index and the error. -/
def check (p : Pr) : Nat × Nat :=
  if (256 < p.code.length ∨ 32 < p.strs.length) ∨ (p.strs.any fun s => decide (128 < s.length)) = true then (0, 3)
  else if p.pages < 0 ∨ 16 < p.pages then (0, 2)
  else match bad p.code.length p.code with
    | some i => (i, 1)
    | none => (0, 0)

theorem check_limit {p : Pr} (h : (256 < p.code.length ∨ 32 < p.strs.length) ∨ (p.strs.any fun s => decide (128 < s.length)) = true) : check p = (0, 3) := by unfold check; rw [if_pos h]
theorem check_range {p : Pr} (h : ¬ ((256 < p.code.length ∨ 32 < p.strs.length) ∨ (p.strs.any fun s => decide (128 < s.length)) = true)) (h2 : p.pages < 0 ∨ 16 < p.pages) : check p = (0, 2) := by unfold check; rw [if_neg h, if_pos h2]
theorem check_bad {p : Pr} (h : ¬ ((256 < p.code.length ∨ 32 < p.strs.length) ∨ (p.strs.any fun s => decide (128 < s.length)) = true)) (h2 : ¬ (p.pages < 0 ∨ 16 < p.pages)) {i : Nat} (hi : i < p.code.length)
    (hb : right p.code.length p.code[i] = false) (ha : ∀ j, (hj : j < i) → right p.code.length (p.code[j]'(by omega)) = true) : check p = (i, 1) := by
  unfold check
  rw [if_neg h, if_neg h2]
  have : bad p.code.length p.code = some i := by
    unfold bad
    rw [List.findIdx?_eq_some_iff_getElem]
    exact ⟨hi, by simp [hb], fun j hj => by simp [ha j hj]⟩
  rw [this]
theorem check_ok {p : Pr} (h : ¬ ((256 < p.code.length ∨ 32 < p.strs.length) ∨ (p.strs.any fun s => decide (128 < s.length)) = true)) (h2 : ¬ (p.pages < 0 ∨ 16 < p.pages))
    (ha : ∀ j, (hj : j < p.code.length) → right p.code.length (p.code[j]'hj) = true) : check p = (0, 0) := by
  unfold check
  rw [if_neg h, if_neg h2]
  have : bad p.code.length p.code = none := by
    unfold bad
    rw [List.findIdx?_eq_none_iff]
    intro x hx
    obtain ⟨j, hj, rfl⟩ := List.getElem_of_mem hx
    simp [ha j hj]
  rw [this]
theorem ok_of_check {p : Pr} (h : (check p).2 = 0) : (p.code.length ≤ 256 ∧ p.strs.length ≤ 32 ∧ ∀ s ∈ p.strs, s.length ≤ 128) ∧ (0 ≤ p.pages ∧ p.pages ≤ 16) ∧ ∀ x ∈ p.code, right p.code.length x = true := by
  unfold check at h
  split at h
  · simp at h
  · rename_i h1
    split at h
    · simp at h
    · rename_i h2
      cases hb : bad p.code.length p.code with
      | some i => rw [hb] at h; simp at h
      | none =>
        unfold bad at hb
        rw [List.findIdx?_eq_none_iff] at hb
        refine ⟨⟨by omega, by omega, fun s hs => ?_⟩, by omega, fun x hx => by simpa using hb x hx⟩
        apply Nat.le_of_not_lt
        intro hl
        exact h1 (.inr (List.any_eq_true.2 ⟨s, hs, by simpa using hl⟩))
theorem check_of_ok {p : Pr} (h1 : p.code.length ≤ 256) (h2 : p.strs.length ≤ 32) (h3 : ∀ s ∈ p.strs, s.length ≤ 128) (h4 : 0 ≤ p.pages) (h5 : p.pages ≤ 16) (h6 : ∀ x ∈ p.code, right p.code.length x = true) : check p = (0, 0) := by
  refine check_ok ?_ (by omega) fun j hj => h6 _ (List.getElem_mem _)
  rintro ((h | h) | h)
  · omega
  · omega
  · rw [List.any_eq_true] at h
    obtain ⟨s, hs, hl⟩ := h
    have := h3 s hs
    simp at hl
    omega
theorem check_err (p : Pr) (h : (check p).2 ≠ 0) : (check p).2 = 1 ∨ (check p).2 = 2 ∨ (check p).2 = 3 := by
  by_cases h1 : (256 < p.code.length ∨ 32 < p.strs.length) ∨ (p.strs.any fun s => decide (128 < s.length)) = true
  · rw [check_limit h1]; simp
  · by_cases h2 : p.pages < 0 ∨ 16 < p.pages
    · rw [check_range h1 h2]; simp
    · revert h
      unfold check
      rw [if_neg h1, if_neg h2]
      cases bad p.code.length p.code <;> simp

/-- A word for an operand. -/
def operand (f : UInt8) (v : Int) : List UInt8 := if f = 114 then 114 :: Lib.itoa v else Lib.itoa v
def opWord (x : Ins) (i : Nat) : List UInt8 := operand ((opn x.op).form.getD i 0) (arg x i)
def opWords (x : Ins) (k : Nat) : List (List UInt8) := (List.range k).map (opWord x)
theorem opWords_succ (x : Ins) (k : Nat) : opWords x (k + 1) = opWords x k ++ [opWord x k] := by simp [opWords, List.range_succ]
def insWords (x : Ins) : List (List UInt8) := (opn x.op).name :: opWords x (opn x.op).form.length
def pagesW : List UInt8 := [112, 97, 103, 101, 115]
def stringW : List UInt8 := [115, 116, 114, 105, 110, 103]
def lineOf (l : List (List UInt8)) : List UInt8 := (Wd.join l).1 ++ [10]
def pagesL (n : Int) : List UInt8 := lineOf [pagesW, Lib.itoa n]
def strL (s : List UInt8) : List UInt8 := lineOf [stringW, s]
def insL (x : Ins) : List UInt8 := lineOf (insWords x)
def text (p : Pr) : List UInt8 := pagesL p.pages ++ p.strs.flatMap strL ++ p.code.flatMap insL
def format (p : Pr) : List UInt8 × Nat := if (check p).2 = 0 then (text p, 0) else ([], (check p).2)

/-- What words take behind a line. -/
def size : List (List UInt8) → Nat
  | [] => 0
  | w :: r => 1 + (Wd.written w).length + size r
def tail (l : List (List UInt8)) : List UInt8 := l.flatMap fun w => 32 :: Wd.written w
theorem tail_len (l : List (List UInt8)) : (tail l).length = size l := by
  induction l with
  | nil => rfl
  | cons w r ih => simp only [tail, List.flatMap_cons, List.length_append, List.length_cons, size] at ih ⊢; omega
theorem joinG_eq (l : List (List UInt8)) (line : List UInt8) (h : line.length + size l ≤ 4096) : Wd.joinG line false l = some (line ++ tail l) := by
  induction l generalizing line with
  | nil => simp [Wd.joinG, tail]
  | cons w r ih =>
    unfold size at h
    have e : Wd.sep line false ++ Wd.written w = line ++ (32 :: Wd.written w) := by simp [Wd.sep]
    unfold Wd.joinG
    rw [e, if_neg (by simp only [List.length_append, List.length_cons]; omega), ih _ (by simp only [List.length_append, List.length_cons]; omega)]
    simp [tail]
theorem join_eq (w : List UInt8) (l : List (List UInt8)) (hl : l.length ≤ 63) (h : (Wd.written w).length + size l ≤ 4096) : Wd.join (w :: l) = (Wd.written w ++ tail l, 0) := by
  have e : Wd.sep [] true ++ Wd.written w = Wd.written w := by simp [Wd.sep]
  unfold Wd.join Wd.joinG
  rw [if_neg (by simp only [List.length_cons]; omega), e, if_neg (by omega), joinG_eq _ _ h]

theorem plain_written {w : List UInt8} (h : w.all Wd.plain = true) (h0 : w ≠ []) : Wd.written w = w := by
  unfold Wd.written
  rw [if_pos (by unfold Wd.plainW; simp [h0]; simpa using h)]
theorem dig_plain {c : UInt8} (h : Wd.dig c = true) : Wd.plain c = true := by
  have := Wd.dig_iff.1 h
  unfold Wd.plain
  simp only [Bool.and_eq_true, decide_eq_true_eq]
  omega
theorem itoa_plain (n : Int) : (Lib.itoa n).all Wd.plain = true ∧ Lib.itoa n ≠ [] := by
  unfold Lib.itoa
  split
  · obtain ⟨h1, h2, h3, h4⟩ := Wd.decDigits_spec n.natAbs
    refine ⟨?_, by simp⟩
    rw [List.all_cons, show Wd.plain 45 = true by decide, Bool.true_and, List.all_eq_true]
    exact fun c hc => dig_plain (List.all_eq_true.1 h1 c hc)
  · obtain ⟨h1, h2, h3, h4⟩ := Wd.decDigits_spec n.toNat
    refine ⟨?_, h3⟩
    rw [List.all_eq_true]
    exact fun c hc => dig_plain (List.all_eq_true.1 h1 c hc)
theorem operand_plain (f : UInt8) (n : Int) : (operand f n).all Wd.plain = true ∧ operand f n ≠ [] := by
  unfold operand
  split
  · refine ⟨?_, by simp⟩
    rw [List.all_cons, (itoa_plain n).1]; rfl
  · exact itoa_plain n
theorem operand_le (f : UInt8) {n : Int} (h1 : -9223372036854775808 ≤ n) (h2 : n ≤ 9223372036854775807) : (operand f n).length ≤ 31 := by
  have := Wd.itoa_le h1 h2
  unfold operand
  split
  · simp only [List.length_cons]; omega
  · omega
theorem form_le (op : Int) : (opn op).form.length ≤ 3 := by
  by_cases h : 0 ≤ op ∧ op ≤ 12
  · exact opn_cases (q := fun o => o.form.length ≤ 3) (by decide) h.1 h.2
  · unfold opn; rw [if_neg h]; decide
theorem name_ok {op : Int} (h0 : 0 ≤ op) (h1 : op ≤ 12) : (opn op).name.all Wd.plain = true ∧ (opn op).name ≠ [] ∧ (opn op).name.length ≤ 5 ∧ (opn op).name.head? ≠ some 35 ∧ (opn op).name ≠ pagesW ∧ (opn op).name ≠ stringW :=
  opn_cases (q := fun o => o.name.all Wd.plain = true ∧ o.name ≠ [] ∧ o.name.length ≤ 5 ∧ o.name.head? ≠ some 35 ∧ o.name ≠ pagesW ∧ o.name ≠ stringW) (by decide) h0 h1
/-- Numbers of 64 bits. -/
def in64 (x : Ins) : Prop := (-9223372036854775808 ≤ x.op ∧ x.op ≤ 9223372036854775807) ∧ (-9223372036854775808 ≤ x.a ∧ x.a ≤ 9223372036854775807) ∧ (-9223372036854775808 ≤ x.b ∧ x.b ≤ 9223372036854775807) ∧ (-9223372036854775808 ≤ x.c ∧ x.c ≤ 9223372036854775807)
theorem arg64 {x : Ins} (h : in64 x) (i : Nat) : -9223372036854775808 ≤ arg x i ∧ arg x i ≤ 9223372036854775807 := by
  obtain ⟨h1, h2, h3, h4⟩ := h
  unfold arg
  split
  · exact h2
  · split
    · exact h3
    · split
      · exact h4
      · omega
theorem opWord_plain (x : Ins) (i : Nat) : (opWord x i).all Wd.plain = true ∧ opWord x i ≠ [] := operand_plain _ _
theorem opWords_size {x : Ins} (h : in64 x) (k : Nat) : size (opWords x k) ≤ 32 * k ∧ tail (opWords x k) = (opWords x k).flatMap (fun w => 32 :: w) := by
  have key : ∀ l : List Nat, size (l.map (opWord x)) ≤ 32 * l.length ∧ tail (l.map (opWord x)) = (l.map (opWord x)).flatMap (fun w => 32 :: w) := by
    intro l
    induction l with
    | nil => exact ⟨by simp [size], rfl⟩
    | cons i l ih =>
      obtain ⟨p1, p2⟩ := opWord_plain x i
      have e := plain_written p1 p2
      have hl : (opWord x i).length ≤ 31 := operand_le _ (arg64 h i).1 (arg64 h i).2
      constructor
      · simp only [List.map_cons, size, e, List.length_cons]; have := ih.1; omega
      · have := ih.2
        unfold tail at this ⊢
        rw [List.map_cons, List.flatMap_cons, List.flatMap_cons, this, e]
  have := key (List.range k)
  rw [List.length_range] at this
  exact this
theorem insWords_join {x : Ins} (h : in64 x) (h0 : 0 ≤ x.op) (h1 : x.op ≤ 12) : Wd.join (insWords x) = ((opn x.op).name ++ (opWords x (opn x.op).form.length).flatMap (fun w => 32 :: w), 0) := by
  obtain ⟨n1, n2, n3, n4⟩ := name_ok h0 h1
  have hf := form_le x.op
  obtain ⟨s1, s2⟩ := opWords_size h (opn x.op).form.length
  unfold insWords
  rw [join_eq _ _ (by simp [opWords]; omega) (by rw [plain_written n1 n2]; omega), plain_written n1 n2, s2]
theorem insL_eq {x : Ins} (h : in64 x) (h0 : 0 ≤ x.op) (h1 : x.op ≤ 12) : insL x = (opn x.op).name ++ (opWords x (opn x.op).form.length).flatMap (fun w => 32 :: w) ++ [10] := by
  unfold insL lineOf; rw [insWords_join h h0 h1]
theorem pages_join {n : Int} (h1 : -9223372036854775808 ≤ n) (h2 : n ≤ 9223372036854775807) : Wd.join [pagesW, Lib.itoa n] = (pagesW ++ 32 :: Lib.itoa n, 0) := by
  have := Wd.itoa_le h1 h2
  have e : Wd.written pagesW = pagesW := by decide
  have e2 : Wd.written (Lib.itoa n) = Lib.itoa n := plain_written (itoa_plain n).1 (itoa_plain n).2
  rw [join_eq _ _ (by simp) (by rw [e]; simp only [size, e2]; rw [show pagesW.length = 5 from rfl]; omega), e]
  simp [tail, e2]
theorem str_join {s : List UInt8} (h : s.length ≤ 2000) : Wd.join [stringW, s] = (stringW ++ 32 :: Wd.written s, 0) := by
  have := Wd.written_le s
  have e : Wd.written stringW = stringW := by decide
  rw [join_eq _ _ (by simp) (by rw [e]; simp only [size]; rw [show stringW.length = 6 from rfl]; omega), e]
  simp [tail]
end Cd
end Go.Proofs.Ytddbohnappogkaa
