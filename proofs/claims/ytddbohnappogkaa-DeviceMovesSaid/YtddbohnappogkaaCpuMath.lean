/- Layer 5, plain mathematics of the processor. Nothing of the program. -/
import Derived.Test.YtddbohnappogkaaCodeText
import Derived.RowKit
namespace Go.Proofs.Ytddbohnappogkaa
open Go.RowKit
namespace Cp

structure Cpu where
  pc : Int
  regs : List Int
deriving DecidableEq
structure Act where
  kind : Int
  addr : Int
  reg : Int
  value : Int
  number : Int
  args : List Int
deriving DecidableEq
def isReg (n : Int) : Bool := decide (0 ≤ n) && decide (n < 8)
def get (c : Cpu) (i : Int) : Int := c.regs.getD i.toNat 0
def put (c : Cpu) (i v : Int) : Cpu := ⟨c.pc, c.regs.set i.toNat v⟩
def stored (c : Cpu) : Cpu := ⟨wrap64 (c.pc + 1), c.regs⟩
def loaded (c : Cpu) (i v : Int) : Cpu := stored (if isReg i then put c i v else c)
def done : Act := ⟨0, 0, 0, 0, 0, [0, 0, 0]⟩
def fault : Act := ⟨4, 0, 0, 0, 0, [0, 0, 0]⟩
def two (op b d : Int) : Int := if op = 3 then wrap64 (b + d) else if op = 4 then wrap64 (b - d) else if op = 5 then wrap64 (b * d) else if op = 6 then (if b < d then 1 else 0) else (if b = d then 1 else 0)
/-- What an instruction does. -/
def exec (c : Cpu) (x : Cd.Ins) : Cpu × Act :=
  if x.op = 0 then (stored c, done)
  else if x.op = 1 then (if isReg x.a then (loaded c x.a x.b, done) else (c, fault))
  else if x.op = 2 then (if isReg x.a && isReg x.b then (loaded c x.a (get c x.b), done) else (c, fault))
  else if 3 ≤ x.op ∧ x.op ≤ 7 then (if isReg x.a && (isReg x.b && isReg x.c) then (loaded c x.a (two x.op (get c x.b) (get c x.c)), done) else (c, fault))
  else if x.op = 8 then (⟨x.a, c.regs⟩, done)
  else if x.op = 9 then (if isReg x.a then (if get c x.a = 0 then (stored c, done) else (⟨x.b, c.regs⟩, done)) else (c, fault))
  else if x.op = 10 then (if isReg x.a && isReg x.b then (c, ⟨1, wrap64 (get c x.b + x.c), x.a, 0, 0, [0, 0, 0]⟩) else (c, fault))
  else if x.op = 11 then (if isReg x.a && isReg x.b then (c, ⟨2, wrap64 (get c x.b + x.c), 0, get c x.a, 0, [0, 0, 0]⟩) else (c, fault))
  else if x.op = 12 then (c, ⟨3, 0, 0, 0, x.a, [get c 1, get c 2, get c 3]⟩)
  else (c, fault)
def next (c : Cpu) (code : List Cd.Ins) : Cpu × Act := if 0 ≤ c.pc ∧ c.pc < (code.length : Int) then exec c (code.getD c.pc.toNat ⟨0, 0, 0, 0⟩) else (c, fault)
theorem next_out {c : Cpu} {code : List Cd.Ins} (h : ¬ (0 ≤ c.pc ∧ c.pc < (code.length : Int))) : next c code = (c, fault) := by unfold next; rw [if_neg h]
theorem next_at {c : Cpu} {code : List Cd.Ins} {k : Nat} (hk : k < code.length) (h : c.pc = (k : Int)) : next c code = exec c code[k] := by
  unfold next
  rw [if_pos (by omega), h, Int.toNat_natCast, Cd.getD_at _ _ hk]

/-- Eight registers of 64 bits, and a place of 64 bits. -/
def i64 (v : Int) : Prop := -9223372036854775808 ≤ v ∧ v ≤ 9223372036854775807
def Ok (c : Cpu) : Prop := c.regs.length = 8 ∧ (∀ v ∈ c.regs, i64 v) ∧ i64 c.pc
theorem wrap_i64 (v : Int) : i64 (wrap64 v) := by unfold wrap64 i64; omega
theorem wrap_small {v : Int} (h : i64 v) : wrap64 v = v := by unfold wrap64; unfold i64 at h; omega
theorem get_i64 {c : Cpu} (h : Ok c) (i : Int) : i64 (get c i) := by
  unfold get
  by_cases hi : i.toNat < c.regs.length
  · rw [Cd.getD_at _ _ hi]
    exact h.2.1 _ (List.getElem_mem hi)
  · rw [List.getD_eq_getElem?_getD, List.getElem?_eq_none (by omega)]
    unfold i64
    simp
theorem put_ok {c : Cpu} (h : Ok c) (i : Int) {v : Int} (hv : i64 v) : Ok (put c i v) :=
  ⟨by simpa [put] using h.1, fun u hu => by
    rcases List.mem_or_eq_of_mem_set hu with hu | rfl
    · exact h.2.1 u hu
    · exact hv, h.2.2⟩
theorem stored_ok {c : Cpu} (h : Ok c) : Ok (stored c) := ⟨h.1, h.2.1, wrap_i64 _⟩
theorem loaded_ok {c : Cpu} (h : Ok c) (i : Int) {v : Int} (hv : i64 v) : Ok (loaded c i v) := by
  unfold loaded
  split
  · exact stored_ok (put_ok h i hv)
  · exact stored_ok h
theorem two_i64 (op b d : Int) : i64 (two op b d) := by
  unfold two
  repeat' split
  all_goals first | exact wrap_i64 _ | (unfold i64; omega)
theorem exec_ok {c : Cpu} (h : Ok c) {x : Cd.Ins} (hx : Cd.in64 x) : Ok (exec c x).1 := by
  unfold Cd.in64 at hx
  unfold exec
  repeat' split
  all_goals first | exact h | exact stored_ok h | exact loaded_ok h _ hx.2.2.1 | exact loaded_ok h _ (get_i64 h _) | exact loaded_ok h _ (two_i64 _ _ _) | exact ⟨h.1, h.2.1, hx.2.1⟩ | exact ⟨h.1, h.2.1, hx.2.2.1⟩
theorem next_ok {c : Cpu} (h : Ok c) {code : List Cd.Ins} (hc : ∀ x ∈ code, Cd.in64 x) : Ok (next c code).1 := by
  by_cases hp : 0 ≤ c.pc ∧ c.pc < (code.length : Int)
  · have hk : c.pc.toNat < code.length := by omega
    rw [next_at hk (by omega)]
    exact exec_ok h (hc _ (List.getElem_mem hk))
  · rw [next_out hp]; exact h

/-- How many of the first k registers differ. -/
def diff (a b : List Int) (k : Nat) : Nat := ((List.range k).filter fun i => decide (a.getD i 0 ≠ b.getD i 0)).length
theorem diff_succ (a b : List Int) (k : Nat) : diff a b (k + 1) = diff a b k + (if a.getD k 0 = b.getD k 0 then 0 else 1) := by
  unfold diff
  rw [List.range_succ, List.filter_append, List.length_append]
  by_cases h : a.getD k 0 = b.getD k 0
  · rw [if_pos h, List.filter_cons_of_neg (by simpa using h)]; rfl
  · rw [if_neg h, List.filter_cons_of_pos (by simpa using h)]; rfl
theorem diff_same (a : List Int) (k : Nat) : diff a a k = 0 := by
  induction k with
  | zero => rfl
  | succ k ih => rw [diff_succ, ih]; simp
theorem diff_le (a b : List Int) (k : Nat) : diff a b k ≤ k := by
  have := List.length_filter_le (fun i => decide (a.getD i 0 ≠ b.getD i 0)) (List.range k)
  rw [List.length_range] at this
  exact this
theorem diff_set (a : List Int) (i : Nat) (v : Int) (k : Nat) : diff (a.set i v) a k ≤ 1 ∧ (k ≤ i → diff (a.set i v) a k = 0) := by
  induction k with
  | zero => exact ⟨by simp [diff], fun _ => rfl⟩
  | succ k ih =>
    rw [diff_succ]
    by_cases hki : k = i
    · subst hki
      have := ih.2 (Nat.le_refl _)
      refine ⟨by split <;> omega, fun h => by omega⟩
    · have : (a.set i v).getD k 0 = a.getD k 0 := by
        rw [List.getD_eq_getElem?_getD, List.getD_eq_getElem?_getD, List.getElem?_set_ne (by omega)]
      rw [if_pos this]
      exact ⟨by omega, fun h => by rw [ih.2 (by omega)]⟩
theorem loaded_diff (c : Cpu) (i v : Int) (k : Nat) : diff (loaded c i v).regs c.regs k ≤ 1 := by
  unfold loaded
  split
  · exact (diff_set c.regs i.toNat v k).1
  · show diff c.regs c.regs k ≤ 1
    rw [diff_same]; omega
/-- At most one register changes; nothing changes together with an action. -/
theorem exec_regs (c : Cpu) (x : Cd.Ins) : (exec c x).1.regs = c.regs ∨ ∃ i v, (exec c x).1 = loaded c i v := by
  generalize h : exec c x = r
  unfold exec at h
  repeat' split at h
  all_goals
    subst h
    first | exact .inl rfl | exact .inr ⟨_, _, rfl⟩
theorem exec_diff (c : Cpu) (x : Cd.Ins) (k : Nat) : diff (exec c x).1.regs c.regs k ≤ 1 := by
  rcases exec_regs c x with h | ⟨i, v, h⟩
  · rw [h, diff_same]; omega
  · rw [h]; exact loaded_diff c i v k
theorem exec_act (c : Cpu) (x : Cd.Ins) : (exec c x).2.kind = 0 ∨ (exec c x).1 = c := by
  unfold exec
  repeat' split
  all_goals first | exact .inl rfl | exact .inr rfl
theorem next_diff (c : Cpu) (code : List Cd.Ins) (k : Nat) : diff (next c code).1.regs c.regs k ≤ 1 := by
  unfold next
  split
  · exact exec_diff _ _ _
  · show diff c.regs c.regs k ≤ 1
    rw [diff_same]; omega
theorem next_act (c : Cpu) (code : List Cd.Ins) : (next c code).2.kind = 0 ∨ (next c code).1 = c := by
  unfold next
  split
  · exact exec_act _ _
  · exact .inr rfl
/-- A right instruction does not fault. -/
theorem exec_right {n : Nat} {x : Cd.Ins} (h : Cd.right n x = true) (c : Cpu) : (exec c x).2.kind ≠ 4 := by
  obtain ⟨⟨h0, h1⟩, hf⟩ := Cd.right_fits h
  have hr : ∀ i, i < 3 → i < (Cd.opn x.op).form.length → (Cd.opn x.op).form.getD i 0 = 114 → isReg (Cd.arg x i) = true := fun i hi h2 h3 => by
    have := Cd.fits_reg (hf i hi) h2 h3
    unfold isReg
    simp only [Bool.and_eq_true, decide_eq_true_eq]
    omega
  obtain ⟨op, a, b, d⟩ := x
  simp only at h0 h1 hr
  clear h hf
  have hk : op = 0 ∨ op = 1 ∨ op = 2 ∨ op = 3 ∨ op = 4 ∨ op = 5 ∨ op = 6 ∨ op = 7 ∨ op = 8 ∨ op = 9 ∨ op = 10 ∨ op = 11 ∨ op = 12 := by omega
  have ra : 0 < (Cd.opn op).form.length → (Cd.opn op).form.getD 0 0 = 114 → isReg a = true := hr 0 (by omega)
  have rb : 1 < (Cd.opn op).form.length → (Cd.opn op).form.getD 1 0 = 114 → isReg b = true := hr 1 (by omega)
  have rd : 2 < (Cd.opn op).form.length → (Cd.opn op).form.getD 2 0 = 114 → isReg d = true := hr 2 (by omega)
  clear hr
  rcases hk with rfl | rfl | rfl | rfl | rfl | rfl | rfl | rfl | rfl | rfl | rfl | rfl | rfl
  · simp [exec, done]
  · simp [exec, done, ra (by decide) (by decide)]
  · simp [exec, done, ra (by decide) (by decide), rb (by decide) (by decide)]
  · simp [exec, done, ra (by decide) (by decide), rb (by decide) (by decide), rd (by decide) (by decide)]
  · simp [exec, done, ra (by decide) (by decide), rb (by decide) (by decide), rd (by decide) (by decide)]
  · simp [exec, done, ra (by decide) (by decide), rb (by decide) (by decide), rd (by decide) (by decide)]
  · simp [exec, done, ra (by decide) (by decide), rb (by decide) (by decide), rd (by decide) (by decide)]
  · simp [exec, done, ra (by decide) (by decide), rb (by decide) (by decide), rd (by decide) (by decide)]
  · simp [exec, done]
  · simp only [exec, ra (by decide) (by decide)]
    simp [done]
    split <;> simp
  · simp [exec, ra (by decide) (by decide), rb (by decide) (by decide)]
  · simp [exec, ra (by decide) (by decide), rb (by decide) (by decide)]
  · simp [exec]

/-- The program that adds the numbers from 1 to n. -/
def sumL (n : Nat) : List Cd.Ins := [⟨1, 1, n, 0⟩, ⟨1, 2, 1, 0⟩, ⟨9, 1, 4, 0⟩, ⟨8, 7, 0, 0⟩, ⟨3, 0, 0, 1⟩, ⟨4, 1, 1, 2⟩, ⟨8, 2, 0, 0⟩]
def S (n : Nat) : Nat → Int
  | 0 => 0
  | j + 1 => S n j + ((n : Int) - j)
theorem S_le {n : Nat} (hn : n ≤ 255) (j : Nat) (hj : j ≤ n) : 0 ≤ S n j ∧ S n j ≤ 255 * j := by
  induction j with
  | zero => simp [S]
  | succ j ih =>
    have := ih (by omega)
    unfold S
    omega
theorem S_all (n : Nat) : 2 * S n n = (n : Int) * (n + 1) := by
  have key : ∀ j : Nat, 2 * S n j = 2 * (n : Int) * j - (j : Int) * (j - 1) := by
    intro j
    induction j with
    | zero => simp [S]
    | succ j ih =>
      rw [S, Int.mul_add, ih]
      rw [show ((j + 1 : Nat) : Int) = (j : Int) + 1 by omega]
      simp only [Int.mul_sub, Int.mul_add, Int.add_mul, Int.mul_one, Int.one_mul]
      omega
  rw [key n]
  simp only [Int.mul_sub, Int.mul_add, Int.mul_one]
  rw [Int.mul_assoc]
  omega
/-- The processor after k steps. -/
def st (n k : Nat) : Cpu :=
  if k = 0 then ⟨0, [0, 0, 0, 0, 0, 0, 0, 0]⟩
  else if k = 1 then ⟨1, [0, n, 0, 0, 0, 0, 0, 0]⟩
  else if (k - 2) % 4 = 0 then ⟨2, [S n ((k - 2) / 4), (n : Int) - ((k - 2) / 4 : Nat), 1, 0, 0, 0, 0, 0]⟩
  else if (k - 2) % 4 = 1 then ⟨if (k - 2) / 4 = n then 3 else 4, [S n ((k - 2) / 4), (n : Int) - ((k - 2) / 4 : Nat), 1, 0, 0, 0, 0, 0]⟩
  else if (k - 2) % 4 = 2 then (if (k - 2) / 4 = n then ⟨7, [S n n, 0, 1, 0, 0, 0, 0, 0]⟩ else ⟨5, [S n ((k - 2) / 4 + 1), (n : Int) - ((k - 2) / 4 : Nat), 1, 0, 0, 0, 0, 0]⟩)
  else ⟨6, [S n ((k - 2) / 4 + 1), (n : Int) - ((k - 2) / 4 : Nat) - 1, 1, 0, 0, 0, 0, 0]⟩
theorem small {v : Int} (h0 : -1000000 ≤ v) (h1 : v ≤ 1000000) : wrap64 v = v := wrap_small (by unfold i64; omega)
theorem st_step {n : Nat} (hn : n ≤ 255) (k : Nat) (hk : k < 4 * n + 4) : next (st n k) (sumL n) = (st n (k + 1), done) := by
  by_cases k0 : k = 0
  · subst k0
    rw [next_at (k := 0) (by simp [sumL]) (by simp [st])]
    simp [st, sumL, exec, isReg, loaded, put, stored, small]
  by_cases k1 : k = 1
  · subst k1
    rw [next_at (k := 1) (by simp [sumL]) (by simp [st])]
    simp [st, sumL, exec, isReg, loaded, put, stored, small, S]
  obtain ⟨j, i, hi, rfl⟩ : ∃ j i, i < 4 ∧ k = 2 + 4 * j + i := ⟨(k - 2) / 4, (k - 2) % 4, by omega, by omega⟩
  have hj : j ≤ n := by omega
  have hS := S_le hn j hj
  have e1 : ∀ q, q < 4 → (2 + 4 * j + q - 2) / 4 = j ∧ (2 + 4 * j + q - 2) % 4 = q := fun q hq => by omega
  have e4 : (2 + 4 * j + 4 - 2) / 4 = j + 1 ∧ (2 + 4 * j + 4 - 2) % 4 = 0 := by omega
  rcases (show i = 0 ∨ i = 1 ∨ i = 2 ∨ i = 3 by omega) with rfl | rfl | rfl | rfl
  · have h0 : st n (2 + 4 * j + 0) = ⟨2, [S n j, (n : Int) - j, 1, 0, 0, 0, 0, 0]⟩ := by
      unfold st
      rw [if_neg (by omega), if_neg (by omega), (e1 0 (by omega)).1, (e1 0 (by omega)).2, if_pos rfl]
    have h1 : st n (2 + 4 * j + 0 + 1) = ⟨if j = n then 3 else 4, [S n j, (n : Int) - j, 1, 0, 0, 0, 0, 0]⟩ := by
      unfold st
      rw [if_neg (by omega), if_neg (by omega), show 2 + 4 * j + 0 + 1 = 2 + 4 * j + 1 by omega, (e1 1 (by omega)).1, (e1 1 (by omega)).2, if_neg (by omega), if_pos rfl]
    rw [h0, h1, next_at (k := 2) (by simp [sumL]) rfl]
    by_cases hjn : j = n
    · subst hjn
      simp [sumL, exec, isReg, get, stored, small]
    · have : ¬ (n : Int) - j = 0 := by omega
      simp [sumL, exec, isReg, get, hjn, this]
  · have h0 : st n (2 + 4 * j + 1) = ⟨if j = n then 3 else 4, [S n j, (n : Int) - j, 1, 0, 0, 0, 0, 0]⟩ := by
      unfold st
      rw [if_neg (by omega), if_neg (by omega), (e1 1 (by omega)).1, (e1 1 (by omega)).2, if_neg (by omega), if_pos rfl]
    have h1 : st n (2 + 4 * j + 1 + 1) = (if j = n then ⟨7, [S n n, 0, 1, 0, 0, 0, 0, 0]⟩ else ⟨5, [S n (j + 1), (n : Int) - j, 1, 0, 0, 0, 0, 0]⟩) := by
      unfold st
      rw [if_neg (by omega), if_neg (by omega), show 2 + 4 * j + 1 + 1 = 2 + 4 * j + 2 by omega, (e1 2 (by omega)).1, (e1 2 (by omega)).2, if_neg (by omega), if_neg (by omega), if_pos rfl]
    rw [h0, h1]
    by_cases hjn : j = n
    · subst hjn
      rw [if_pos rfl, if_pos rfl, next_at (k := 3) (by simp [sumL]) rfl]
      simp [sumL, exec]
    · rw [if_neg hjn, if_neg hjn, next_at (k := 4) (by simp [sumL]) rfl]
      have hw : wrap64 (S n j + ((n : Int) - j)) = S n j + ((n : Int) - j) := small (by omega) (by omega)
      simp [sumL, exec, isReg, get, two, loaded, put, stored, small, hw, S]
  · have hjn : ¬ j = n := by omega
    have h0 : st n (2 + 4 * j + 2) = ⟨5, [S n (j + 1), (n : Int) - j, 1, 0, 0, 0, 0, 0]⟩ := by
      unfold st
      rw [if_neg (by omega), if_neg (by omega), (e1 2 (by omega)).1, (e1 2 (by omega)).2, if_neg (by omega), if_neg (by omega), if_pos rfl, if_neg hjn]
    have h1 : st n (2 + 4 * j + 2 + 1) = ⟨6, [S n (j + 1), (n : Int) - j - 1, 1, 0, 0, 0, 0, 0]⟩ := by
      unfold st
      rw [if_neg (by omega), if_neg (by omega), show 2 + 4 * j + 2 + 1 = 2 + 4 * j + 3 by omega, (e1 3 (by omega)).1, (e1 3 (by omega)).2, if_neg (by omega), if_neg (by omega), if_neg (by omega)]
    rw [h0, h1, next_at (k := 5) (by simp [sumL]) rfl]
    have hw : wrap64 ((n : Int) - j - 1) = (n : Int) - j - 1 := small (by omega) (by omega)
    simp [sumL, exec, isReg, get, two, loaded, put, stored, small, hw]
  · have hjn : ¬ j = n := by omega
    have h0 : st n (2 + 4 * j + 3) = ⟨6, [S n (j + 1), (n : Int) - j - 1, 1, 0, 0, 0, 0, 0]⟩ := by
      unfold st
      rw [if_neg (by omega), if_neg (by omega), (e1 3 (by omega)).1, (e1 3 (by omega)).2, if_neg (by omega), if_neg (by omega), if_neg (by omega)]
    have h1 : st n (2 + 4 * j + 3 + 1) = ⟨2, [S n (j + 1), (n : Int) - (j + 1 : Nat), 1, 0, 0, 0, 0, 0]⟩ := by
      unfold st
      rw [if_neg (by omega), if_neg (by omega), show 2 + 4 * j + 3 + 1 = 2 + 4 * j + 4 by omega, e4.1, e4.2, if_pos rfl]
    rw [h0, h1, next_at (k := 6) (by simp [sumL]) rfl]
    have hw : (n : Int) - j - 1 = (n : Int) - (j + 1 : Nat) := by omega
    simp [sumL, exec, hw]
theorem st_end (n : Nat) : st n (4 * n + 4) = ⟨7, [S n n, 0, 1, 0, 0, 0, 0, 0]⟩ := by
  unfold st
  rw [if_neg (by omega), if_neg (by omega), show (4 * n + 4 - 2) / 4 = n by omega, show (4 * n + 4 - 2) % 4 = 2 by omega, if_neg (by omega), if_neg (by omega), if_pos rfl, if_pos rfl]
end Cp
end Go.Proofs.Ytddbohnappogkaa
