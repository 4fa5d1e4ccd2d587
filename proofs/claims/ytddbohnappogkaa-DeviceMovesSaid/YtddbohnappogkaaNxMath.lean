/- Layer 9: paths, entries and name spaces as lists. Plain mathematics. | Layer 9: entries renamed: what holds of the lists. Plain mathematics. | Layer 9: where a path is, or would be. Plain mathematics. -/
import Derived.Test.YtddbohnappogkaaLib
import Derived.Lib.Bytealg
namespace Go.Proofs.Ytddbohnappogkaa
open Go.RowKit

namespace Nx
/-- Byte c may follow byte p. -/
def Step (p c : Nat) : Prop := ¬ (c = 47 ∧ p = 47) ∧ (c = 47 ∨ c = 45 ∨ c = 95 ∨ (97 ≤ c ∧ c ≤ 122) ∨ (48 ≤ c ∧ c ≤ 57))
instance (p c : Nat) : Decidable (Step p c) := by unfold Step; infer_instance
/-- A path. -/
def Path (s : List UInt8) : Prop := (2 ≤ s.length ∧ s.length ≤ 128) ∧ (s.getD 0 0).toNat = 47 ∧ (s.getD (s.length - 1) 0).toNat ≠ 47 ∧ ∀ i, i < s.length → 1 ≤ i → Step (s.getD (i - 1) 0).toNat (s.getD i 0).toNat
instance (s : List UInt8) : Decidable (Path s) := by unfold Path; infer_instance
/-- An entry. -/
structure Ent where
  path : List UInt8
  kind : Int
  ids : List Int
deriving DecidableEq
def Ent.Ok (e : Ent) : Prop := (((e.kind = 3 ∨ e.kind = 6 ∨ e.kind = 8 ∨ e.kind = 9) ∧ e.ids.length = 1) ∨ (e.kind = 2 ∧ 1 ≤ e.ids.length ∧ e.ids.length ≤ 16)) ∧ (∀ x ∈ e.ids, x ≠ 0) ∧ Path e.path
instance (e : Ent) : Decidable e.Ok := by unfold Ent.Ok; infer_instance
/-- Bytewise before. -/
def Lt (a b : List UInt8) : Prop := Op.bytesLess a b = true
instance (a b : List UInt8) : Decidable (Lt a b) := by unfold Lt; infer_instance
theorem lt_cons {x y : UInt8} {a b : List UInt8} : Lt (x :: a) (y :: b) ↔ x < y ∨ (x = y ∧ Lt a b) := by unfold Lt; simp [Op.bytesLess]
theorem lt_nil_r (a : List UInt8) : ¬ Lt a [] := by unfold Lt; cases a <;> simp [Op.bytesLess]
theorem lt_nil_l (y : UInt8) (b : List UInt8) : Lt [] (y :: b) := by unfold Lt; simp [Op.bytesLess]
theorem lt_irrefl (a : List UInt8) : ¬ Lt a a := by
  induction a with
  | nil => exact lt_nil_r _
  | cons x a ih => rw [lt_cons]; rintro (h | h); exact absurd h (UInt8.lt_irrefl x); exact ih h.2
theorem lt_trans {a b c : List UInt8} (h : Lt a b) (k : Lt b c) : Lt a c := by
  induction a generalizing b c with
  | nil =>
    cases c with
    | nil => exact absurd k (lt_nil_r _)
    | cons z c => exact lt_nil_l _ _
  | cons x a ih =>
    cases b with
    | nil => exact absurd h (lt_nil_r _)
    | cons y b =>
      cases c with
      | nil => exact absurd k (lt_nil_r _)
      | cons z c =>
        rw [lt_cons] at *
        rcases h with h | ⟨rfl, h⟩
        · rcases k with k | ⟨rfl, k⟩
          · exact .inl (UInt8.lt_trans h k)
          · exact .inl h
        · rcases k with k | ⟨rfl, k⟩
          · exact .inl k
          · exact .inr ⟨rfl, ih h k⟩
theorem lt_total {a b : List UInt8} (h : ¬ Lt a b) (hne : a ≠ b) : Lt b a := by
  induction a generalizing b with
  | nil =>
    cases b with
    | nil => exact absurd rfl hne
    | cons y b => exact absurd (lt_nil_l y b) h
  | cons x a ih =>
    cases b with
    | nil => exact lt_nil_l _ _
    | cons y b =>
      rw [lt_cons] at *
      by_cases hxy : x = y
      · subst hxy
        exact .inr ⟨rfl, ih (fun k => h (.inr ⟨rfl, k⟩)) (fun e => hne (by rw [e]))⟩
      · rcases Nat.lt_or_gt_of_ne (fun e => hxy (UInt8.toNat_inj.1 e)) with g | g
        · exact absurd (.inl (UInt8.lt_iff_toNat_lt.2 g)) h
        · exact .inl (UInt8.lt_iff_toNat_lt.2 g)
theorem lt_asymm {a b : List UInt8} (h : Lt a b) : ¬ Lt b a := fun k => lt_irrefl a (lt_trans h k)
theorem lt_ne {a b : List UInt8} (h : Lt a b) : a ≠ b := fun e => lt_irrefl a (by rw [e] at h ⊢; exact h)

/-- Entries in strictly ascending order of their paths. -/
def Asc (l : List Ent) : Prop := l.Pairwise fun a b => Lt a.path b.path
instance (l : List Ent) : Decidable (Asc l) := by unfold Asc; infer_instance
/-- The entry of a path. -/
def find (l : List Ent) (p : List UInt8) : Option Ent := l.find? fun e => e.path = p
/-- One more entry, where it belongs. -/
def insert (l : List Ent) (n : Ent) : List Ent := l.filter (fun x => Lt x.path n.path) ++ n :: l.filter (fun x => ¬ Lt x.path n.path)
theorem parts_length {α : Type} (p : α → Prop) [DecidablePred p] (l : List α) : (l.filter (fun x => p x)).length + (l.filter (fun x => ¬ p x)).length = l.length := by
  induction l with
  | nil => rfl
  | cons a l ih =>
    by_cases h : p a
    · rw [List.filter_cons_of_pos (by simpa using h), List.filter_cons_of_neg (by simpa using h)]
      simp only [List.length_cons]; omega
    · rw [List.filter_cons_of_neg (by simpa using h), List.filter_cons_of_pos (by simpa using h)]
      simp only [List.length_cons]; omega
theorem insert_length (l : List Ent) (n : Ent) : (insert l n).length = l.length + 1 := by
  have := parts_length (fun x : Ent => Lt x.path n.path) l
  unfold insert
  simp only [List.length_append, List.length_cons]
  omega
theorem find_none {l : List Ent} {p : List UInt8} (h : find l p = none) : ∀ x ∈ l, x.path ≠ p := by
  intro x hx
  have := List.find?_eq_none.1 h x hx
  simpa using this
theorem insert_asc {l : List Ent} {n : Ent} (h : Asc l) (hn : find l n.path = none) : Asc (insert l n) := by
  have hne := find_none hn
  unfold insert Asc
  refine List.pairwise_append.2 ⟨h.filter _, List.pairwise_cons.2 ⟨fun x hx => ?_, h.filter _⟩, fun x hx y hy => ?_⟩
  · obtain ⟨h1, h2⟩ := List.mem_filter.1 hx
    have h2' : ¬ Lt x.path n.path := by simpa using h2
    exact lt_total h2' (hne x h1)
  · obtain ⟨_, h2⟩ := List.mem_filter.1 hx
    have h2' : Lt x.path n.path := by simpa using h2
    rcases List.mem_cons.1 hy with rfl | hy
    · exact h2'
    · obtain ⟨k1, k2⟩ := List.mem_filter.1 hy
      have k2' : ¬ Lt y.path n.path := by simpa using k2
      exact lt_trans h2' (lt_total k2' (hne y k1))
/-- A name space's entries, one after the other. -/
def Space (E : List Ent) : Prop := (∀ (i : Nat) (h : i < E.length), E[i].Ok) ∧ ∀ (i : Nat) (h : i + 1 < E.length), Lt E[i].path E[i + 1].path
/-- .. as far as k. -/
def Upto (E : List Ent) (k : Nat) : Prop := (∀ (i : Nat) (h : i < E.length), i < k → E[i].Ok) ∧ ∀ (i : Nat) (h : i + 1 < E.length), i + 1 < k → Lt E[i].path E[i + 1].path
theorem upto_zero (E : List Ent) : Upto E 0 := ⟨fun _ _ h => by omega, fun _ _ h => by omega⟩
theorem upto_one {E : List Ent} (h : 0 < E.length) (hok : E[0].Ok) : Upto E 1 := by
  refine ⟨fun i hi h1 => ?_, fun _ _ h => by omega⟩
  have : i = 0 := by omega
  subst this
  exact hok
theorem upto_succ {E : List Ent} {q : Nat} (h : Upto E (q + 1)) (hq : q + 1 < E.length) (hok : E[q + 1].Ok) (hlt : Lt E[q].path E[q + 1].path) : Upto E (q + 1 + 1) := by
  refine ⟨fun i hi h1 => ?_, fun i hi h1 => ?_⟩
  · rcases Nat.lt_or_eq_of_le (Nat.le_of_lt_succ h1) with h2 | rfl
    · exact h.1 i hi h2
    · exact hok
  · rcases Nat.lt_or_eq_of_le (Nat.le_of_lt_succ h1) with h2 | h2
    · exact h.2 i hi h2
    · obtain rfl : i = q := by omega
      exact hlt
theorem upto_all {E : List Ent} (h : Upto E E.length) : Space E := ⟨fun i hi => h.1 i hi hi, fun i hi => h.2 i hi hi⟩
theorem asc_of_space {E : List Ent} (h : Space E) : Asc E := by
  unfold Asc
  rw [List.pairwise_iff_getElem]
  intro i j hi hj hij
  induction j with
  | zero => omega
  | succ j ih =>
    by_cases e : i = j
    · subst e; exact h.2 i hj
    · exact lt_trans (ih (by omega) (by omega)) (h.2 j hj)
theorem space_of_asc {E : List Ent} (h1 : ∀ e ∈ E, e.Ok) (h : Asc E) : Space E := by
  unfold Asc at h
  rw [List.pairwise_iff_getElem] at h
  exact ⟨fun i hi => h1 _ (List.getElem_mem hi), fun i hi => h i (i + 1) (by omega) hi (by omega)⟩
instance (E : List Ent) : Decidable (Space E) := decidable_of_iff ((∀ e ∈ E, e.Ok) ∧ Asc E) ⟨fun h => space_of_asc h.1 h.2, fun h => ⟨fun e he => by obtain ⟨i, hi, rfl⟩ := List.getElem_of_mem he; exact h.1 i hi, asc_of_space h⟩⟩
theorem find_at {E : List Ent} {p : List UInt8} {k : Nat} (hk : k < E.length) (h : ∀ (i : Nat) (h : i < E.length), i < k → E[i].path ≠ p) (he : E[k].path = p) : find E p = some E[k] := by
  unfold find
  rw [List.find?_eq_some_iff_getElem]
  exact ⟨by simpa using he, k, hk, rfl, fun j hj => by simpa using h j (by omega) hj⟩
theorem find_end {E : List Ent} {p : List UInt8} (h : ∀ (i : Nat) (h : i < E.length), E[i].path ≠ p) : find E p = none := by
  unfold find
  rw [List.find?_eq_none]
  intro x hx
  obtain ⟨i, hi, rfl⟩ := List.getElem_of_mem hx
  simpa using h i hi
theorem find_path {E : List Ent} {p : List UInt8} {x : Ent} (h : find E p = some x) : x.path = p ∧ x ∈ E := ⟨by simpa using List.find?_some h, List.mem_of_find?_eq_some h⟩
/-- One round of inserting n: y comes behind what is there, n ahead of it if it belongs there. -/
def Here (out : List Ent) (y n : Ent) : Prop := ¬ (Lt y.path n.path ∨ y.path = n.path) ∧ ∀ z, out.getLast? = some z → Lt z.path n.path
instance (out : List Ent) (y n : Ent) : Decidable (Here out y n) := by
  unfold Here
  exact match h : out.getLast? with
  | none => decidable_of_iff (¬ (Lt y.path n.path ∨ y.path = n.path)) ⟨fun h => ⟨h, fun z hz => by cases hz⟩, fun h => h.1⟩
  | some z => decidable_of_iff (¬ (Lt y.path n.path ∨ y.path = n.path) ∧ Lt z.path n.path) ⟨fun h => ⟨h.1, fun x hx => by cases hx; exact h.2⟩, fun h => ⟨h.1, h.2 z rfl⟩⟩
def step (n : Ent) (out : List Ent) (y : Ent) : List Ent := (if Here out y n then out ++ [n] else out) ++ [y]
def outs (E : List Ent) (n : Ent) (k : Nat) : List Ent := (E.take k).foldl (step n) []
theorem outs_zero (E : List Ent) (n : Ent) : outs E n 0 = [] := rfl
theorem outs_succ {E : List Ent} {n : Ent} {k : Nat} (h : k < E.length) : outs E n (k + 1) = step n (outs E n k) E[k] := by
  unfold outs
  rw [List.take_succ_eq_append_getElem h, List.foldl_append]
  rfl
def insertL (E : List Ent) (n : Ent) : List Ent := if (outs E n E.length).length = E.length then outs E n E.length ++ [n] else outs E n E.length
theorem filter_all {α : Type} {p : α → Prop} [DecidablePred p] {l : List α} (h : ∀ x ∈ l, p x) : l.filter (fun x => p x) = l := List.filter_eq_self.2 (fun x hx => by simpa using h x hx)
theorem filter_no {α : Type} {p : α → Prop} [DecidablePred p] {l : List α} (h : ∀ x ∈ l, p x) : l.filter (fun x => ¬ p x) = [] := List.filter_eq_nil_iff.2 (fun x hx => by simpa using h x hx)
theorem last_behind {α : Type} (a : List α) (x : α) {b : List α} (h : b ≠ []) : (a ++ x :: b).getLast? = b.getLast? := by
  cases b with
  | nil => exact absurd rfl h
  | cons y b =>
    rw [List.getLast?_append, List.getLast?_cons_cons]
    cases hb : (y :: b).getLast? with
    | none => simp at hb
    | some v => rfl
theorem outs_eq {E : List Ent} {n : Ent} (hA : Asc E) (hne : ∀ x ∈ E, x.path ≠ n.path) : ∀ k, k ≤ E.length → outs E n k = if ∀ x ∈ E.take k, Lt x.path n.path then E.take k else insert (E.take k) n := by
  intro k
  induction k with
  | zero => intro _; rw [outs_zero]; simp
  | succ k ih =>
    intro hk
    have hkl : k < E.length := by omega
    rw [outs_succ hkl, ih (by omega), List.take_succ_eq_append_getElem hkl]
    have hy := hne _ (List.getElem_mem hkl)
    have hlt : ∀ x ∈ E.take k, Lt x.path E[k].path := by
      intro x hx
      obtain ⟨i, hi, rfl⟩ := List.getElem_of_mem hx
      rw [List.getElem_take]
      unfold Asc at hA
      rw [List.pairwise_iff_getElem] at hA
      have : i < k := by simp at hi; omega
      exact hA i k (by omega) hkl this
    generalize E[k] = y at *
    generalize E.take k = T at *
    by_cases hall : ∀ x ∈ T, Lt x.path n.path
    · rw [if_pos hall]
      by_cases hyn : Lt y.path n.path
      · have h1 : ¬ Here T y n := fun h => h.1 (.inl hyn)
        rw [if_pos (by intro x hx; rcases List.mem_append.1 hx with hx | hx; exact hall x hx; simp only [List.mem_singleton] at hx; subst hx; exact hyn)]
        unfold step
        rw [if_neg h1]
      · have h1 : Here T y n := ⟨fun h => h.elim hyn hy, fun z hz => hall z (List.mem_of_getLast? hz)⟩
        rw [if_neg (fun h => hyn (h y (by simp)))]
        unfold step insert
        rw [if_pos h1, List.filter_append, List.filter_append, filter_all hall, filter_no hall, List.filter_cons_of_neg (by simpa using hyn), List.filter_cons_of_pos (by simpa using hyn)]
        simp
    · rw [if_neg hall]
      obtain ⟨z, hz, hzn⟩ : ∃ z ∈ T, ¬ Lt z.path n.path := Classical.byContradiction fun h => hall fun x hx => Classical.byContradiction fun h' => h ⟨x, hx, h'⟩
      have hyn : ¬ Lt y.path n.path := fun h => hzn (lt_trans (hlt z hz) h)
      have h1 : ¬ Here (insert T n) y n := by
        intro h
        have hne2 : T.filter (fun x => ¬ Lt x.path n.path) ≠ [] := fun e => by
          have : z ∈ T.filter (fun x => ¬ Lt x.path n.path) := List.mem_filter.2 ⟨hz, by simpa using hzn⟩
          rw [e] at this; cases this
        have hl : (insert T n).getLast? = (T.filter (fun x => ¬ Lt x.path n.path)).getLast? := by
          unfold insert
          exact last_behind _ _ hne2
        obtain ⟨v, hv⟩ : ∃ v, (T.filter (fun x => ¬ Lt x.path n.path)).getLast? = some v := ⟨_, List.getLast?_eq_some_getLast hne2⟩
        have hm := List.mem_filter.1 (List.mem_of_getLast? hv)
        have hvn : ¬ Lt v.path n.path := by simpa using hm.2
        exact hvn (h.2 v (by rw [hl, hv]))
      rw [if_neg (fun h => hyn (h y (by simp)))]
      unfold step
      rw [if_neg h1]
      unfold insert
      rw [List.filter_append, List.filter_append, List.filter_cons_of_neg (by simpa using hyn), List.filter_cons_of_pos (by simpa using hyn)]
      simp
theorem insertL_eq {E : List Ent} {n : Ent} (hA : Asc E) (hne : ∀ x ∈ E, x.path ≠ n.path) : insertL E n = insert E n := by
  have h := outs_eq hA hne E.length (Nat.le_refl _)
  rw [List.take_length] at h
  unfold insertL
  rw [h]
  by_cases hall : ∀ x ∈ E, Lt x.path n.path
  · rw [if_pos hall, if_pos rfl]
    unfold insert
    rw [filter_all hall, filter_no hall]
  · rw [if_neg hall, if_neg (by rw [insert_length]; omega)]
theorem mem_insert {E : List Ent} {n x : Ent} : x ∈ insert E n ↔ x = n ∨ x ∈ E := by
  unfold insert
  simp only [List.mem_append, List.mem_cons, List.mem_filter, decide_eq_true_eq]
  constructor
  · rintro (h | h | h)
    · exact .inr h.1
    · exact .inl h
    · exact .inr h.1
  · rintro (h | h)
    · exact .inr (.inl h)
    · by_cases hx : Lt x.path n.path
      · exact .inl ⟨h, hx⟩
      · exact .inr (.inr ⟨h, hx⟩)
theorem insert_space {E : List Ent} {n : Ent} (h : Space E) (hok : n.Ok) (hn : find E n.path = none) : Space (insert E n) :=
  space_of_asc (fun x hx => by
    rcases mem_insert.1 hx with rfl | hx
    · exact hok
    · obtain ⟨i, hi, rfl⟩ := List.getElem_of_mem hx; exact h.1 i hi) (insert_asc (asc_of_space h) hn)
/-- In an ascending list an entry is found by its path. -/
theorem find_mem {E : List Ent} (hA : Asc E) {x : Ent} (hx : x ∈ E) : find E x.path = some x := by
  obtain ⟨i, hi, rfl⟩ := List.getElem_of_mem hx
  unfold Asc at hA
  rw [List.pairwise_iff_getElem] at hA
  exact find_at hi (fun j hj h1 => lt_ne (hA j i hj hi h1)) rfl
theorem find_insert_same {E : List Ent} {n : Ent} (h : Asc E) (hn : find E n.path = none) : find (insert E n) n.path = some n := find_mem (insert_asc h hn) (mem_insert.2 (.inl rfl))
theorem find_insert_other {E : List Ent} {n : Ent} {p : List UInt8} (h : Asc E) (hn : find E n.path = none) (hp : n.path ≠ p) : find (insert E n) p = find E p := by
  cases hf : find E p with
  | some x =>
    obtain ⟨rfl, hx⟩ := find_path hf
    exact find_mem (insert_asc h hn) (mem_insert.2 (.inr hx))
  | none =>
    cases hg : find (insert E n) p with
    | none => rfl
    | some x =>
      obtain ⟨rfl, hx⟩ := find_path hg
      rcases mem_insert.1 hx with rfl | hx
      · exact absurd rfl hp
      · rw [find_mem h hx] at hf; cases hf
end Nx
end Go.Proofs.Ytddbohnappogkaa
namespace Go.Proofs.Ytddbohnappogkaa
open Go.RowKit

namespace Nx
/-- Ascending lists with the same entries are the same. -/
theorem asc_ext {E F : List Ent} (hE : Asc E) (hF : Asc F) (h : ∀ x, x ∈ E ↔ x ∈ F) : E = F := by
  have nd : ∀ {L : List Ent}, Asc L → L.Nodup := fun hL => List.nodup_iff_pairwise_ne.2 (List.Pairwise.imp (R := fun a b : Ent => Lt a.path b.path) (S := fun a b => a ≠ b) (fun {a b} hab (e : a = b) => lt_ne hab (by rw [e])) hL)
  exact List.Perm.eq_of_pairwise (α := Ent) (le := fun a b : Ent => Lt a.path b.path) (fun a b _ _ (h1 : Lt a.path b.path) (h2 : Lt b.path a.path) => absurd h2 (lt_asymm h1)) hE hF ((List.perm_ext_iff_of_nodup (nd hE) (nd hF)).2 h)
/-- All entries but that of a path. -/
def but (E : List Ent) (p : List UInt8) : List Ent := E.filter fun x => x.path ≠ p
theorem mem_but {E : List Ent} {p : List UInt8} {x : Ent} : x ∈ but E p ↔ x ∈ E ∧ x.path ≠ p := by unfold but; simp
theorem but_asc {E : List Ent} (h : Asc E) (p : List UInt8) : Asc (but E p) := h.filter _
theorem but_space {E : List Ent} (h : Space E) (p : List UInt8) : Space (but E p) := space_of_asc (fun x hx => by
  obtain ⟨i, hi, rfl⟩ := List.getElem_of_mem (mem_but.1 hx).1
  exact h.1 i hi) (but_asc (asc_of_space h) p)
theorem find_iff {E : List Ent} (h : Asc E) {p : List UInt8} {x : Ent} : find E p = some x ↔ x ∈ E ∧ x.path = p :=
  ⟨fun hf => ⟨(find_path hf).2, (find_path hf).1⟩, fun ⟨h1, h2⟩ => by subst h2; exact find_mem h h1⟩
theorem find_ext {E F : List Ent} {p : List UInt8} (hE : Asc E) (hF : Asc F) (h : ∀ x : Ent, x.path = p → (x ∈ E ↔ x ∈ F)) : find E p = find F p := by
  cases he : find E p with
  | some x =>
    obtain ⟨h1, h2⟩ := (find_iff hE).1 he
    exact ((find_iff hF).2 ⟨(h x h2).1 h1, h2⟩).symm
  | none =>
    cases hf : find F p with
    | none => rfl
    | some x =>
      obtain ⟨h1, h2⟩ := (find_iff hF).1 hf
      rw [(find_iff hE).2 ⟨(h x h2).2 h1, h2⟩] at he
      cases he
theorem find_but {E : List Ent} (h : Asc E) {p q : List UInt8} : find (but E p) q = if q = p then none else find E q := by
  by_cases hq : q = p
  · rw [if_pos hq]
    subst hq
    exact find_end fun i hi => (mem_but.1 (List.getElem_mem hi)).2
  · rw [if_neg hq]
    exact find_ext (but_asc h p) h fun x hx => by
      rw [mem_but]
      exact ⟨fun h => h.1, fun h1 => ⟨h1, by rw [hx]; exact hq⟩⟩
/-- An entry under another path. -/
def Ent.as (e : Ent) (p : List UInt8) : Ent := { e with path := p }
theorem Ent.as_ok {e : Ent} (h : e.Ok) {p : List UInt8} (hp : Path p) : (e.as p).Ok := ⟨h.1, h.2.1, hp⟩
/-- The entries with e under the path p in place of its own. -/
def moved (E : List Ent) (e : Ent) (p : List UInt8) : List Ent := insert (but E e.path) (e.as p)
section
variable {E : List Ent} {e : Ent} {p : List UInt8}
theorem moved_none (h : Space E) (hp : find E p = none) : find (but E e.path) p = none := by
  rw [find_but (asc_of_space h)]
  split
  · rfl
  · exact hp
theorem moved_space (h : Space E) (he : e ∈ E) (hok : Path p) (hp : find E p = none) : Space (moved E e p) := by
  obtain ⟨i, hi, rfl⟩ := List.getElem_of_mem he
  exact insert_space (but_space h _) (Ent.as_ok (h.1 i hi) hok) (moved_none h hp)
theorem moved_len (h : Space E) (he : e ∈ E) : (moved E e p).length = E.length := by
  have hA := asc_of_space h
  unfold moved
  rw [insert_length]
  have h1 := parts_length (fun x : Ent => x.path = e.path) E
  have h2 : E.filter (fun x => x.path = e.path) = [e] := by
    refine asc_ext (hA.filter _) (List.pairwise_singleton _ _) fun x => ?_
    simp only [List.mem_filter, decide_eq_true_eq, List.mem_singleton]
    constructor
    · rintro ⟨hx, hpx⟩
      have a := find_mem hA hx
      have b := find_mem hA he
      rw [hpx, b] at a
      injection a with a
      exact a.symm
    · rintro rfl
      exact ⟨he, rfl⟩
  rw [h2] at h1
  simp only [List.length_singleton] at h1
  unfold but
  have h3 : (E.filter fun x => decide (x.path ≠ e.path)).length = (E.filter fun x => decide ¬ x.path = e.path).length := rfl
  omega
theorem mem_moved {x : Ent} : x ∈ moved E e p ↔ x = e.as p ∨ (x ∈ E ∧ x.path ≠ e.path) := by unfold moved; rw [mem_insert, mem_but]
theorem moved_find (h : Space E) (he : e ∈ E) (hok : Path p) (hp : find E p = none) (q : List UInt8) :
    find (moved E e p) q = if q = p then some (e.as p) else if q = e.path then none else find E q := by
  have hA := asc_of_space h
  have hM := asc_of_space (moved_space h he hok hp)
  by_cases h1 : q = p
  · subst h1
    rw [if_pos rfl]
    exact (find_iff hM).2 ⟨mem_moved.2 (.inl rfl), rfl⟩
  · rw [if_neg h1]
    by_cases h2 : q = e.path
    · subst h2
      rw [if_pos rfl]
      exact find_end fun i hi hpi => by
        rcases mem_moved.1 (List.getElem_mem hi) with h3 | h3
        · rw [h3] at hpi; exact h1 hpi.symm
        · exact h3.2 hpi
    · rw [if_neg h2]
      exact find_ext hM hA fun x hx => by
        rw [mem_moved]
        constructor
        · rintro (h3 | h3)
          · subst h3; exact absurd hx.symm h1
          · exact h3.1
        · intro h3
          exact .inr ⟨h3, by rw [hx]; exact h2⟩
/-- Renaming back restores the entries. -/
theorem moved_back (h : Space E) (he : e ∈ E) (hok : Path p) (hp : find E p = none) : moved (moved E e p) (e.as p) e.path = E := by
  have hA := asc_of_space h
  have hM := moved_space h he hok hp
  have hee : (e.as p).as e.path = e := rfl
  have hpe : (e.as p).path = p := rfl
  have hne : e.path ≠ p := fun hh => by
    have := find_mem hA he
    rw [hh, hp] at this
    cases this
  have hn : find (moved E e p) e.path = none := by rw [moved_find h he hok hp, if_neg hne, if_pos rfl]
  obtain ⟨i, hi, hei⟩ := List.getElem_of_mem he
  have hpath : Path e.path := by rw [← hei]; exact (h.1 i hi).2.2
  refine asc_ext (asc_of_space (moved_space hM (mem_moved.2 (.inl rfl)) hpath hn)) hA fun x => ?_
  rw [mem_moved, mem_moved, hee, hpe]
  constructor
  · rintro (rfl | ⟨rfl | h1, h2⟩)
    · exact he
    · exact absurd rfl h2
    · exact h1.1
  · intro hx
    by_cases hxe : x.path = e.path
    · left
      have a := find_mem hA hx
      have b := find_mem hA he
      rw [hxe, b] at a
      injection a with a
      exact a.symm
    · right
      refine ⟨.inr ⟨hx, hxe⟩, fun hxp => ?_⟩
      have := find_mem hA hx
      rw [hxp, hp] at this
      cases this
end
end Nx
end Go.Proofs.Ytddbohnappogkaa
namespace Go.Proofs.Ytddbohnappogkaa
open Go.RowKit

namespace Nx
theorem cmp_lt : ∀ (a b : List UInt8), Lib.compareBytes a b < 0 ↔ Lt a b
  | [], [] => by simp [Lib.compareBytes, lt_nil_r]
  | [], y :: b => by simp [Lib.compareBytes, lt_nil_l]
  | x :: a, [] => by simp [Lib.compareBytes, lt_nil_r]
  | x :: a, y :: b => by
    rw [lt_cons, Lib.compareBytes]
    by_cases h1 : x < y
    · simp [h1]
    · by_cases h2 : y < x
      · have hne : x ≠ y := fun e => by subst e; exact UInt8.lt_irrefl x h2
        simp [h1, h2, hne]
      · have he : x = y := UInt8.toNat_inj.1 (by
          rw [UInt8.lt_iff_toNat_lt] at h1 h2
          omega)
        rw [if_neg h1, if_neg h2, cmp_lt a b]
        simp [he]
theorem cmp_eq : ∀ (a b : List UInt8), Lib.compareBytes a b = 0 ↔ a = b
  | [], [] => by simp [Lib.compareBytes]
  | [], y :: b => by simp [Lib.compareBytes]
  | x :: a, [] => by simp [Lib.compareBytes]
  | x :: a, y :: b => by
    rw [Lib.compareBytes]
    by_cases h1 : x < y
    · have hne : x ≠ y := fun e => by subst e; exact UInt8.lt_irrefl x h1
      simp [h1, hne]
    · by_cases h2 : y < x
      · have hne : x ≠ y := fun e => by subst e; exact UInt8.lt_irrefl x h2
        simp [h1, h2, hne]
      · have he : x = y := UInt8.toNat_inj.1 (by
          rw [UInt8.lt_iff_toNat_lt] at h1 h2
          omega)
        rw [if_neg h1, if_neg h2, cmp_eq a b]
        simp [he]
/-- i entries lie ahead of the path p. -/
structure Pos (E : List Ent) (p : List UInt8) (i : Nat) : Prop where
  le : i ≤ E.length
  lo : ∀ a (h : a < E.length), a < i → Lt E[a].path p
  hi : ∀ a (h : a < E.length), i ≤ a → ¬ Lt E[a].path p
section
variable {E : List Ent} {p : List UInt8} {i : Nat}
theorem asc_at (hA : Asc E) {a b : Nat} (hb : b < E.length) (h : a < b) : Lt E[a].path E[b].path := by
  unfold Asc at hA
  rw [List.pairwise_iff_getElem] at hA
  exact hA a b (by omega) hb h
/-- In an ascending list the path is there, if at all, at its place. -/
theorem Pos.there (h : Pos E p i) (hA : Asc E) {x : Ent} (hf : find E p = some x) : ∃ hi : i < E.length, E[i] = x := by
  obtain ⟨hp, hx⟩ := find_path hf
  obtain ⟨j, hj, rfl⟩ := List.getElem_of_mem hx
  have h1 : i ≤ j := Nat.le_of_not_lt fun hji => by
    have := h.lo j hj hji
    rw [hp] at this
    exact lt_irrefl p this
  rcases Nat.lt_or_eq_of_le h1 with h2 | rfl
  · have h3 := asc_at hA hj h2
    rw [hp] at h3
    exact absurd h3 (h.hi i (by omega) (Nat.le_refl _))
  · exact ⟨hj, rfl⟩
theorem Pos.find (_ : Pos E p i) (hA : Asc E) (hi : i < E.length) (he : E[i].path = p) : find E p = some E[i] := by
  rw [← he]
  exact find_mem hA (List.getElem_mem hi)
theorem Pos.isSome (h : Pos E p i) (hA : Asc E) : (Nx.find E p).isSome = true ↔ ∃ hi : i < E.length, E[i].path = p := by
  constructor
  · intro hs
    obtain ⟨x, hx⟩ := Option.isSome_iff_exists.1 hs
    obtain ⟨hi, he⟩ := h.there hA hx
    exact ⟨hi, by rw [he]; exact (find_path hx).1⟩
  · rintro ⟨hi, he⟩
    rw [h.find hA hi he]; rfl
theorem Pos.insert {n : Ent} (h : Pos E n.path i) : insert E n = E.take i ++ n :: E.drop i := by
  have hs := List.take_append_drop i E
  have h1 : ∀ x ∈ E.take i, Lt x.path n.path := fun x hx => by
    obtain ⟨k, hk, rfl⟩ := List.getElem_of_mem hx
    rw [List.getElem_take]
    exact h.lo k (by simp at hk; omega) (by simp at hk; omega)
  have h2 : ∀ x ∈ E.drop i, ¬ Lt x.path n.path := fun x hx => by
    obtain ⟨k, hk, rfl⟩ := List.getElem_of_mem hx
    rw [List.getElem_drop]
    exact h.hi (i + k) (by simp at hk; omega) (by omega)
  have e1 : E.filter (fun x => Lt x.path n.path) = E.take i := by
    conv => lhs; rw [← hs]
    rw [List.filter_append, List.filter_eq_self.2 (fun x hx => by simpa using h1 x hx), List.filter_eq_nil_iff.2 (fun x hx => by simpa using h2 x hx), List.append_nil]
  have e2 : E.filter (fun x => ¬ Lt x.path n.path) = E.drop i := by
    conv => lhs; rw [← hs]
    rw [List.filter_append, List.filter_eq_nil_iff.2 (fun x hx => by simpa using h1 x hx), List.filter_eq_self.2 (fun x hx => by simpa using h2 x hx), List.nil_append]
  unfold Nx.insert
  rw [e1, e2]
end
end Nx
end Go.Proofs.Ytddbohnappogkaa
