/- Layer 4: what the five laws carry along: the listed variables, the frame, a program that a block holds; the contracts said of a held program. -/
import Derived.Test.YtfjekckcpkkdiaaGreatDoorCodeParse
import Derived.Test.YtfjekckcpkkdiaaGreatDoorCodeFormat
import Derived.Test.YtfjekckcpkkdiaaGreatDoorCodeRefFormat
import Derived.Test.YtfjekckcpkkdiaaGreatDoorCodeRefCheck2
import Derived.Test.YtfjekckcpkkdiaaGreatDoorCodeSame
namespace Go.Proofs.YtfjekckcpkkdiaaGreatDoor
open Go.RowKit

/-- The listed variables are laid, and what was there at W is as it was. -/
structure Env (W w : World) : Prop where
  laid : Laid w
  ops : LaidO w
  bel : Below W.heap.size W w
section
variable {W w w' : World}
theorem Env.start (hL : Laid W) (hO : LaidO W) : Env W W := ⟨hL, hO, Below.refl _ _⟩
theorem Env.next (h : Env W w) (hb : Below w.heap.size w w') : Env W w' := ⟨h.laid.below hb, h.ops.below hb, h.bel.trans (hb.mono h.bel.size)⟩
theorem bel_alloc (w : World) (o : Obj) : Below w.heap.size w (w.alloc o) := (Below.refl _ _).alloc (Nat.le_refl _) o
theorem Env.alloc (h : Env W w) (o : Obj) : Env W (w.alloc o) := h.next (bel_alloc w o)
theorem Env.drew (h : Env W w) : Env W w.drew := h.next ⟨rfl, rfl, rfl, Nat.le_refl _, fun _ _ => rfl⟩
theorem Env.tab (h : Env W w) : LaidT w := h.laid.tab
theorem bel_then {a b c : World} (h : Below a.heap.size a b) (k : Below b.heap.size b c) : Below a.heap.size a c := h.trans (k.mono h.size)
end

/-- Block g holds the program p. -/
def Held (w : World) (g : Nat) (A : Option Addr) (n c : Nat) (D : Option Addr) (m d : Nat) (p : Cd.Pr) : Prop :=
  Obl w g 25 #[.slice A n c, .slice D m d, .int .i64 p.pages] ∧ (Inss w w.heap.size A n p.code ∧ Strs w w.heap.size D m p.strs) ∧ (n ≤ 9223372036854775807 ∧ m ≤ 9223372036854775807)
section
variable {w w' : World} {g n c m d : Nat} {A D : Option Addr} {p : Cd.Pr}
theorem Held.below (h : Held w g A n c D m d p) (hb : Below w.heap.size w w') : Held w' g A n c D m d p :=
  ⟨h.1.below hb h.1.lt, ⟨(h.2.1.1.below hb).mono hb.size, (h.2.1.2.below hb).mono hb.size⟩, h.2.2⟩
theorem Held.alloc (h : Held w g A n c D m d p) (o : Obj) : Held (w.alloc o) g A n c D m d p := h.below (bel_alloc w o)
theorem Held.make (hi : Inss w w.heap.size A n p.code) (hs : Strs w w.heap.size D m p.strs) (hn : n ≤ 9223372036854775807) (hm : m ≤ 9223372036854775807) :
    Held (w.alloc (.cells #[.slice A n c, .slice D m d, .int .i64 p.pages] 25)) w.heap.size A n c D m d p :=
  ⟨Obl.make w _ _, ⟨(hi.below (bel_alloc w _)).mono (bel_alloc w _).size, (hs.below (bel_alloc w _)).mono (bel_alloc w _).size⟩, hn, hm⟩
theorem Held.lt (h : Held w g A n c D m d p) : g < w.heap.size := h.1.lt
theorem Held.c0 (h : Held w g A n c D m d p) : w.cell? ⟨g, 0, none⟩ = some (.slice A n c) := by have := h.1.cell 0; simpa using this
theorem Held.c1 (h : Held w g A n c D m d p) : w.cell? ⟨g, 1, none⟩ = some (.slice D m d) := by have := h.1.cell 1; simpa using this
theorem Held.c2 (h : Held w g A n c D m d p) : w.cell? ⟨g, 2, none⟩ = some (.int .i64 p.pages) := by have := h.1.cell 2; simpa using this
/-- Lists of a program whose strings are no longer than a machine's memory, and whose numbers are numbers of 64 bits. -/
def Fine (p : Cd.Pr) : Prop := (∀ x ∈ p.strs, x.length ≤ 9223372036854775807) ∧ ∀ x ∈ p.code, Cd.in64 x
theorem format_held (h : Held w g A n c D m d p) (hf : Fine p) (hO : LaidO w) (hT : LaidT w) : Calls Tryz.prog 13 #[.agg #[.slice A n c, .slice D m d, .int .i64 p.pages]] w (StrPost (Cd.format p) w) :=
  format4_any p A D n c m d w.heap.size w h.2.1.1 h.2.1.2 (Nat.le_refl _) h.2.2.1 h.2.2.2 hf.1 hf.2 hO hT
theorem refFormat_held (h : Held w g A n c D m d p) (hf : Fine p) : Calls Tryz.prog 14 #[.agg #[.slice A n c, .slice D m d, .int .i64 p.pages]] w (StrPost (Cd.format p) w) :=
  ref4Format_any p A D n c m d w.heap.size w h.2.1.1 h.2.1.2 (Nat.le_refl _) h.2.2.1 h.2.2.2 hf.1 hf.2
theorem check_held (h : Held w g A n c D m d p) (hf : Fine p) (hO : LaidO w) : Calls Tryz.prog 11 #[.agg #[.slice A n c, .slice D m d, .int .i64 p.pages]] w (IntsPost ((Cd.check p).1 : Int) ((Cd.check p).2 : Int) w) :=
  check_any p A D n c m d w.heap.size w h.2.1.1 h.2.1.2 (Nat.le_refl _) h.2.2.1 h.2.2.2 hf.1 hO
theorem refCheck_held (h : Held w g A n c D m d p) (hf : Fine p) : Calls Tryz.prog 12 #[.agg #[.slice A n c, .slice D m d, .int .i64 p.pages]] w (IntsPost ((Cd.check p).1 : Int) ((Cd.check p).2 : Int) w) :=
  refCheck_any p A D n c m d w.heap.size w h.2.1.1 h.2.1.2 (Nat.le_refl _) h.2.2.1 h.2.2.2 hf.1
theorem same_held {g' n' c' m' d' : Nat} {A' D' : Option Addr} {q : Cd.Pr} (h : Held w g A n c D m d p) (k : Held w g' A' n' c' D' m' d' q) :
    Calls Tryz.prog 15 #[.agg #[.slice A n c, .slice D m d, .int .i64 p.pages], .agg #[.slice A' n' c', .slice D' m' d', .int .i64 q.pages]] w fun e w' => e = .returned (.bool (decide (p = q))) ∧ Below w.heap.size w w' :=
  same_any p q A D A' D' n c m d n' c' m' d' w.heap.size w h.2.1.1 h.2.1.2 k.2.1.1 k.2.1.2 (Nat.le_refl _) h.2.2.1 h.2.2.2 k.2.2.1 k.2.2.2
theorem refSame_held {g' n' c' m' d' : Nat} {A' D' : Option Addr} {q : Cd.Pr} (h : Held w g A n c D m d p) (k : Held w g' A' n' c' D' m' d' q) :
    Calls Tryz.prog 16 #[.agg #[.slice A n c, .slice D m d, .int .i64 p.pages], .agg #[.slice A' n' c', .slice D' m' d', .int .i64 q.pages]] w fun e w' => e = .returned (.bool (decide (p = q))) ∧ Below w.heap.size w w' :=
  ref4Same_any p q A D A' D' n c m d n' c' m' d' w.heap.size w h.2.1.1 h.2.1.2 k.2.1.1 k.2.1.2 (Nat.le_refl _) h.2.2.1 h.2.2.2 k.2.2.1 k.2.2.2
end
/-- One number of one instruction is written. -/
theorem iv_set (l : List Cd.Ins) (i : Nat) (hi : i < l.length) (v : Int) :
    (iv l).set (i * 4) (.int .i64 v) = iv (l.set i ⟨v, l[i].a, l[i].b, l[i].c⟩) ∧ (iv l).set (i * 4 + 1) (.int .i64 v) = iv (l.set i ⟨l[i].op, v, l[i].b, l[i].c⟩) ∧
    (iv l).set (i * 4 + 2) (.int .i64 v) = iv (l.set i ⟨l[i].op, l[i].a, v, l[i].c⟩) ∧ (iv l).set (i * 4 + 3) (.int .i64 v) = iv (l.set i ⟨l[i].op, l[i].a, l[i].b, v⟩) := by
  induction l generalizing i with
  | nil => simp at hi
  | cons x l ih =>
    rcases i with _ | i
    · simp [iv, ic]
    · have h := ih i (by simpa using hi)
      have e : ∀ (j : Nat) (u : Value), (iv (x :: l)).set (j + 4) u = ic x ++ (iv l).set j u := by
        intro j u
        rw [iv_cons, List.set_append_right _ _ (by simp [ic])]
        congr 1
      simp only [List.set_cons_succ, List.getElem_cons_succ, iv_cons]
      rw [show (i + 1) * 4 = i * 4 + 4 by omega, show i * 4 + 4 + 1 = (i * 4 + 1) + 4 by omega, show i * 4 + 4 + 2 = (i * 4 + 2) + 4 by omega, show i * 4 + 4 + 3 = (i * 4 + 3) + 4 by omega, ← iv_cons, e, e, e, e, h.1, h.2.1, h.2.2.1, h.2.2.2]
      exact ⟨rfl, rfl, rfl, rfl⟩
/-- What parsing gave, opened. -/
theorem ParsePost.got {r : Cd.Pr × Nat × Nat} {p : Cd.Pr} {i er : Nat} {w w' : World} {e : Ending} (h : ParsePost r w e w') (hr : r = (p, i, er)) :
    ∃ A n c D m d, e = .returned (.tuple #[.agg #[.slice A n c, .slice D m d, .int .i64 p.pages], .int .i64 (i : Int), .int .i64 (er : Int)]) ∧ (Inss w' w'.heap.size A n p.code ∧ Strs w' w'.heap.size D m p.strs) ∧ (n ≤ 9223372036854775807 ∧ m ≤ 9223372036854775807) ∧ Below w.heap.size w w' := by
  subst hr
  obtain ⟨A, n, c, D, m, d, he, h1, h2, h3⟩ := h
  exact ⟨A, n, c, D, m, d, he, h1, h2, h3⟩
theorem StrPost.got {r : List UInt8 × Nat} {l : List UInt8} {er : Nat} {w w' : World} {e : Ending} (h : StrPost r w e w') (hr : r = (l, er)) :
    e = .returned (.tuple #[.string ⟨l.toArray⟩, .int .i64 (er : Int)]) ∧ Below w.heap.size w w' := by subst hr; exact h
end Go.Proofs.YtfjekckcpkkdiaaGreatDoor
