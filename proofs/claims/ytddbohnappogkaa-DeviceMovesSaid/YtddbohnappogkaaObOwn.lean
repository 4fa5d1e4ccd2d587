/- Entries of a name space in memory; objects whose lists are rows of the call's own. Nothing of the program but the types' numbers. -/
import Derived.Test.YtddbohnappogkaaOb
import Derived.Test.YtddbohnappogkaaDice
namespace Go.Proofs.Ytddbohnappogkaa
open Go.RowKit

/-- An entry, its identifiers as a slice. -/
structure Nm where
  path : List UInt8
  kind : Int
  ids : Sl
def nmc (x : Nm) : List Value := [.string ⟨x.path.toArray⟩, .int .i64 x.kind, .slice x.ids.A x.ids.n x.ids.c]
def nmv (l : List Nm) : List Value := l.flatMap nmc
abbrev nma (x : Nm) : Value := .agg #[.string ⟨x.path.toArray⟩, .int .i64 x.kind, .slice x.ids.A x.ids.n x.ids.c]
theorem nmv_cons (x : Nm) (l : List Nm) : nmv (x :: l) = nmc x ++ nmv l := rfl
theorem nmv_append (a b : List Nm) : nmv (a ++ b) = nmv a ++ nmv b := by simp [nmv]
theorem nmv_length (l : List Nm) : (nmv l).length = l.length * 3 := by
  induction l with
  | nil => rfl
  | cons x l ih => rw [nmv_cons, List.length_append, ih, List.length_cons]; simp only [nmc, List.length_cons, List.length_nil]; omega
theorem nmv_at {l : List Nm} {k : Nat} (h : k < l.length) : (nmv l)[k * 3]? = some (.string ⟨l[k].path.toArray⟩) ∧ (nmv l)[k * 3 + 1]? = some (.int .i64 l[k].kind) ∧ (nmv l)[k * 3 + 2]? = some (.slice l[k].ids.A l[k].ids.n l[k].ids.c) := by
  induction l generalizing k with
  | nil => simp at h
  | cons a l ih =>
    rw [nmv_cons]
    rcases k with _ | k
    · exact ⟨rfl, rfl, rfl⟩
    · have := ih (k := k) (by simpa using h)
      rw [show (k + 1) * 3 = (nmc a).length + k * 3 by simp [nmc]; omega, List.getElem?_append_right (by omega), List.getElem?_append_right (by omega), List.getElem?_append_right (by omega)]
      simp only [List.getElem_cons_succ]
      rw [show (nmc a).length + k * 3 - (nmc a).length = k * 3 by omega, show (nmc a).length + k * 3 + 1 - (nmc a).length = k * 3 + 1 by omega, show (nmc a).length + k * 3 + 2 - (nmc a).length = k * 3 + 2 by omega]
      exact this
theorem nmv_one (l : List Nm) : ∀ u ∈ nmv l, u.oneCell' = true := by
  intro u hu
  simp only [nmv, List.mem_flatMap] at hu
  obtain ⟨a, _, hu⟩ := hu
  simp only [nmc, List.mem_cons, List.not_mem_nil, or_false] at hu
  rcases hu with rfl | rfl | rfl <;> rfl
/-- The slice of address A and n entries reads as l; the identifiers of each are to be read. -/
def Nms (w : World) (B : Nat) (A : Option Addr) (n : Nat) (l : List Nm) : Prop := l.length = n ∧ Row w B 3 A n (nmv l) ∧ ∀ x ∈ l, ∃ I, Nums .u64 w B x.ids.A x.ids.n I
section
variable {w w' : World} {B B' n : Nat} {A : Option Addr} {l : List Nm}
theorem Nms.nil : Nms w B A 0 [] := ⟨rfl, Row.nil, by simp⟩
theorem Nms.mono (h : Nms w B A n l) (hB : B ≤ B') : Nms w B' A n l := ⟨h.1, h.2.1.mono hB, fun x hx => (h.2.2 x hx).imp fun _ => Nums.mono (hB := hB)⟩
theorem Nms.below (h : Nms w B A n l) (hb : Below B w w') : Nms w' B A n l := ⟨h.1, h.2.1.below hb, fun x hx => (h.2.2 x hx).imp fun _ hI => hI.below hb⟩
theorem Nms.belowLe {C : Nat} (h : Nms w B A n l) (hb : Below C w w') (hC : B ≤ C) : Nms w' B A n l := h.below (hb.mono hC)
/-- The i-th entry, where it lies. -/
theorem Nms.at_ (h : Nms w B A n l) {i : Nat} (hi : i < n) : ∃ b o, ∃ hl : i < l.length, A = some ⟨b, o, none⟩ ∧ b < B ∧ w.cell? ⟨b, o + i * 3, none⟩ = some (.string ⟨l[i].path.toArray⟩) ∧ w.cell? ⟨b, o + i * 3 + 1, none⟩ = some (.int .i64 l[i].kind) ∧
    w.cell? ⟨b, o + i * 3 + 2, none⟩ = some (.slice l[i].ids.A l[i].ids.n l[i].ids.c) ∧ ∃ I, Nums .u64 w B l[i].ids.A l[i].ids.n I := by
  have hl : i < l.length := by rw [h.1]; exact hi
  obtain ⟨h0, h1, h2⟩ := nmv_at hl
  obtain ⟨b, o, e, hb, hc⟩ := h.2.1.rd.at_ h0
  have hR := h.2.1.rd
  subst e
  obtain ⟨b', o', e', _, hall⟩ := hR (by intro hx; rw [hx] at h0; simp at h0)
  simp only [Option.some.injEq, Addr.mk.injEq, and_true] at e'
  obtain ⟨rfl, rfl⟩ := e'
  exact ⟨_, _, hl, rfl, hb, hc, by rw [Nat.add_assoc]; exact hall _ _ h1, by rw [Nat.add_assoc]; exact hall _ _ h2, h.2.2 _ (List.getElem_mem hl)⟩
end

/-- Entries in rows of the call's own. -/
def OwnNms (w : World) (base : Nat) (A : Option Addr) (n c : Nat) (l : List Nm) : Prop := w.ownsRow base 56 3 (.slice A n c) n (nmv l) ∧ ∀ x ∈ l, ∃ I, w.ownsRow base 22 1 (.slice x.ids.A x.ids.n x.ids.c) x.ids.n (nv .u64 I)
theorem OwnNms.keep {w w' : World} {base n c : Nat} {A : Option Addr} {l : List Nm} (h : OwnNms w base A n c l) (hk : ∀ g, base ≤ g → g < w.heap.size → w'.heap[g]? = w.heap[g]?) : OwnNms w' base A n c l := ⟨own_keep h.1 hk, fun x hx => (h.2 x hx).imp fun _ hI => own_keep hI hk⟩
theorem OwnNms.nms {w : World} {base n c : Nat} {A : Option Addr} {l : List Nm} (h : OwnNms w base A n c l) : Nms w w.heap.size A n l := ⟨by have := h.1.1; rw [nmv_length] at this; omega, Row.of_own h.1, fun x hx => (h.2 x hx).imp fun _ hI => Nums.of_own hI⟩

/-- Counts that are small. -/
def Ob.Small (o : Ob) : Prop := (-1000000 ≤ o.refs ∧ o.refs ≤ 1000000) ∧ (-1000000 ≤ o.readers ∧ o.readers ≤ 1000000) ∧ (-1000000 ≤ o.writers ∧ o.writers ≤ 1000000) ∧ (-1000000 ≤ o.e0 ∧ o.e0 ≤ 1000000) ∧ (-1000000 ≤ o.e1 ∧ o.e1 ≤ 1000000)
/-- .. and short lists. -/
def Ob.Fit (o : Ob) : Prop := o.Small ∧ o.words.n ≤ 1000 ∧ o.data.n ≤ 1000 ∧ o.backlog.n ≤ 1000 ∧ o.q0.n ≤ 1000 ∧ o.q1.n ≤ 1000
/-- An object that is no process, all of whose lists are rows of the call's own, above base. -/
structure OwnOb (w : World) (base : Nat) (o : Ob) : Prop where
  words : ∃ L, w.ownsRow base 2 1 (.slice o.words.A o.words.n o.words.c) o.words.n (nv .i64 L)
  data : ∃ D, w.ownsRow base 5 1 (.slice o.data.A o.data.n o.data.c) o.data.n (bv D)
  backlog : ∃ I, w.ownsRow base 22 1 (.slice o.backlog.A o.backlog.n o.backlog.c) o.backlog.n (nv .u64 I)
  q0 : ∃ D, w.ownsRow base 5 1 (.slice o.q0.A o.q0.n o.q0.c) o.q0.n (bv D)
  q1 : ∃ D, w.ownsRow base 5 1 (.slice o.q1.A o.q1.n o.q1.c) o.q1.n (bv D)
  names : ∃ N, OwnNms w base o.names.A o.names.n o.names.c N ∧ (∀ x ∈ N, x.path.length ≤ 1000 ∧ x.ids.n ≤ 1000) ∧ N.length ≤ 1000
  proc : o.NoProc
  fit : o.Fit
/-- An object that is no process, all of whose lists are to be read. -/
structure HeldOb (w : World) (o : Ob) : Prop where
  words : ∃ L, Nums .i64 w w.heap.size o.words.A o.words.n L
  data : ∃ D, Bytes w w.heap.size o.data.A o.data.n D
  backlog : ∃ I, Nums .u64 w w.heap.size o.backlog.A o.backlog.n I
  q0 : ∃ D, Bytes w w.heap.size o.q0.A o.q0.n D
  q1 : ∃ D, Bytes w w.heap.size o.q1.A o.q1.n D
  names : ∃ N, Nms w w.heap.size o.names.A o.names.n N
  proc : o.NoProc
section
variable {w w' : World} {base b : Nat} {o : Ob}
theorem OwnOb.held (h : OwnOb w base o) : HeldOb w o := ⟨h.words.imp fun _ => Nums.of_own, h.data.imp fun _ => Bytes.of_own, h.backlog.imp fun _ => Nums.of_own, h.q0.imp fun _ => Bytes.of_own, h.q1.imp fun _ => Bytes.of_own, h.names.imp fun _ h => h.1.nms, h.proc⟩
theorem OwnOb.keep (h : OwnOb w base o) (hk : ∀ g, base ≤ g → g < w.heap.size → w'.heap[g]? = w.heap[g]?) : OwnOb w' base o :=
  ⟨h.words.imp fun _ h => own_keep h hk, h.data.imp fun _ h => own_keep h hk, h.backlog.imp fun _ h => own_keep h hk, h.q0.imp fun _ h => own_keep h hk, h.q1.imp fun _ h => own_keep h hk, h.names.imp fun _ h => ⟨h.1.keep hk, h.2⟩, h.proc, h.fit⟩
theorem keep_bel (hB : Bel w.heap.size b w w') (hb : b < base) : ∀ g, base ≤ g → g < w.heap.size → w'.heap[g]? = w.heap[g]? := fun g h1 h2 => hB.block g h2 (by omega)
theorem keep_put {m : Nat} (hm : m < base) (i : Nat) (u : Value) : ∀ g, base ≤ g → g < w.heap.size → (w.setCell ⟨m, i, none⟩ u).heap[g]? = w.heap[g]? := fun g h1 _ => by simp [World.setCell, Array.getElem?_modify, show ¬ m = g by omega]
theorem keep_row {m : Nat} (hm : m < base) (cells : Array Value) : ∀ g, base ≤ g → g < w.heap.size → (w.setRow m cells).heap[g]? = w.heap[g]? := fun g h1 _ => setRow_other w m cells (by omega)
theorem OwnOb.bel (h : OwnOb w base o) (hB : Bel w.heap.size b w w') (hb : b < base) : OwnOb w' base o := h.keep (keep_bel hB hb)
theorem OwnOb.put (h : OwnOb w base o) {m : Nat} (hm : m < base) (i : Nat) (u : Value) : OwnOb (w.setCell ⟨m, i, none⟩ u) base o := h.keep (keep_put hm i u)
theorem OwnOb.row (h : OwnOb w base o) {m : Nat} (hm : m < base) (cells : Array Value) : OwnOb (w.setRow m cells) base o := h.keep (keep_row hm cells)
theorem OwnOb.weaken {base' : Nat} (h : OwnOb w base o) (hb : base' ≤ base) : OwnOb w base' o :=
  ⟨h.words.imp fun _ h => own_weaken h hb, h.data.imp fun _ h => own_weaken h hb, h.backlog.imp fun _ h => own_weaken h hb, h.q0.imp fun _ h => own_weaken h hb, h.q1.imp fun _ h => own_weaken h hb, h.names.imp fun _ h => ⟨⟨own_weaken h.1.1 hb, fun x hx => (h.1.2 x hx).imp fun _ h => own_weaken h hb⟩, h.2⟩, h.proc, h.fit⟩
theorem own_nil {e : TypeId} {size : Nat} : w.ownsRow base e size (.slice none 0 0) 0 [] := ⟨by simp, .inl ⟨rfl, rfl⟩⟩
theorem OwnOb.none (ho : o.words = ⟨none, 0, 0⟩ ∧ o.data = ⟨none, 0, 0⟩ ∧ o.backlog = ⟨none, 0, 0⟩ ∧ o.q0 = ⟨none, 0, 0⟩ ∧ o.q1 = ⟨none, 0, 0⟩ ∧ o.names = ⟨none, 0, 0⟩) (hp : o.NoProc) (hs : o.Small) : OwnOb w base o := by
  obtain ⟨h1, h2, h3, h4, h5, h6⟩ := ho
  refine ⟨⟨[], ?_⟩, ⟨[], ?_⟩, ⟨[], ?_⟩, ⟨[], ?_⟩, ⟨[], ?_⟩, ⟨[], ⟨?_, by simp⟩, by simp⟩, hp, ⟨hs, by rw [h1]; simp, by rw [h2]; simp, by rw [h3]; simp, by rw [h4]; simp, by rw [h5]; simp⟩⟩
  · rw [h1]; exact own_nil
  · rw [h2]; exact own_nil
  · rw [h3]; exact own_nil
  · rw [h4]; exact own_nil
  · rw [h5]; exact own_nil
  · rw [h6]; exact own_nil
theorem HeldOb.keep (h : HeldOb w o) (hb : Below w.heap.size w w') : HeldOb w' o :=
  ⟨h.words.imp fun _ h => (h.below hb).mono hb.size, h.data.imp fun _ h => (h.below hb).mono hb.size, h.backlog.imp fun _ h => (h.below hb).mono hb.size, h.q0.imp fun _ h => (h.below hb).mono hb.size, h.q1.imp fun _ h => (h.below hb).mono hb.size, h.names.imp fun _ h => (h.below hb).mono hb.size, h.proc⟩
end
/-- Block g, of sixteen words, as a row of the call's own. -/
theorem own_words {w : World} {g base : Nat} {L : List Int} (h : Obl w g 2 (nv .i64 L).toArray) (hL : L.length = 16) (hg : base ≤ g) : w.ownsRow base 2 1 (.slice (some ⟨g, 0, none⟩) 16 16) 16 (nv .i64 L) :=
  ⟨by rw [nv_length]; omega, .inr ⟨g, 16, (nv .i64 L).toArray, rfl, hg, h, Nat.le_refl _, by unfold maxLen; omega, by simp [nv, hL], by simp [nv, List.take_of_length_le, hL]⟩⟩
/-- A made object, and the dice. -/
def ObThrown (C b : Nat) (w : World) (e : Ending) (w' : World) : Prop := ∃ o, e = .returned (.agg (oc o)) ∧ OwnOb w' (w.heap.size + 1) o ∧ Dice w' C b ∧ Bel w.heap.size b w w'
end Go.Proofs.Ytddbohnappogkaa
