/- Objects and what all their lists hold. -/
import Derived.Test.YtdglcpepgodcpaaDoorTbPut
import Derived.Test.YtdglcpepgodcpaaDoorSpMem
import Derived.Test.YtdglcpepgodcpaaDoorIns
import Derived.Test.YtdglcpepgodcpaaDoorNmEntry
namespace Go.Proofs.YtdglcpepgodcpaaDoor
open Go.RowKit

/-- What an object's lists hold. -/
structure Cont where
  children : List Int
  code : List Cd.Ins
  strs : List (List UInt8)
  pages : List Sp.Ref
  table : List Tb.Slot
  words : List Int
  data : List UInt8
  backlog : List Int
  q0 : List UInt8
  q1 : List UInt8
  names : List Nx.Ent
def Cont.none : Cont := ⟨[], [], [], [], [], [], [], [], [], [], []⟩
def Cont.Short (X : Cont) : Prop := X.children.length ≤ 100000 ∧ X.code.length ≤ 100000 ∧ X.strs.length ≤ 100000 ∧ X.pages.length ≤ 100000 ∧ X.table.length ≤ 100000 ∧ X.words.length ≤ 100000 ∧ X.data.length ≤ 100000 ∧ X.backlog.length ≤ 100000 ∧ X.q0.length ≤ 100000 ∧ X.q1.length ≤ 100000 ∧ X.names.length ≤ 100000 ∧ ∀ x ∈ X.names, x.ids.length ≤ 100000
theorem Cont.none_short : Cont.none.Short := by simp [Cont.Short, Cont.none]
/-- The object's lists read so. -/
structure Holds (w : World) (B : Nat) (o : Ob) (X : Cont) : Prop where
  children : Nums .u64 w B o.children.A o.children.n X.children
  code : Inss w B o.code.A o.code.n X.code
  strs : Strs w B o.strs.A o.strs.n X.strs
  pages : Refs w B o.pages.A o.pages.n X.pages
  table : Slots w B o.table.A o.table.n X.table
  words : Nums .i64 w B o.words.A o.words.n X.words
  data : Bytes w B o.data.A o.data.n X.data
  backlog : Nums .u64 w B o.backlog.A o.backlog.n X.backlog
  q0 : Bytes w B o.q0.A o.q0.n X.q0
  q1 : Bytes w B o.q1.A o.q1.n X.q1
  names : ∃ l, Ents w B o.names.A o.names.n l X.names
section
variable {w w' : World} {B B' : Nat} {o : Ob} {X : Cont}
theorem Holds.mono (h : Holds w B o X) (hB : B ≤ B') : Holds w B' o X :=
  ⟨h.children.mono hB, h.code.mono hB, h.strs.mono hB, h.pages.mono hB, h.table.mono hB, h.words.mono hB, h.data.mono hB, h.backlog.mono hB, h.q0.mono hB, h.q1.mono hB, h.names.imp fun _ k => k.mono hB⟩
theorem Holds.below (h : Holds w B o X) (hb : Below B w w') : Holds w' B o X :=
  ⟨h.children.below hb, h.code.below hb, h.strs.below hb, h.pages.below hb, h.table.below hb, h.words.below hb, h.data.below hb, h.backlog.below hb, h.q0.below hb, h.q1.below hb, h.names.imp fun _ k => k.below hb⟩
theorem Holds.later (h : Holds w w.heap.size o X) (hb : Below w.heap.size w w') : Holds w' w'.heap.size o X := (h.below hb).mono hb.size
end
/-- An object without lists. -/
structure Ob.Bald (o : Ob) : Prop where
  children : o.children.n = 0
  code : o.code.n = 0
  strs : o.strs.n = 0
  pages : o.pages.n = 0
  table : o.table.n = 0
  words : o.words.n = 0
  data : o.data.n = 0
  backlog : o.backlog.n = 0
  q0 : o.q0.n = 0
  q1 : o.q1.n = 0
  names : o.names.n = 0
theorem Holds.bald {o : Ob} (h : o.Bald) (w : World) (B : Nat) : Holds w B o Cont.none := by
  constructor
  · rw [h.children]; exact Nums.nil
  · rw [h.code]; exact Inss.nil
  · rw [h.strs]; exact Strs.nil
  · rw [h.pages]; exact Refs.nil
  · rw [h.table]; exact Slots.nil
  · rw [h.words]; exact Nums.nil
  · rw [h.data]; exact Bytes.nil
  · rw [h.backlog]; exact Nums.nil
  · rw [h.q0]; exact Bytes.nil
  · rw [h.q1]; exact Bytes.nil
  · rw [h.names]; exact ⟨[], Ents.nil⟩
theorem Holds.is_bald {w : World} {B : Nat} {o : Ob} (h : Holds w B o Cont.none) : o.Bald := by
  constructor
  · exact h.children.len.symm
  · exact h.code.len.symm
  · exact h.strs.len.symm
  · exact h.pages.len.symm
  · exact h.table.len.symm
  · exact h.words.len.symm
  · exact h.data.len.symm
  · exact h.backlog.len.symm
  · exact h.q0.len.symm
  · exact h.q1.len.symm
  · obtain ⟨l, hl⟩ := h.names; exact hl.len.symm
/-- Other lists. -/
def Ob.relist (o c : Ob) : Ob := { o with children := c.children, code := c.code, strs := c.strs, pages := c.pages, table := c.table, words := c.words, data := c.data, backlog := c.backlog, q0 := c.q0, q1 := c.q1, names := c.names }
theorem Holds.relist {w : World} {B : Nat} {o c : Ob} {X : Cont} (h : Holds w B c X) : Holds w B (o.relist c) X := ⟨h.children, h.code, h.strs, h.pages, h.table, h.words, h.data, h.backlog, h.q0, h.q1, h.names⟩
/-- The object's lists read so, as long as the blocks from lo on stay. -/
def HoldsIn (w : World) (lo : Nat) (c : Ob) (X : Cont) : Prop := ∀ w'' : World, w.heap.size ≤ w''.heap.size → (∀ k, lo ≤ k → k < w.heap.size → w''.heap[k]? = w.heap[k]?) → Holds w'' w''.heap.size c X
theorem HoldsIn.holds {w : World} {lo : Nat} {c : Ob} {X : Cont} (h : HoldsIn w lo c X) : Holds w w.heap.size c X := h w (Nat.le_refl _) (fun _ _ _ => rfl)
theorem HoldsIn.keep {w w' : World} {lo : Nat} {c : Ob} {X : Cont} (h : HoldsIn w lo c X) (hs : w.heap.size ≤ w'.heap.size) (hk : ∀ k, lo ≤ k → k < w.heap.size → w'.heap[k]? = w.heap[k]?) : HoldsIn w' lo c X :=
  fun w'' h1 h2 => h w'' (Nat.le_trans hs h1) fun k k1 k2 => (h2 k k1 (by omega)).trans (hk k k1 k2)
/-- The object again, with lists of its own. -/
def CopPost (o : Ob) (X : Cont) (w : World) (e : Ending) (w' : World) : Prop := ∃ c, e = .returned (.agg (oc (o.relist c))) ∧ HoldsIn w' w.heap.size c X ∧ Below w.heap.size w w'
end Go.Proofs.YtdglcpepgodcpaaDoor
