/- Layer 11: which objects are pipes; what reading and writing answer. Plain mathematics. -/
import Derived.Test.YtpibdfgcfhopaaaObMem
namespace Go.Proofs.Ytpibdfgcfhopaaa
open Go.RowKit

/-- No number that a pipe does not use. -/
def Ob.PpNumbers (o : Ob) : Prop := o.refs = 0 ∧ o.offset = 0 ∧ o.target = 0 ∧ [o.e0, o.e1] = [0, 0] ∧ o.count = 0
/-- No list that a pipe does not use. -/
def Ob.PpLists (o : Ob) : Prop := o.words.n = 0 ∧ o.backlog.n = 0 ∧ o.q0.n = 0 ∧ o.q1.n = 0 ∧ o.names.n = 0
def Ob.PpOthers (o : Ob) : Prop := o.PpNumbers ∧ o.PpLists ∧ o.NoProc
/-- How many readers and writers there are. -/
def Ob.PpEnds (o : Ob) : Prop := 0 ≤ o.readers ∧ o.readers ≤ 1073741824 ∧ 0 ≤ o.writers ∧ o.writers ≤ 1073741824 ∧ (o.readers ≠ 0 ∨ o.writers ≠ 0)
/-- A pipe. -/
def Ob.Pipe (o : Ob) : Prop := o.kind = 5 ∧ o.id ≠ 0 ∧ o.PpEnds ∧ o.data.n ≤ 64 ∧ o.PpOthers
/-- Without what a pipe uses. -/
def Ob.unpipe (o : Ob) : Ob := { o with readers := 0, writers := 0, data := ⟨none, 0, 0⟩ }
instance (o : Ob) : Decidable o.PpNumbers := by unfold Ob.PpNumbers; infer_instance
instance (o : Ob) : Decidable o.PpLists := by unfold Ob.PpLists; infer_instance
instance (o : Ob) : Decidable o.PpOthers := by unfold Ob.PpOthers; infer_instance
instance (o : Ob) : Decidable o.PpEnds := by unfold Ob.PpEnds; infer_instance
instance (o : Ob) : Decidable o.Pipe := by unfold Ob.Pipe; infer_instance
theorem oc_unpipe (o : Ob) : (((oc o).setIfInBounds 27 (.int .i64 0)).setIfInBounds 28 (.int .i64 0)).setIfInBounds 24 (.slice none 0 0) = oc o.unpipe := rfl
theorem unpipe_clear (o : Ob) : o.unpipe.Clear ↔ o.PpOthers := by
  constructor
  · rintro ⟨hw, ⟨h1, h2, h3, _, _, h6, h7⟩, ⟨_, c2, c3, c4, c5⟩, hp⟩
    exact ⟨⟨h1, h2, h3, h6, h7⟩, ⟨hw, c2, c4, c5, c3⟩, hp⟩
  · rintro ⟨⟨h1, h2, h3, h6, h7⟩, ⟨hw, c2, c4, c5, c3⟩, hp⟩
    exact ⟨hw, ⟨h1, h2, h3, rfl, rfl, h6, h7⟩, ⟨rfl, c2, c3, c4, c5⟩, hp⟩
/-- The pipe id with these readers, writers and bytes. -/
def Ob.pipe (id r u : Int) (s : Sl) : Ob := { Ob.zero with id := id, kind := 5, readers := r, writers := u, data := s }
theorem pipe_others (id r u : Int) (s : Sl) : (Ob.pipe id r u s).PpOthers := by
  have h : Ob.zero.PpOthers := by decide
  exact h
theorem pipe_pipe {id r u : Int} {s : Sl} (hid : id ≠ 0) (he : 0 ≤ r ∧ r ≤ 1073741824 ∧ 0 ≤ u ∧ u ≤ 1073741824 ∧ (r ≠ 0 ∨ u ≠ 0)) (hn : s.n ≤ 64) : (Ob.pipe id r u s).Pipe := ⟨rfl, hid, he, hn, pipe_others _ _ _ _⟩
/-- The error of reading: 1: no pipe; 12: empty, with writers. -/
def Ob.rdErr (o : Ob) : Int := if o.Pipe then (if o.data.n = 0 ∧ 0 < o.writers then 12 else 0) else 1
/-- The error of writing: 1: no pipe; 13: no readers; 12: full. -/
def Ob.wrErr (o : Ob) : Int := if o.Pipe then (if o.readers = 0 then 13 else if 64 ≤ o.data.n then 12 else 0) else 1
theorem Ob.rdErr_0 {o : Ob} (h : o.rdErr = 0) : o.Pipe ∧ (o.data.n ≠ 0 ∨ o.writers ≤ 0) := by
  unfold Ob.rdErr at h
  split at h
  · rename_i hp
    split at h
    · omega
    · exact ⟨hp, by omega⟩
  · omega
theorem Ob.wrErr_0 {o : Ob} (h : o.wrErr = 0) : o.Pipe ∧ o.readers ≠ 0 ∧ o.data.n < 64 := by
  unfold Ob.wrErr at h
  split at h
  · rename_i hp
    split at h
    · omega
    · split at h
      · omega
      · exact ⟨hp, by assumption, by omega⟩
  · omega
theorem Ob.rdErr_bad {o : Ob} (h : ¬ o.Pipe) : o.rdErr = 1 := if_neg h
theorem Ob.rdErr_wait {o : Ob} (h : o.Pipe) (h0 : o.data.n = 0) (h1 : 0 < o.writers) : o.rdErr = 12 := by unfold Ob.rdErr; rw [if_pos h, if_pos ⟨h0, h1⟩]
theorem Ob.rdErr_ok {o : Ob} (h : o.Pipe) (h0 : o.data.n ≠ 0 ∨ o.writers ≤ 0) : o.rdErr = 0 := by unfold Ob.rdErr; rw [if_pos h, if_neg (by omega)]
theorem Ob.wrErr_bad {o : Ob} (h : ¬ o.Pipe) : o.wrErr = 1 := if_neg h
theorem Ob.wrErr_closed {o : Ob} (h : o.Pipe) (h0 : o.readers = 0) : o.wrErr = 13 := by unfold Ob.wrErr; rw [if_pos h, if_pos h0]
theorem Ob.wrErr_full {o : Ob} (h : o.Pipe) (h0 : o.readers ≠ 0) (h1 : 64 ≤ o.data.n) : o.wrErr = 12 := by unfold Ob.wrErr; rw [if_pos h, if_neg h0, if_pos h1]
theorem Ob.wrErr_ok {o : Ob} (h : o.Pipe) (h0 : o.readers ≠ 0) (h1 : o.data.n < 64) : o.wrErr = 0 := by unfold Ob.wrErr; rw [if_pos h, if_neg h0, if_neg (by omega)]
namespace Pp
/-- What is read: the first byte, or the end. -/
def val (D : List UInt8) : Int := match D with
  | [] => -1
  | x :: _ => (x.toNat : Int)
theorem val_0 {D : List UInt8} (h : 0 < D.length) : val D = (D[0].toNat : Int) := by
  cases D with
  | nil => simp at h
  | cons x l => rfl
end Pp
/-- Nothing is read, and an error. -/
def ReadNo (r : Int) (w : World) (e : Ending) (w' : World) : Prop := e = .returned (.tuple #[.int .i64 0, .agg (oc Ob.zero), .int .i64 r]) ∧ Below w.heap.size w w'
/-- What is read, and the object with other bytes, of the call's own. -/
def ReadOk (o : Ob) (v : Int) (D : List UInt8) (w : World) (e : Ending) (w' : World) : Prop := ∃ A n c, e = .returned (.tuple #[.int .i64 v, .agg (oc { o with data := ⟨A, n, c⟩ }), .int .i64 0]) ∧ w'.ownsRow w.heap.size 5 1 (.slice A n c) n (bv D) ∧ Below w.heap.size w w'
/-- The object as it was. -/
def ReadEnd (o : Ob) (w : World) (e : Ending) (w' : World) : Prop := e = .returned (.tuple #[.int .i64 (-1), .agg (oc o), .int .i64 0]) ∧ Below w.heap.size w w'
/-- The object with other bytes, of the call's own, and no error. -/
def WriteOk (o : Ob) (D : List UInt8) (w : World) (e : Ending) (w' : World) : Prop := ∃ A n c, e = .returned (.tuple #[.agg (oc { o with data := ⟨A, n, c⟩ }), .int .i64 0]) ∧ w'.ownsRow w.heap.size 5 1 (.slice A n c) n (bv D) ∧ Below w.heap.size w w'
end Go.Proofs.Ytpibdfgcfhopaaa
