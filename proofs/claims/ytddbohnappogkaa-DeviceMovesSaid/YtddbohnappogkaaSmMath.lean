/- Layer 13: which objects are semaphores; what raising and lowering answer. Plain mathematics. -/
import Derived.Test.YtddbohnappogkaaObMem
namespace Go.Proofs.Ytddbohnappogkaa
open Go.RowKit

/-- No number that a semaphore does not use. -/
def Ob.SmNumbers (o : Ob) : Prop := o.refs = 0 ∧ o.offset = 0 ∧ o.target = 0 ∧ o.readers = 0 ∧ o.writers = 0 ∧ [o.e0, o.e1] = [0, 0]
/-- Nothing that a semaphore does not use. -/
def Ob.SmOthers (o : Ob) : Prop := o.SmNumbers ∧ o.Listless ∧ o.NoProc
/-- A count that a semaphore can have. -/
def SmCount (n : Int) : Prop := 0 ≤ n ∧ n ≤ 1073741824
/-- A semaphore. -/
def Ob.Sem (o : Ob) : Prop := o.kind = 8 ∧ o.id ≠ 0 ∧ SmCount o.count ∧ o.SmOthers
/-- Without what a semaphore uses. -/
def Ob.unsem (o : Ob) : Ob := { o with count := 0 }
instance (o : Ob) : Decidable o.SmNumbers := by unfold Ob.SmNumbers; infer_instance
instance (o : Ob) : Decidable o.SmOthers := by unfold Ob.SmOthers; infer_instance
instance (n : Int) : Decidable (SmCount n) := by unfold SmCount; infer_instance
instance (o : Ob) : Decidable o.Sem := by unfold Ob.Sem; infer_instance
theorem unsem_clear (o : Ob) : o.unsem.Clear ↔ o.SmOthers := by
  constructor
  · rintro ⟨hw, ⟨h1, h2, h3, h4, h5, h6, _⟩, hc, hp⟩
    exact ⟨⟨h1, h2, h3, h4, h5, h6⟩, ⟨hw, hc⟩, hp⟩
  · rintro ⟨⟨h1, h2, h3, h4, h5, h6⟩, ⟨hw, hc⟩, hp⟩
    exact ⟨hw, ⟨h1, h2, h3, h4, h5, h6, rfl⟩, hc, hp⟩
/-- The semaphore id with this count. -/
def Ob.sem (id n : Int) : Ob := { Ob.zero with id := id, kind := 8, count := n }
theorem sem_others (id n : Int) : (Ob.sem id n).SmOthers := by
  have h : Ob.zero.SmOthers := by decide
  exact h
theorem sem_sem {id n : Int} (hid : id ≠ 0) (hn : 0 ≤ n ∧ n ≤ 1073741824) : (Ob.sem id n).Sem := ⟨rfl, hid, hn, sem_others _ _⟩
/-- The error of a new one: 1: no identifier; 2: no count. -/
def newErr (id n : Int) : Int := if id = 0 then 1 else if SmCount n then 0 else 2
/-- The error of lowering: 1: no semaphore; 12: at 0. Of raising: 3: at the limit. -/
def Ob.downErr (o : Ob) : Int := if o.Sem then (if o.count = 0 then 12 else 0) else 1
def Ob.upErr (o : Ob) : Int := if o.Sem then (if o.count = 1073741824 then 3 else 0) else 1
theorem sem_downErr {id n : Int} (hid : id ≠ 0) (hn : 0 ≤ n ∧ n ≤ 1073741824) : (Ob.sem id n).downErr = if n = 0 then 12 else 0 := by unfold Ob.downErr; rw [if_pos (sem_sem hid hn)]; rfl
theorem sem_upErr {id n : Int} (hid : id ≠ 0) (hn : 0 ≤ n ∧ n ≤ 1073741824) : (Ob.sem id n).upErr = if n = 1073741824 then 3 else 0 := by unfold Ob.upErr; rw [if_pos (sem_sem hid hn)]; rfl
/-- What a change answers: the object, or nothing and the error. -/
def GivesErr (y : Ob) (r : Int) (w : World) (e : Ending) (w' : World) : Prop := e = .returned (.tuple #[.agg (oc y), .int .i64 r]) ∧ Below w.heap.size w w'
/-- .. of a call that answers y if there is no error. -/
def okOb (r : Int) (y : Ob) : Ob := if r = 0 then y else Ob.zero
/-- An object that has nothing but identifier, kind and count. -/
structure SmLike (y : Ob) (id k n : Int) : Prop where
  num : y.id = id ∧ y.kind = k ∧ y.count = n
  others : y.SmOthers
theorem like_sem (id n : Int) : SmLike (Ob.sem id n) id 8 n := ⟨⟨rfl, rfl, rfl⟩, sem_others _ _⟩
theorem like_none : SmLike Ob.zero 0 0 0 := ⟨⟨rfl, rfl, rfl⟩, by decide⟩
theorem like_count {o : Ob} (h : o.Sem) (n : Int) : SmLike { o with count := n } o.id 8 n := ⟨⟨rfl, h.1, rfl⟩, h.2.2.2⟩
end Go.Proofs.Ytddbohnappogkaa
