/- Layer 10, package table: Put, Clear: contracts. -/
import Derived.Test.YtdglcpepgodcpaaDoorTbOps
import Derived.Test.YtdglcpepgodcpaaDoorStr
namespace Go.Proofs.YtdglcpepgodcpaaDoor
open Go.RowKit

theorem below_cells {w w' : World} {B g : Nat} (h : Below B w w') (hg : B ≤ g) (o : Nat) (vs : List Value) : Below B w (w'.setCells g o vs) := by
  induction vs generalizing o w' with
  | nil => exact h
  | cons v r ih => exact ih (h.setCell (p := ⟨g, o, none⟩) hg v) (o + 1)
section
variable {w : World} {base n c g k : Nat} {e : TypeId} {l : List Tb.Slot}
/-- A slot of a row of the call's own is written. -/
theorem own_setSlot (h : w.ownsRow base e 4 (.slice (some ⟨g, 0, none⟩) n c) n (stv l)) (hk : k < l.length) (x : Tb.Slot) :
    (w.setCells g (k * 4) [.int .i64 x.kind, .int .u64 x.desc, .int .u64 x.target, .int .i64 x.fin]).ownsRow base e 4 (.slice (some ⟨g, 0, none⟩) n c) n (stv (l.set k x)) := by
  rw [← stv_set l k hk x]
  exact own_set (own_set (own_set (own_set h _) _) _) _
theorem own_there (h : w.ownsRow base e 4 (.slice (some ⟨g, 0, none⟩) n c) n (stv l)) (hk : k < l.length) : w.there g (k * 4) 4 := fun j hj => by
  refine ⟨?_, own_free h _⟩
  have h1 := stv_get hk hj
  have h2 : (stc l[k])[j]? = some ((stc l[k])[j]'(by simpa [stc] using hj)) := List.getElem?_eq_getElem _
  rw [own_cell h (h1.trans h2)]
  rfl
end
theorem store_slot_mid {ops : Array Oper} {rest : List Oper} {o : Oper} {a : Act} {w : World} {Q : Exit → Act → World → Prop} (hgd : o.guard = none) (x y : Operand) (ho : o.op = .store 86 x y) {g k : Nat} (hx : a.eval x = .pointer (some ⟨g, k * 4, none⟩)) {s : Tb.Slot} (hy : a.eval y = sta s) {base n c : Nat} {e : TypeId} {l : List Tb.Slot}
    (h : w.ownsRow base e 4 (.slice (some ⟨g, 0, none⟩) n c) n (stv l)) (hk : k < l.length)
    (hK : wpList Tryd.prog ops Q rest (a.put o.dst undef) (w.setCells g (k * 4) [.int .i64 s.kind, .int .u64 s.desc, .int .u64 s.target, .int .i64 s.fin])) : wpList Tryd.prog ops Q (o :: rest) a w :=
  wpList_store_mid hgd _ x y ho g (k * 4) _ hx hy (own_there h hk) slotSize (slot_one s) hK

/-- A table, its slot's place, an error. -/
def PutPost (r : List Tb.Slot × Int × Int) (w : World) (e : Ending) (w' : World) : Prop := ∃ A n c, e = .returned (.tuple #[.slice A n c, .int .i64 r.2.1, .int .i64 r.2.2]) ∧ Slots w' w'.heap.size A n r.1 ∧ (n ≤ c ∧ c ≤ 9223372036854775807) ∧ Below w.heap.size w w'
theorem PutPost.of {r : List Tb.Slot × Int × Int} {w w' : World} {e : Ending} {l : List Tb.Slot} {i c : Int} {A : Option Addr} {n d : Nat} (hr : r = (l, i, c)) (he : e = .returned (.tuple #[.slice A n d, .int .i64 i, .int .i64 c])) (h : Slots w' w'.heap.size A n l) (hn : n ≤ d ∧ d ≤ 9223372036854775807) (hb : Below w.heap.size w w') : PutPost r w e w' := by
  subst hr; exact ⟨A, n, d, he, h, hn, hb⟩
theorem PutPost.got {r : List Tb.Slot × Int × Int} {w w' : World} {e : Ending} {l : List Tb.Slot} {i c : Int} (h : PutPost r w e w') (hr : r = (l, i, c)) : ∃ A n d, e = .returned (.tuple #[.slice A n d, .int .i64 i, .int .i64 c]) ∧ Slots w' w'.heap.size A n l ∧ (n ≤ d ∧ d ≤ 9223372036854775807) ∧ Below w.heap.size w w' := by subst hr; exact h
theorem Tb.put_bad {l : List Tb.Slot} {s : Tb.Slot} (h : ¬ (Tb.Valid l ∧ s.Ok ∧ s.kind ≠ 0)) : Tb.put l s = ([], 0, 1) := by unfold Tb.put; rw [if_neg h]
theorem Tb.put_full {l : List Tb.Slot} {s : Tb.Slot} (h : Tb.Valid l ∧ s.Ok ∧ s.kind ≠ 0) (hf : ¬ Tb.free l < 16) : Tb.put l s = ([], 0, 3) := by unfold Tb.put; rw [if_pos h, if_neg hf]
theorem Tb.put_end {l : List Tb.Slot} {s : Tb.Slot} {n : Nat} (h : Tb.Valid l ∧ s.Ok ∧ s.kind ≠ 0) (hf : Tb.free l < 16) (hn : l.length = n) (h2 : Tb.free l = n) : Tb.put l s = (l ++ [s], (n : Int), 0) := by
  unfold Tb.put Tb.putL; rw [if_pos h, if_pos hf, if_neg (by omega), h2]
theorem Tb.put_in {l : List Tb.Slot} {s : Tb.Slot} {k : Nat} (h : Tb.Valid l ∧ s.Ok ∧ s.kind ≠ 0) (hf : Tb.free l < 16) (hk : Tb.free l = k) (h2 : k < l.length) : Tb.put l s = (l.set k s, (k : Int), 0) := by
  subst hk
  unfold Tb.put Tb.putL; rw [if_pos h, if_pos hf, if_pos h2]
theorem Row.slot (w : World) (x : Tb.Slot) (t : TypeId) : Row (w.alloc (.cells #[.int .i64 x.kind, .int .u64 x.desc, .int .u64 x.target, .int .i64 x.fin] t)) (w.heap.size + 1) 4 (some ⟨w.heap.size, 0, none⟩) 1 [.int .i64 x.kind, .int .u64 x.desc, .int .u64 x.target, .int .i64 x.fin] :=
  ⟨by simp, by simp, (Row.list w [.int .i64 x.kind, .int .u64 x.desc, .int .u64 x.target, .int .i64 x.fin] t).rd⟩
theorem Row.slot0 (w : World) (t : TypeId) : Row (w.alloc (.cells #[.int .i64 0, .int .u64 0, .int .u64 0, .int .i64 0] t)) (w.heap.size + 1) 4 (some ⟨w.heap.size, 0, none⟩) 1 [.int .i64 0, .int .u64 0, .int .u64 0, .int .i64 0] := Row.slot w Tb.Slot.zero t
end Go.Proofs.YtdglcpepgodcpaaDoor
