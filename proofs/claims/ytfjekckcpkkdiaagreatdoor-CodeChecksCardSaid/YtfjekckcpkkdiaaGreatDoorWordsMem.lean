/- Layer 2, words for memory: a block that is known whole; rows of strings; the reader of a line. -/
import Derived.Test.YtfjekckcpkkdiaaGreatDoorProg
import Derived.Test.YtfjekckcpkkdiaaGreatDoorLib
import Derived.Test.YtfjekckcpkkdiaaGreatDoorWordsMath
import Derived.Test.YtfjekckcpkkdiaaGreatDoorStr
import Derived.KernelRfl
import Derived.OneCell
import Derived.Laws.Rows
namespace Go.Proofs.YtfjekckcpkkdiaaGreatDoor
open Go.RowKit

/-- The reader at block b. -/
def Rdr (w : World) (base b st : Nat) (A : Option Addr) (n c : Nat) (A2 : Option Addr) (n2 c2 : Nat) (wd : List UInt8) (ws : List (List UInt8)) : Prop :=
  Obl w b 116 #[.int .i64 (st : Int), .slice A n c, .slice A2 n2 c2] ∧ base ≤ b ∧ w.ownsRow base 5 1 (.slice A n c) n (bv wd) ∧ w.ownsRow base 9 1 (.slice A2 n2 c2) n2 (sv ws)
def RdrE (w : World) (base b st : Nat) (wd : List UInt8) (ws : List (List UInt8)) : Prop := ∃ A n c A2 n2 c2, Rdr w base b st A n c A2 n2 c2 wd ws

section
variable {w w' : World} {base b st n c n2 c2 : Nat} {A A2 : Option Addr} {wd : List UInt8} {ws : List (List UInt8)}
theorem Rdr.ne1 (h : Rdr w base b st A n c A2 n2 c2 wd ws) : (Value.slice A n c).ownBlock ≠ some b := by
  rw [ownBlock_slice]; exact fun e => Obl.apart h.1 h.2.2.1 (by decide) e.symm
theorem Rdr.ne2 (h : Rdr w base b st A n c A2 n2 c2 wd ws) : (Value.slice A2 n2 c2).ownBlock ≠ some b := by
  rw [ownBlock_slice]; exact fun e => Obl.apart h.1 h.2.2.2 (by decide) e.symm
/-- The state is set. -/
theorem Rdr.setState (h : Rdr w base b st A n c A2 n2 c2 wd ws) (st' : Nat) : Rdr (w.setCell ⟨b, 0, none⟩ (.int .i64 (st' : Int))) base b st' A n c A2 n2 c2 wd ws :=
  ⟨h.1.put 0 _, h.2.1, own_put_other h.2.2.1 h.ne1 _, own_put_other h.2.2.2 h.ne2 _⟩
/-- The word is another row of its own. -/
theorem Rdr.setWord (h : Rdr w base b st A n c A2 n2 c2 wd ws) (hg : w.grownBy w' (blk A)) {A' : Option Addr} {n' c' : Nat} {wd' : List UInt8} (hown : w'.ownsRow base 5 1 (.slice A' n' c') n' (bv wd')) :
    Rdr (w'.setCell ⟨b, 1, none⟩ (.slice A' n' c')) base b st A' n' c' A2 n2 c2 wd' ws := by
  have hO : Obl w' b 116 #[.int .i64 (st : Int), .slice A n c, .slice A2 n2 c2] := h.1.grown hg (h.1.apart h.2.2.1 (by decide))
  have h2 : w'.ownsRow base 9 1 (.slice A2 n2 c2) n2 (sv ws) := h.2.2.2.kept hg (own_apart h.2.2.2 h.2.2.1 (by decide))
  have h' : Rdr w' base b st A n c A2 n2 c2 wd ws → True := fun _ => trivial
  refine ⟨hO.put 1 _, h.2.1, own_put_other hown ?_ _, own_put_other h2 ?_ _⟩
  · rw [ownBlock_slice]; exact fun e => hO.apart hown (by decide) e.symm
  · rw [ownBlock_slice]; exact fun e => hO.apart h2 (by decide) e.symm
/-- The words are another row of its own. -/
theorem Rdr.setWords (h : Rdr w base b st A n c A2 n2 c2 wd ws) (hg : w.grownBy w' (blk A2)) {A' : Option Addr} {n' c' : Nat} {ws' : List (List UInt8)} (hown : w'.ownsRow base 9 1 (.slice A' n' c') n' (sv ws')) :
    Rdr (w'.setCell ⟨b, 2, none⟩ (.slice A' n' c')) base b st A n c A' n' c' wd ws' := by
  have hO : Obl w' b 116 #[.int .i64 (st : Int), .slice A n c, .slice A2 n2 c2] := h.1.grown hg (h.1.apart h.2.2.2 (by decide))
  have h1 : w'.ownsRow base 5 1 (.slice A n c) n (bv wd) := h.2.2.1.kept hg (own_apart h.2.2.1 h.2.2.2 (by decide))
  refine ⟨hO.put 2 _, h.2.1, own_put_other h1 ?_ _, own_put_other hown ?_ _⟩
  · rw [ownBlock_slice]; exact fun e => hO.apart h1 (by decide) e.symm
  · rw [ownBlock_slice]; exact fun e => hO.apart hown (by decide) e.symm
theorem Rdr.alloc (h : Rdr w base b st A n c A2 n2 c2 wd ws) (o : Obj) : Rdr (w.alloc o) base b st A n c A2 n2 c2 wd ws := ⟨h.1.alloc o, h.2.1, h.2.2.1.alloc o, h.2.2.2.alloc o⟩
theorem Rdr.drew (h : Rdr w base b st A n c A2 n2 c2 wd ws) : Rdr w.drew base b st A n c A2 n2 c2 wd ws := h
theorem Rdr.base_le (h : Rdr w base b st A n c A2 n2 c2 wd ws) : base ≤ w.heap.size := Nat.le_of_lt (Nat.lt_of_le_of_lt h.2.1 h.1.lt)
end
end Go.Proofs.YtfjekckcpkkdiaaGreatDoor
