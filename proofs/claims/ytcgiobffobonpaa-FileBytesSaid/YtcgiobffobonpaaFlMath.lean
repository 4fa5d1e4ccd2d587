/- Layer 8: files as lists of bytes; which objects are files and descriptions. Plain mathematics. -/
import Derived.Test.YtcgiobffobonpaaObMem
namespace Go.Proofs.Ytcgiobffobonpaa
open Go.RowKit

/-- An object without its data. -/
def Ob.dataless (o : Ob) : Ob := { o with data := ⟨none, 0, 0⟩ }
/-- A file. -/
def Ob.File (o : Ob) : Prop := o.kind = 3 ∧ o.id ≠ 0 ∧ o.data.n ≤ 4096 ∧ o.dataless.Clear
/-- A description without what it says. -/
def Ob.undesc (o : Ob) : Ob := { o with refs := 0, offset := 0, target := 0 }
/-- A description. -/
def Ob.Desc (o : Ob) : Prop := o.kind = 4 ∧ o.id ≠ 0 ∧ o.target ≠ 0 ∧ 1 ≤ o.refs ∧ 0 ≤ o.offset ∧ o.offset ≤ 1073741824 ∧ o.undesc.Clear
instance (o : Ob) : Decidable o.File := by unfold Ob.File; infer_instance
instance (o : Ob) : Decidable o.Desc := by unfold Ob.Desc; infer_instance
theorem oc_dataless (o : Ob) : (oc o).setIfInBounds 24 (.slice none 0 0) = oc o.dataless := rfl
theorem oc_data (o : Ob) (A : Option Addr) (n c : Nat) : (oc o).setIfInBounds 24 (.slice A n c) = oc { o with data := ⟨A, n, c⟩ } := rfl
theorem oc_undesc (o : Ob) : (((oc o).setIfInBounds 2 (.int .i64 0)).setIfInBounds 25 (.int .i64 0)).setIfInBounds 26 (.int .u64 0) = oc o.undesc := rfl
theorem zero_clear : Ob.zero.Clear := by decide
theorem file_file {id : Int} {s : Sl} (h : id ≠ 0) (hn : s.n ≤ 4096) : (Ob.file id s).File := ⟨rfl, h, hn, zero_clear⟩
/-- The error at an offset: 1: no file; 2: negative. -/
def Ob.fcheck (o : Ob) (n : Int) : Int := if o.File then (if 0 ≤ n then 0 else 2) else 1
theorem Ob.fcheck_0 {o : Ob} {n : Int} (h : o.fcheck n = 0) : o.File ∧ 0 ≤ n := by
  unfold Ob.fcheck at h
  split at h
  · split at h
    · exact ⟨by assumption, by assumption⟩
    · omega
  · omega
theorem Ob.fcheck_ok {o : Ob} {n : Int} (h : o.File) (h0 : 0 ≤ n) : o.fcheck n = 0 := by unfold Ob.fcheck; rw [if_pos h, if_pos h0]
/-- What is read. -/
def Ob.fthere (o : Ob) (D : List UInt8) (n : Int) : Bool := decide (o.fcheck n = 0 ∧ n < D.length)
def Ob.fbyte (o : Ob) (D : List UInt8) (n : Int) : Int := if o.fcheck n = 0 ∧ n < D.length then ((D.getD n.toNat 0).toNat : Int) else 0
theorem Ob.fread_no {o : Ob} {D : List UInt8} {n : Int} (h : ¬ (o.fcheck n = 0 ∧ n < D.length)) : o.fthere D n = false ∧ o.fbyte D n = 0 := ⟨decide_eq_false h, if_neg h⟩
theorem Ob.fread_ok {o : Ob} {D : List UInt8} {k : Nat} (h : o.fcheck (k : Int) = 0) (hk : k < D.length) : o.fthere D (k : Int) = true ∧ o.fbyte D (k : Int) = (D[k].toNat : Int) := by
  have h2 : o.fcheck (k : Int) = 0 ∧ (k : Int) < D.length := ⟨h, by omega⟩
  refine ⟨decide_eq_true h2, ?_⟩
  unfold Ob.fbyte
  rw [if_pos h2, Int.toNat_natCast, List.getD_eq_getElem?_getD, List.getElem?_eq_getElem hk]
  rfl
/-- The error of writing. -/
def Ob.fwrite (o : Ob) (n : Int) : Int := if o.fcheck n = 0 then (if n < 4096 then 0 else 9) else o.fcheck n
theorem Ob.fwrite_0 {o : Ob} {n : Int} (h : o.fwrite n = 0) : o.fcheck n = 0 ∧ n < 4096 := by
  unfold Ob.fwrite at h
  split at h
  · split at h
    · exact ⟨by assumption, by assumption⟩
    · omega
  · contradiction
theorem Ob.fwrite_ok {o : Ob} {n : Int} (h : o.fcheck n = 0) (h0 : n < 4096) : o.fwrite n = 0 := by unfold Ob.fwrite; rw [if_pos h, if_pos h0]
namespace Fl
/-- Bytes with 0 put behind them, so that there is one at n. -/
def upto (D : List UInt8) (n : Nat) : List UInt8 := D ++ List.replicate (n + 1 - D.length) 0
/-- .. and another one at n. -/
def put (D : List UInt8) (n : Nat) (c : UInt8) : List UInt8 := (upto D n).set n c
theorem upto_length (D : List UInt8) (n : Nat) : (upto D n).length = max D.length (n + 1) := by simp [upto]; omega
theorem put_length (D : List UInt8) (n : Nat) (c : UInt8) : (put D n c).length = max D.length (n + 1) := by rw [put, List.length_set, upto_length]
theorem put_same (D : List UInt8) (n : Nat) (c : UInt8) : (put D n c)[n]? = some c := by
  rw [put, List.getElem?_set_self]
  rw [upto_length]; omega
theorem put_other {D : List UInt8} {n k : Nat} (c : UInt8) (h : k ≠ n) : (put D n c)[k]? = if k < D.length then D[k]? else if k < n then some 0 else none := by
  rw [put, List.getElem?_set_ne (Ne.symm h), upto]
  split
  · rename_i hk
    rw [List.getElem?_append_left hk]
  · rename_i hk
    rw [List.getElem?_append_right (by omega), List.getElem?_replicate]
    split <;> split <;> first | rfl | omega
end Fl
/-- A byte, whether there is one, and an error. -/
def ReadPost (v : Int) (b : Bool) (r : Int) (w : World) (e : Ending) (w' : World) : Prop := e = .returned (.tuple #[.int .u8 v, .bool b, .int .i64 r]) ∧ Below w.heap.size w w'
/-- A file and no error. -/
def FileOk (id : Int) (D : List UInt8) (w : World) (e : Ending) (w' : World) : Prop := ∃ A n c, e = .returned (.tuple #[.agg (oc (Ob.file id ⟨A, n, c⟩)), .int .i64 0]) ∧ w'.ownsRow w.heap.size 5 1 (.slice A n c) n (bv D) ∧ Below w.heap.size w w'
/-- The object with other data, and no error. -/
def DataOk (o : Ob) (D : List UInt8) (w : World) (e : Ending) (w' : World) : Prop := ∃ A n c, e = .returned (.tuple #[.agg (oc { o with data := ⟨A, n, c⟩ }), .int .i64 0]) ∧ Bytes w' w'.heap.size A n D ∧ Below w.heap.size w w'
end Go.Proofs.Ytcgiobffobonpaa
