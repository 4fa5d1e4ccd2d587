/- Layer 10: which slots are valid, and their holders: contracts, of package table and of the reference. (Written by tools/mktbslot.py.) -/
import Derived.Test.YthaolmcppfjedaaTbMath
import Derived.Test.YthaolmcppfjedaaOb
import Derived.Deep.QuietTactic
namespace Go.Proofs.Ythaolmcppfjedaa
open Go.RowKit

theorem ret_bool2 {b c : Bool} (h : b = c) : Ending.returned (.bool b) = .returned (.bool c) := by rw [h]
def Tb.Slot.End (s : Tb.Slot) : Prop := s.fin = 0 ∨ s.fin = 1 ∧ s.kind = 4
instance (s : Tb.Slot) : Decidable s.End := by unfold Tb.Slot.End; infer_instance
theorem Tb.Slot.ok_zero {s : Tb.Slot} (h : s.kind = 0) : decide s.Ok = decide (s = Tb.Slot.zero) := by unfold Tb.Slot.Ok; simp [h]
theorem Tb.Slot.ok_of {s : Tb.Slot} (h : s.kind ≠ 0) : s.Ok ↔ 0 < s.kind ∧ s.kind ≤ 8 ∧ s.target ≠ 0 ∧ (s.desc ≠ 0 ↔ s.kind = 1) ∧ s.End := by unfold Tb.Slot.Ok Tb.Slot.End; rw [if_neg h]
theorem Tb.Slot.ok_end {s : Tb.Slot} (h : s.kind ≠ 0) (h1 : 0 < s.kind) (h2 : s.kind ≤ 8) (h3 : s.target ≠ 0) (h4 : s.desc ≠ 0 ↔ s.kind = 1) : decide s.Ok = decide s.End := by
  by_cases he : s.End
  · rw [decide_eq_true he, decide_eq_true ((ok_of h).2 ⟨h1, h2, h3, h4, he⟩)]
  · rw [decide_eq_false he, decide_eq_false (fun x => he ((ok_of h).1 x).2.2.2.2)]
theorem Tb.Slot.not_ok {s : Tb.Slot} (h : s.kind ≠ 0) (hx : ¬ (0 < s.kind ∧ s.kind ≤ 8 ∧ s.target ≠ 0 ∧ (s.desc ≠ 0 ↔ s.kind = 1))) : decide s.Ok = false := decide_eq_false (fun x => hx (by have := (ok_of h).1 x; exact ⟨this.1, this.2.1, this.2.2.1, this.2.2.2.1⟩))
/-- A number. -/
def U64Post (r : Int) (w : World) (e : Ending) (w' : World) : Prop := e = .returned (.int .u64 r) ∧ Below w.heap.size w w'
def HoldPost (r : Int × Int) (w : World) (e : Ending) (w' : World) : Prop := e = .returned (.tuple #[.int .u64 r.1, .int .i64 r.2]) ∧ Below w.heap.size w w'
theorem HoldPost.of {r : Int × Int} {w w' : World} {e : Ending} {a b : Int} (hr : r = (a, b)) (he : e = .returned (.tuple #[.int .u64 a, .int .i64 b])) (hb : Below w.heap.size w w') : HoldPost r w e w' := by subst hr; exact ⟨he, hb⟩
theorem U64Post.of {r a : Int} {w w' : World} {e : Ending} (hr : r = a) (he : e = .returned (.int .u64 a)) (hb : Below w.heap.size w w') : U64Post r w e w' := by subst hr; exact ⟨he, hb⟩
end Go.Proofs.Ythaolmcppfjedaa
