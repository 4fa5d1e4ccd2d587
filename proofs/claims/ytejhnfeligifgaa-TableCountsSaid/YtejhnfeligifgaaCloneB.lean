/- slices.Clone of bytes: a contract. -/
import Derived.Test.YtejhnfeligifgaaRowNil
import Derived.Test.YtejhnfeligifgaaStr
import Derived.Lib.Strings
namespace Go.Proofs.Ytejhnfeligifgaa
open Go.RowKit

/-- A copy of bytes. -/
def CloneB (n : Nat) (l : List UInt8) (w : World) (e : Ending) (w' : World) : Prop := ∃ A c, e = .returned (.slice A n c) ∧ w'.ownsRow w.heap.size 5 1 (.slice A n c) n (bv l) ∧ Below w.heap.size w w'
set_option maxRecDepth 100000 in
set_option maxHeartbeats 4000000 in
theorem cloneB_any (l : List UInt8) (A : Option Addr) (n cap : Nat) (W : World) (h : Bytes W W.heap.size A n l) (hn : n ≤ 1000000) : Calls Try.prog 76 #[.slice A n cap] W (CloneB n l W) := by
  have HR := hide h
  have hl := h.len
  clear h
  have heq : ∀ w : World, (binOp .eql 26 (.slice A n cap) (.slice none 0 0)).run Try.prog w = .ok (.bool A.isNone) w := fun w => Lib.run_eql_slice_nil w _ _ _ _ _ _ _ Try.underlying26
  cases A with
  | none =>
    have h0 : n = 0 := HR.out.row.2.1 rfl
    subst h0
    have hl0 := List.eq_nil_of_length_eq_zero hl
    subst hl0
    go_enter Try.func76, Try.ntmps76
    go_wp2_with fail
    go_ret
    exact ⟨none, 0, rfl, own_none, Below.refl _ _⟩
  | some a =>
    go_enter Try.func76, Try.ntmps76
    go_wp2_with (first | (at_builtin; refine wpList_append_rd rfl _ _ _ rfl byteTy (base := W.heap.size) rfl (own_empty W 5 1 (Nat.le_refl _)) (S := some a) (m := n) (d := cap) (news := bv l) rfl (HR.out.2.alloc (Nat.le_refl _) _) (bv_one _) (by unfold maxLen; omega) (by omega) (by simp) ?_; intro A3 c3 w3 hown3 hg3 _; have HB3 := hide (below_own ((Below.refl _ _).alloc (Nat.le_refl _) _) (own_empty W 5 1 (Nat.le_refl _)) hg3 (by simp)); rw [Nat.zero_add, List.nil_append] at hown3; have HO3 := hide hown3; clear hown3 hg3) | fail)
    go_ret
    exact ⟨A3, c3, rfl, HO3.out, HB3.out⟩
end Go.Proofs.Ytejhnfeligifgaa
