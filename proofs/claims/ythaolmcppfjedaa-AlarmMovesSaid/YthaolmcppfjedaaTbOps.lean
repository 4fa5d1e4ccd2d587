/- Layer 10, package table: Valid, Get, Put, Clear: contracts. -/
import Derived.Test.YthaolmcppfjedaaTbSlot
import Derived.Test.YthaolmcppfjedaaCloneB
import Derived.Test.YthaolmcppfjedaaObMem
namespace Go.Proofs.Ythaolmcppfjedaa
open Go.RowKit

/-- The slots again, in a row of the call's own. -/
def CloneT (n : Nat) (l : List Tb.Slot) (w : World) (e : Ending) (w' : World) : Prop := ∃ A c, e = .returned (.slice A n c) ∧ w'.ownsRow w.heap.size 63 4 (.slice A n c) n (stv l) ∧ Below w.heap.size w w'
set_option maxRecDepth 100000 in
set_option maxHeartbeats 4000000 in
theorem cloneT_any (l : List Tb.Slot) (A : Option Addr) (n cap B : Nat) (W : World) (h : Slots W B A n l) (hB : B ≤ W.heap.size) (hn : n ≤ 1000000) : Calls Try.prog 24 #[.slice A n cap] W (CloneT n l W) := by
  have hl := h.len
  have HR := hide (h.mono hB)
  have hn' : (n : Int) ≤ 1000000 := by omega
  clear h
  have heq : ∀ w : World, (binOp .eql 32 (.slice A n cap) (.slice none 0 0)).run Try.prog w = .ok (.bool A.isNone) w := fun w => Lib.run_eql_slice_nil w _ _ _ _ _ _ _ Try.underlying32
  cases A with
  | none =>
    have h0 : n = 0 := HR.out.2.2.1 rfl
    subst h0
    have hl0 := List.eq_nil_of_length_eq_zero hl
    subst hl0
    go_enter Try.func24, Try.ntmps24
    go_wp2_with fail
    go_ret
    exact ⟨none, 0, rfl, own_none, Below.refl _ _⟩
  | some a =>
    go_enter Try.func24, Try.ntmps24
    go_wp2_with (first | (at_builtin; refine wpList_append_rd rfl _ _ _ rfl slotTy (base := W.heap.size) rfl (own_empty W 63 4 (Nat.le_refl _)) (S := some a) (m := n) (d := cap) (news := stv l) rfl (HR.out.2.alloc (Nat.le_refl _) _) (stv_one _) (by unfold maxLen; omega) (by omega) (by simp) ?_; intro A3 c3 w3 hown3 hg3 _; have HB3 := hide (below_own ((Below.refl _ _).alloc (Nat.le_refl _) _) (own_empty W 63 4 (Nat.le_refl _)) hg3 (by simp)); rw [Nat.zero_add, List.nil_append] at hown3; have HO3 := hide hown3; clear hown3 hg3) | fail)
    go_ret
    exact ⟨A3, c3, rfl, HO3.out, HB3.out⟩

def FreePost (l : List Tb.Slot) (w : World) (e : Ending) (w' : World) : Prop := e = .returned (.int .i64 (if Tb.free l < l.length then (Tb.free l : Int) else -1)) ∧ Below w.heap.size w w'
theorem FreePost.of {l : List Tb.Slot} {w w' : World} {e : Ending} {r : Int} (h : (if Tb.free l < l.length then (Tb.free l : Int) else -1) = r) (he : e = .returned (.int .i64 r)) (hb : Below w.heap.size w w') : FreePost l w e w' := by subst h; exact ⟨he, hb⟩
theorem IntPost.of {r a : Int} {w w' : World} {e : Ending} (h : r = a) (he : e = .returned (.int .i64 a)) (hb : Below w.heap.size w w') : IntPost r w e w' := by subst h; exact ⟨he, hb⟩
/-- A slot, an error. -/
def GetPost10 (r : Tb.Slot × Int) (w : World) (e : Ending) (w' : World) : Prop := e = .returned (.tuple #[sta r.1, .int .i64 r.2]) ∧ Below w.heap.size w w'
theorem GetPost10.of {r : Tb.Slot × Int} {w w' : World} {e : Ending} {s : Tb.Slot} {c : Int} (hr : r = (s, c)) (he : e = .returned (.tuple #[sta s, .int .i64 c])) (hb : Below w.heap.size w w') : GetPost10 r w e w' := by subst hr; exact ⟨he, hb⟩
theorem GetPost10.got {r : Tb.Slot × Int} {w w' : World} {e : Ending} {s : Tb.Slot} {c : Int} (h : GetPost10 r w e w') (hr : r = (s, c)) : e = .returned (.tuple #[sta s, .int .i64 c]) ∧ Below w.heap.size w w' := by subst hr; exact h
theorem Tb.get_at {l : List Tb.Slot} {k : Nat} (hk : k < l.length) (hz : l[k].kind ≠ 0) : Tb.get l (k : Int) = (l[k], 0) := by
  unfold Tb.get
  have e : l.getD ((k : Int)).toNat Tb.Slot.zero = l[k] := by rw [Int.toNat_natCast, List.getD_eq_getElem?_getD, List.getElem?_eq_getElem hk]; rfl
  rw [e, if_pos ⟨by omega, by omega, hz⟩]
theorem Tb.get_none {l : List Tb.Slot} {k : Nat} (hk : k < l.length) (hz : l[k].kind = 0) : Tb.get l (k : Int) = (Tb.Slot.zero, 6) := by
  unfold Tb.get
  have e : l.getD ((k : Int)).toNat Tb.Slot.zero = l[k] := by rw [Int.toNat_natCast, List.getD_eq_getElem?_getD, List.getElem?_eq_getElem hk]; rfl
  rw [e, if_neg (by rintro ⟨_, _, h⟩; exact h hz)]
theorem Tb.get_out {l : List Tb.Slot} {i : Int} (h : ¬ (0 ≤ i ∧ i < (l.length : Int))) : Tb.get l i = (Tb.Slot.zero, 6) := by
  unfold Tb.get
  rw [if_neg (by rintro ⟨h1, h2, _⟩; exact h ⟨h1, h2⟩)]
theorem ret_slot {w : World} {fn : Func} {p u : Tmp} (hr : fn.results = #[.cell p 63, .tmp u]) (tmps : Array Value) {g : Nat} (hp : tmps.getD p undef = .pointer (some ⟨g, 0, none⟩)) {y : Tb.Slot} {t : TypeId} (h : Obl w g t #[.int .i64 y.kind, .int .u64 y.desc, .int .u64 y.target, .int .i64 y.fin]) :
    (results fn tmps).run Try.prog w = .ok (.tuple #[sta y, tmps.getD u undef]) w := results_cell_2 hr tmps hp h Try.underlying63 rfl slotSize
theorem start_slot0 (w : World) : ∃ w1, w.alloc (.cells #[.int .i64 0, .int .u64 0, .int .u64 0, .int .i64 0] 63) = w1 ∧ Obl w1 w.heap.size 63 #[.int .i64 0, .int .u64 0, .int .u64 0, .int .i64 0] ∧ Below w.heap.size w w1 ∧ w1.heap.size = w.heap.size + 1 :=
  ⟨_, rfl, Obl.make w _ _, (Below.refl _ _).alloc (Nat.le_refl _) _, by simp⟩
theorem built_slot0 : Try.prog.built 63 [] = some #[.int .i64 0, .int .u64 0, .int .u64 0, .int .i64 0] := by kernel_rfl
end Go.Proofs.Ythaolmcppfjedaa
