/- Objects and what all their lists hold. | slices.Clone at every type of which an object has lists: contracts, over rows of cells. (Written by tools/mktbcopied.py.) | Layer 10, package table: copied: a contract. (Written by tools/mktbcopied.py.) | Layer 10, package table: copied: a contract. (Written by tools/mktbcopied.py.) -/
import Derived.Test.YtejhnfeligifgaaTbPut
import Derived.Test.YtejhnfeligifgaaSpMem
import Derived.Test.YtejhnfeligifgaaIns
import Derived.Test.YtejhnfeligifgaaNmEntry
import Derived.Test.YtejhnfeligifgaaCloneB
import Derived.Test.YtejhnfeligifgaaObMem
import Derived.Test.YtejhnfeligifgaaIdTy
import Derived.Test.YtejhnfeligifgaaStrTy
import Derived.Test.YtejhnfeligifgaaNmAdd
import Derived.Test.YtejhnfeligifgaaRegionD
namespace Go.Proofs.Ytejhnfeligifgaa
open Go.RowKit

/-- What an object's lists hold. -/
structure Cont where
  children : List Int
  code : List Cd.Ins
  strs : List (List UInt8)
  pages : List Sp.Ref
  table : List Tb.Slot
  words : List Int
  data : List UInt8
  backlog : List Int
  q0 : List UInt8
  q1 : List UInt8
  names : List Nx.Ent
def Cont.none : Cont := ⟨[], [], [], [], [], [], [], [], [], [], []⟩
def Cont.Short (X : Cont) : Prop := X.children.length ≤ 100000 ∧ X.code.length ≤ 100000 ∧ X.strs.length ≤ 100000 ∧ X.pages.length ≤ 100000 ∧ X.table.length ≤ 100000 ∧ X.words.length ≤ 100000 ∧ X.data.length ≤ 100000 ∧ X.backlog.length ≤ 100000 ∧ X.q0.length ≤ 100000 ∧ X.q1.length ≤ 100000 ∧ X.names.length ≤ 100000 ∧ ∀ x ∈ X.names, x.ids.length ≤ 100000
theorem Cont.none_short : Cont.none.Short := by simp [Cont.Short, Cont.none]
/-- The object's lists read so. -/
structure Holds (w : World) (B : Nat) (o : Ob) (X : Cont) : Prop where
  children : Nums .u64 w B o.children.A o.children.n X.children
  code : Inss w B o.code.A o.code.n X.code
  strs : Strs w B o.strs.A o.strs.n X.strs
  pages : Refs w B o.pages.A o.pages.n X.pages
  table : Slots w B o.table.A o.table.n X.table
  words : Nums .i64 w B o.words.A o.words.n X.words
  data : Bytes w B o.data.A o.data.n X.data
  backlog : Nums .u64 w B o.backlog.A o.backlog.n X.backlog
  q0 : Bytes w B o.q0.A o.q0.n X.q0
  q1 : Bytes w B o.q1.A o.q1.n X.q1
  names : ∃ l, Ents w B o.names.A o.names.n l X.names
section
variable {w w' : World} {B B' : Nat} {o : Ob} {X : Cont}
theorem Holds.mono (h : Holds w B o X) (hB : B ≤ B') : Holds w B' o X :=
  ⟨h.children.mono hB, h.code.mono hB, h.strs.mono hB, h.pages.mono hB, h.table.mono hB, h.words.mono hB, h.data.mono hB, h.backlog.mono hB, h.q0.mono hB, h.q1.mono hB, h.names.imp fun _ k => k.mono hB⟩
theorem Holds.below (h : Holds w B o X) (hb : Below B w w') : Holds w' B o X :=
  ⟨h.children.below hb, h.code.below hb, h.strs.below hb, h.pages.below hb, h.table.below hb, h.words.below hb, h.data.below hb, h.backlog.below hb, h.q0.below hb, h.q1.below hb, h.names.imp fun _ k => k.below hb⟩
theorem Holds.later (h : Holds w w.heap.size o X) (hb : Below w.heap.size w w') : Holds w' w'.heap.size o X := (h.below hb).mono hb.size
end
/-- An object without lists. -/
structure Ob.Bald (o : Ob) : Prop where
  children : o.children.n = 0
  code : o.code.n = 0
  strs : o.strs.n = 0
  pages : o.pages.n = 0
  table : o.table.n = 0
  words : o.words.n = 0
  data : o.data.n = 0
  backlog : o.backlog.n = 0
  q0 : o.q0.n = 0
  q1 : o.q1.n = 0
  names : o.names.n = 0
theorem Holds.bald {o : Ob} (h : o.Bald) (w : World) (B : Nat) : Holds w B o Cont.none := by
  constructor
  · rw [h.children]; exact Nums.nil
  · rw [h.code]; exact Inss.nil
  · rw [h.strs]; exact Strs.nil
  · rw [h.pages]; exact Refs.nil
  · rw [h.table]; exact Slots.nil
  · rw [h.words]; exact Nums.nil
  · rw [h.data]; exact Bytes.nil
  · rw [h.backlog]; exact Nums.nil
  · rw [h.q0]; exact Bytes.nil
  · rw [h.q1]; exact Bytes.nil
  · rw [h.names]; exact ⟨[], Ents.nil⟩
theorem Holds.is_bald {w : World} {B : Nat} {o : Ob} (h : Holds w B o Cont.none) : o.Bald := by
  constructor
  · exact h.children.len.symm
  · exact h.code.len.symm
  · exact h.strs.len.symm
  · exact h.pages.len.symm
  · exact h.table.len.symm
  · exact h.words.len.symm
  · exact h.data.len.symm
  · exact h.backlog.len.symm
  · exact h.q0.len.symm
  · exact h.q1.len.symm
  · obtain ⟨l, hl⟩ := h.names; exact hl.len.symm
/-- Other lists. -/
def Ob.relist (o c : Ob) : Ob := { o with children := c.children, code := c.code, strs := c.strs, pages := c.pages, table := c.table, words := c.words, data := c.data, backlog := c.backlog, q0 := c.q0, q1 := c.q1, names := c.names }
theorem Holds.relist {w : World} {B : Nat} {o c : Ob} {X : Cont} (h : Holds w B c X) : Holds w B (o.relist c) X := ⟨h.children, h.code, h.strs, h.pages, h.table, h.words, h.data, h.backlog, h.q0, h.q1, h.names⟩
/-- The object's lists read so, as long as the blocks from lo on stay. -/
def HoldsIn (w : World) (lo : Nat) (c : Ob) (X : Cont) : Prop := ∀ w'' : World, w.heap.size ≤ w''.heap.size → (∀ k, lo ≤ k → k < w.heap.size → w''.heap[k]? = w.heap[k]?) → Holds w'' w''.heap.size c X
theorem HoldsIn.holds {w : World} {lo : Nat} {c : Ob} {X : Cont} (h : HoldsIn w lo c X) : Holds w w.heap.size c X := h w (Nat.le_refl _) (fun _ _ _ => rfl)
theorem HoldsIn.keep {w w' : World} {lo : Nat} {c : Ob} {X : Cont} (h : HoldsIn w lo c X) (hs : w.heap.size ≤ w'.heap.size) (hk : ∀ k, lo ≤ k → k < w.heap.size → w'.heap[k]? = w.heap[k]?) : HoldsIn w' lo c X :=
  fun w'' h1 h2 => h w'' (Nat.le_trans hs h1) fun k k1 k2 => (h2 k k1 (by omega)).trans (hk k k1 k2)
/-- The object again, with lists of its own. -/
def CopPost (o : Ob) (X : Cont) (w : World) (e : Ending) (w' : World) : Prop := ∃ c, e = .returned (.agg (oc (o.relist c))) ∧ HoldsIn w' w.heap.size c X ∧ Below w.heap.size w w'
end Go.Proofs.Ytejhnfeligifgaa
namespace Go.Proofs.Ytejhnfeligifgaa
open Go.RowKit

/-- A row again, in a block of the call's own. -/
def CloneRow (ety : TypeId) (size n : Nat) (xs : List Value) (w : World) (e : Ending) (w' : World) : Prop := ∃ A c, e = .returned (.slice A n c) ∧ w'.ownsRow w.heap.size ety size (.slice A n c) n xs ∧ Below w.heap.size w w'
set_option maxRecDepth 100000 in
set_option maxHeartbeats 4000000 in
theorem cloneI64_any (xs : List Value) (h1 : ∀ u ∈ xs, u.oneCell' = true) (A : Option Addr) (n cap B : Nat) (W : World) (h : Row W B 1 A n xs) (hB : B ≤ W.heap.size) (hn : n ≤ 1000000) : Calls Try.prog 75 #[.slice A n cap] W (CloneRow 2 1 n xs W) := by
  have HR := hide (h.mono hB)
  have hn' : (n : Int) ≤ 1000000 := by omega
  have H1 := hide h1
  clear h h1
  have heq : ∀ w : World, (binOp .eql 39 (.slice A n cap) (.slice none 0 0)).run Try.prog w = .ok (.bool A.isNone) w := fun w => Lib.run_eql_slice_nil w _ _ _ _ _ _ _ Try.underlying39
  cases A with
  | none =>
    have h0 : n = 0 := HR.out.2.1 rfl
    subst h0
    have hx0 : xs = [] := List.eq_nil_of_length_eq_zero (by have := HR.out.len; omega)
    subst hx0
    go_enter Try.func75, Try.ntmps75
    go_wp2_with fail
    go_ret
    exact ⟨none, 0, rfl, own_none, Below.refl _ _⟩
  | some a =>
    go_enter Try.func75, Try.ntmps75
    go_wp2_with (first | (at_builtin; refine wpList_append_rd rfl _ _ _ rfl numTy (base := W.heap.size) rfl (own_empty W 2 1 (Nat.le_refl _)) (S := some a) (m := n) (d := cap) (news := xs) rfl (HR.out.alloc (Nat.le_refl _) _) H1.out (by unfold maxLen; omega) (by omega) (by simp) ?_; intro A3 c3 w3 hown3 hg3 _; have HB3 := hide (below_own ((Below.refl _ _).alloc (Nat.le_refl _) _) (own_empty W 2 1 (Nat.le_refl _)) hg3 (by simp)); rw [Nat.zero_add, List.nil_append] at hown3; have HO3 := hide hown3; clear hown3 hg3) | fail)
    go_ret
    exact ⟨A3, c3, rfl, HO3.out, HB3.out⟩
set_option maxRecDepth 100000 in
set_option maxHeartbeats 4000000 in
theorem cloneU8_any (xs : List Value) (h1 : ∀ u ∈ xs, u.oneCell' = true) (A : Option Addr) (n cap B : Nat) (W : World) (h : Row W B 1 A n xs) (hB : B ≤ W.heap.size) (hn : n ≤ 1000000) : Calls Try.prog 76 #[.slice A n cap] W (CloneRow 5 1 n xs W) := by
  have HR := hide (h.mono hB)
  have hn' : (n : Int) ≤ 1000000 := by omega
  have H1 := hide h1
  clear h h1
  have heq : ∀ w : World, (binOp .eql 26 (.slice A n cap) (.slice none 0 0)).run Try.prog w = .ok (.bool A.isNone) w := fun w => Lib.run_eql_slice_nil w _ _ _ _ _ _ _ Try.underlying26
  cases A with
  | none =>
    have h0 : n = 0 := HR.out.2.1 rfl
    subst h0
    have hx0 : xs = [] := List.eq_nil_of_length_eq_zero (by have := HR.out.len; omega)
    subst hx0
    go_enter Try.func76, Try.ntmps76
    go_wp2_with fail
    go_ret
    exact ⟨none, 0, rfl, own_none, Below.refl _ _⟩
  | some a =>
    go_enter Try.func76, Try.ntmps76
    go_wp2_with (first | (at_builtin; refine wpList_append_rd rfl _ _ _ rfl byteTy (base := W.heap.size) rfl (own_empty W 5 1 (Nat.le_refl _)) (S := some a) (m := n) (d := cap) (news := xs) rfl (HR.out.alloc (Nat.le_refl _) _) H1.out (by unfold maxLen; omega) (by omega) (by simp) ?_; intro A3 c3 w3 hown3 hg3 _; have HB3 := hide (below_own ((Below.refl _ _).alloc (Nat.le_refl _) _) (own_empty W 5 1 (Nat.le_refl _)) hg3 (by simp)); rw [Nat.zero_add, List.nil_append] at hown3; have HO3 := hide hown3; clear hown3 hg3) | fail)
    go_ret
    exact ⟨A3, c3, rfl, HO3.out, HB3.out⟩
set_option maxRecDepth 100000 in
set_option maxHeartbeats 4000000 in
theorem cloneU64_any (xs : List Value) (h1 : ∀ u ∈ xs, u.oneCell' = true) (A : Option Addr) (n cap B : Nat) (W : World) (h : Row W B 1 A n xs) (hB : B ≤ W.heap.size) (hn : n ≤ 1000000) : Calls Try.prog 77 #[.slice A n cap] W (CloneRow 23 1 n xs W) := by
  have HR := hide (h.mono hB)
  have hn' : (n : Int) ≤ 1000000 := by omega
  have H1 := hide h1
  clear h h1
  have heq : ∀ w : World, (binOp .eql 46 (.slice A n cap) (.slice none 0 0)).run Try.prog w = .ok (.bool A.isNone) w := fun w => Lib.run_eql_slice_nil w _ _ _ _ _ _ _ Try.underlying46
  cases A with
  | none =>
    have h0 : n = 0 := HR.out.2.1 rfl
    subst h0
    have hx0 : xs = [] := List.eq_nil_of_length_eq_zero (by have := HR.out.len; omega)
    subst hx0
    go_enter Try.func77, Try.ntmps77
    go_wp2_with fail
    go_ret
    exact ⟨none, 0, rfl, own_none, Below.refl _ _⟩
  | some a =>
    go_enter Try.func77, Try.ntmps77
    go_wp2_with (first | (at_builtin; refine wpList_append_rd rfl _ _ _ rfl idTy (base := W.heap.size) rfl (own_empty W 23 1 (Nat.le_refl _)) (S := some a) (m := n) (d := cap) (news := xs) rfl (HR.out.alloc (Nat.le_refl _) _) H1.out (by unfold maxLen; omega) (by omega) (by simp) ?_; intro A3 c3 w3 hown3 hg3 _; have HB3 := hide (below_own ((Below.refl _ _).alloc (Nat.le_refl _) _) (own_empty W 23 1 (Nat.le_refl _)) hg3 (by simp)); rw [Nat.zero_add, List.nil_append] at hown3; have HO3 := hide hown3; clear hown3 hg3) | fail)
    go_ret
    exact ⟨A3, c3, rfl, HO3.out, HB3.out⟩
set_option maxRecDepth 100000 in
set_option maxHeartbeats 4000000 in
theorem cloneNm_any (xs : List Value) (h1 : ∀ u ∈ xs, u.oneCell' = true) (A : Option Addr) (n cap B : Nat) (W : World) (h : Row W B 3 A n xs) (hB : B ≤ W.heap.size) (hn : n ≤ 1000000) : Calls Try.prog 78 #[.slice A n cap] W (CloneRow 84 3 n xs W) := by
  have HR := hide (h.mono hB)
  have hn' : (n : Int) ≤ 1000000 := by omega
  have H1 := hide h1
  clear h h1
  have heq : ∀ w : World, (binOp .eql 59 (.slice A n cap) (.slice none 0 0)).run Try.prog w = .ok (.bool A.isNone) w := fun w => Lib.run_eql_slice_nil w _ _ _ _ _ _ _ Try.underlying59
  cases A with
  | none =>
    have h0 : n = 0 := HR.out.2.1 rfl
    subst h0
    have hx0 : xs = [] := List.eq_nil_of_length_eq_zero (by have := HR.out.len; omega)
    subst hx0
    go_enter Try.func78, Try.ntmps78
    go_wp2_with fail
    go_ret
    exact ⟨none, 0, rfl, own_none, Below.refl _ _⟩
  | some a =>
    go_enter Try.func78, Try.ntmps78
    go_wp2_with (first | (at_builtin; refine wpList_append_rd rfl _ _ _ rfl nmTy (base := W.heap.size) rfl (own_empty W 84 3 (Nat.le_refl _)) (S := some a) (m := n) (d := cap) (news := xs) rfl (HR.out.alloc (Nat.le_refl _) _) H1.out (by unfold maxLen; omega) (by omega) (by simp) ?_; intro A3 c3 w3 hown3 hg3 _; have HB3 := hide (below_own ((Below.refl _ _).alloc (Nat.le_refl _) _) (own_empty W 84 3 (Nat.le_refl _)) hg3 (by simp)); rw [Nat.zero_add, List.nil_append] at hown3; have HO3 := hide hown3; clear hown3 hg3) | fail)
    go_ret
    exact ⟨A3, c3, rfl, HO3.out, HB3.out⟩
set_option maxRecDepth 100000 in
set_option maxHeartbeats 4000000 in
theorem cloneIns_any (xs : List Value) (h1 : ∀ u ∈ xs, u.oneCell' = true) (A : Option Addr) (n cap B : Nat) (W : World) (h : Row W B 4 A n xs) (hB : B ≤ W.heap.size) (hn : n ≤ 1000000) : Calls Try.prog 86 #[.slice A n cap] W (CloneRow 118 4 n xs W) := by
  have HR := hide (h.mono hB)
  have hn' : (n : Int) ≤ 1000000 := by omega
  have H1 := hide h1
  clear h h1
  have heq : ∀ w : World, (binOp .eql 47 (.slice A n cap) (.slice none 0 0)).run Try.prog w = .ok (.bool A.isNone) w := fun w => Lib.run_eql_slice_nil w _ _ _ _ _ _ _ Try.underlying47
  cases A with
  | none =>
    have h0 : n = 0 := HR.out.2.1 rfl
    subst h0
    have hx0 : xs = [] := List.eq_nil_of_length_eq_zero (by have := HR.out.len; omega)
    subst hx0
    go_enter Try.func86, Try.ntmps86
    go_wp2_with fail
    go_ret
    exact ⟨none, 0, rfl, own_none, Below.refl _ _⟩
  | some a =>
    go_enter Try.func86, Try.ntmps86
    go_wp2_with (first | (at_builtin; refine wpList_append_rd rfl _ _ _ rfl insTy (base := W.heap.size) rfl (own_empty W 118 4 (Nat.le_refl _)) (S := some a) (m := n) (d := cap) (news := xs) rfl (HR.out.alloc (Nat.le_refl _) _) H1.out (by unfold maxLen; omega) (by omega) (by simp) ?_; intro A3 c3 w3 hown3 hg3 _; have HB3 := hide (below_own ((Below.refl _ _).alloc (Nat.le_refl _) _) (own_empty W 118 4 (Nat.le_refl _)) hg3 (by simp)); rw [Nat.zero_add, List.nil_append] at hown3; have HO3 := hide hown3; clear hown3 hg3) | fail)
    go_ret
    exact ⟨A3, c3, rfl, HO3.out, HB3.out⟩
set_option maxRecDepth 100000 in
set_option maxHeartbeats 4000000 in
theorem cloneStr_any (xs : List Value) (h1 : ∀ u ∈ xs, u.oneCell' = true) (A : Option Addr) (n cap B : Nat) (W : World) (h : Row W B 1 A n xs) (hB : B ≤ W.heap.size) (hn : n ≤ 1000000) : Calls Try.prog 87 #[.slice A n cap] W (CloneRow 9 1 n xs W) := by
  have HR := hide (h.mono hB)
  have hn' : (n : Int) ≤ 1000000 := by omega
  have H1 := hide h1
  clear h h1
  have heq : ∀ w : World, (binOp .eql 48 (.slice A n cap) (.slice none 0 0)).run Try.prog w = .ok (.bool A.isNone) w := fun w => Lib.run_eql_slice_nil w _ _ _ _ _ _ _ Try.underlying48
  cases A with
  | none =>
    have h0 : n = 0 := HR.out.2.1 rfl
    subst h0
    have hx0 : xs = [] := List.eq_nil_of_length_eq_zero (by have := HR.out.len; omega)
    subst hx0
    go_enter Try.func87, Try.ntmps87
    go_wp2_with fail
    go_ret
    exact ⟨none, 0, rfl, own_none, Below.refl _ _⟩
  | some a =>
    go_enter Try.func87, Try.ntmps87
    go_wp2_with (first | (at_builtin; refine wpList_append_rd rfl _ _ _ rfl strTy (base := W.heap.size) rfl (own_empty W 9 1 (Nat.le_refl _)) (S := some a) (m := n) (d := cap) (news := xs) rfl (HR.out.alloc (Nat.le_refl _) _) H1.out (by unfold maxLen; omega) (by omega) (by simp) ?_; intro A3 c3 w3 hown3 hg3 _; have HB3 := hide (below_own ((Below.refl _ _).alloc (Nat.le_refl _) _) (own_empty W 9 1 (Nat.le_refl _)) hg3 (by simp)); rw [Nat.zero_add, List.nil_append] at hown3; have HO3 := hide hown3; clear hown3 hg3) | fail)
    go_ret
    exact ⟨A3, c3, rfl, HO3.out, HB3.out⟩
set_option maxRecDepth 100000 in
set_option maxHeartbeats 4000000 in
theorem cloneRef_any (xs : List Value) (h1 : ∀ u ∈ xs, u.oneCell' = true) (A : Option Addr) (n cap B : Nat) (W : World) (h : Row W B 2 A n xs) (hB : B ≤ W.heap.size) (hn : n ≤ 1000000) : Calls Try.prog 88 #[.slice A n cap] W (CloneRow 120 2 n xs W) := by
  have HR := hide (h.mono hB)
  have hn' : (n : Int) ≤ 1000000 := by omega
  have H1 := hide h1
  clear h h1
  have heq : ∀ w : World, (binOp .eql 54 (.slice A n cap) (.slice none 0 0)).run Try.prog w = .ok (.bool A.isNone) w := fun w => Lib.run_eql_slice_nil w _ _ _ _ _ _ _ Try.underlying54
  cases A with
  | none =>
    have h0 : n = 0 := HR.out.2.1 rfl
    subst h0
    have hx0 : xs = [] := List.eq_nil_of_length_eq_zero (by have := HR.out.len; omega)
    subst hx0
    go_enter Try.func88, Try.ntmps88
    go_wp2_with fail
    go_ret
    exact ⟨none, 0, rfl, own_none, Below.refl _ _⟩
  | some a =>
    go_enter Try.func88, Try.ntmps88
    go_wp2_with (first | (at_builtin; refine wpList_append_rd rfl _ _ _ rfl refTy (base := W.heap.size) rfl (own_empty W 120 2 (Nat.le_refl _)) (S := some a) (m := n) (d := cap) (news := xs) rfl (HR.out.alloc (Nat.le_refl _) _) H1.out (by unfold maxLen; omega) (by omega) (by simp) ?_; intro A3 c3 w3 hown3 hg3 _; have HB3 := hide (below_own ((Below.refl _ _).alloc (Nat.le_refl _) _) (own_empty W 120 2 (Nat.le_refl _)) hg3 (by simp)); rw [Nat.zero_add, List.nil_append] at hown3; have HO3 := hide hown3; clear hown3 hg3) | fail)
    go_ret
    exact ⟨A3, c3, rfl, HO3.out, HB3.out⟩
set_option maxRecDepth 100000 in
set_option maxHeartbeats 4000000 in
theorem cloneSlot_any (xs : List Value) (h1 : ∀ u ∈ xs, u.oneCell' = true) (A : Option Addr) (n cap B : Nat) (W : World) (h : Row W B 4 A n xs) (hB : B ≤ W.heap.size) (hn : n ≤ 1000000) : Calls Try.prog 35 #[.slice A n cap] W (CloneRow 25 4 n xs W) := by
  have HR := hide (h.mono hB)
  have hn' : (n : Int) ≤ 1000000 := by omega
  have H1 := hide h1
  clear h h1
  have heq : ∀ w : World, (binOp .eql 22 (.slice A n cap) (.slice none 0 0)).run Try.prog w = .ok (.bool A.isNone) w := fun w => Lib.run_eql_slice_nil w _ _ _ _ _ _ _ Try.underlying22
  cases A with
  | none =>
    have h0 : n = 0 := HR.out.2.1 rfl
    subst h0
    have hx0 : xs = [] := List.eq_nil_of_length_eq_zero (by have := HR.out.len; omega)
    subst hx0
    go_enter Try.func35, Try.ntmps35
    go_wp2_with fail
    go_ret
    exact ⟨none, 0, rfl, own_none, Below.refl _ _⟩
  | some a =>
    go_enter Try.func35, Try.ntmps35
    go_wp2_with (first | (at_builtin; refine wpList_append_rd rfl _ _ _ rfl slotTy (base := W.heap.size) rfl (own_empty W 25 4 (Nat.le_refl _)) (S := some a) (m := n) (d := cap) (news := xs) rfl (HR.out.alloc (Nat.le_refl _) _) H1.out (by unfold maxLen; omega) (by omega) (by simp) ?_; intro A3 c3 w3 hown3 hg3 _; have HB3 := hide (below_own ((Below.refl _ _).alloc (Nat.le_refl _) _) (own_empty W 25 4 (Nat.le_refl _)) hg3 (by simp)); rw [Nat.zero_add, List.nil_append] at hown3; have HO3 := hide hown3; clear hown3 hg3) | fail)
    go_ret
    exact ⟨A3, c3, rfl, HO3.out, HB3.out⟩

/-- The blocks from lo on that are there stay. -/
def Fr (lo : Nat) (w w' : World) : Prop := w.heap.size ≤ w'.heap.size ∧ ∀ k, lo ≤ k → k < w.heap.size → w'.heap[k]? = w.heap[k]?
section
variable {lo : Nat} {w w' w'' : World} {P Q : World → Prop}
theorem Fr.refl (lo : Nat) (w : World) : Fr lo w w := ⟨Nat.le_refl _, fun _ _ _ => rfl⟩
theorem Fr.trans (h : Fr lo w w') (k : Fr lo w' w'') : Fr lo w w'' := ⟨Nat.le_trans h.1 k.1, fun i h1 h2 => (k.2 i h1 (Nat.lt_of_lt_of_le h2 h.1)).trans (h.2 i h1 h2)⟩
theorem Fr.below (h : Below w.heap.size w w') : Fr lo w w' := ⟨h.size, fun k _ h2 => h.block k h2⟩
theorem Fr.put {g : Nat} (hg : g < lo) (i : Nat) (v : Value) : Fr lo w (w.setCell ⟨g, i, none⟩ v) := ⟨by simp [World.setCell], fun k h1 _ => by simp [World.setCell, Array.getElem?_modify, show ¬ g = k by omega]⟩
theorem Fr.row {g : Nat} (hg : g < lo) (cs : Array Value) : Fr lo w (w.setRow g cs) := ⟨by simp [World.setRow], fun k h1 _ => setRow_other w g cs (by omega)⟩
theorem Fr.cells {g : Nat} (hg : g < lo) (i : Nat) (vs : List Value) : Fr lo w (w.setCells g i vs) := by
  induction vs generalizing i w with
  | nil => exact Fr.refl _ _
  | cons v r ih => exact (Fr.put hg i v).trans (ih (i + 1))
/-- P holds as long as the blocks from lo on stay. -/
def Stays (lo : Nat) (w : World) (P : World → Prop) : Prop := ∀ w', Fr lo w w' → P w'
theorem Stays.now (h : Stays lo w P) : P w := h w (Fr.refl _ _)
theorem Stays.next (h : Stays lo w P) (k : Fr lo w w') : Stays lo w' P := fun w'' hf => h w'' (k.trans hf)
theorem Stays.and (h : Stays lo w P) (k : Stays lo w Q) : Stays lo w fun u => P u ∧ Q u := fun u hu => ⟨h u hu, k u hu⟩
theorem Stays.imp (h : Stays lo w P) (k : ∀ u, P u → Q u) : Stays lo w Q := fun u hu => k u (h u hu)
theorem Stays.own {base size n : Nat} {e : TypeId} {v : Value} {xs : List Value} (h : w.ownsRow base e size v n xs) (hb : lo ≤ base) : Stays lo w fun u => u.ownsRow lo e size v n xs := fun u hu => own_weaken (own_keep h fun g h1 h2 => hu.2 g (by omega) h2) hb
end
/-- An object's own rows, list by list. -/
structure Owns (w : World) (lo : Nat) (c : Ob) (X : Cont) : Prop where
  children : w.ownsRow lo 23 1 (.slice c.children.A c.children.n c.children.c) c.children.n (nv .u64 X.children)
  code : w.ownsRow lo 118 4 (.slice c.code.A c.code.n c.code.c) c.code.n (iv X.code)
  strs : w.ownsRow lo 9 1 (.slice c.strs.A c.strs.n c.strs.c) c.strs.n (sv X.strs)
  pages : w.ownsRow lo 120 2 (.slice c.pages.A c.pages.n c.pages.c) c.pages.n (rv X.pages)
  table : w.ownsRow lo 25 4 (.slice c.table.A c.table.n c.table.c) c.table.n (stv X.table)
theorem obl_cells {w : World} {g : Nat} {t : TypeId} {cs : Array Value} (h : Obl w g t cs) (i : Nat) (vs : List Value) : Obl (w.setCells g i vs) g t ((List.range vs.length).foldl (fun a j => a.setIfInBounds (i + j) (vs.getD j undef)) cs) := by
  induction vs generalizing i w cs with
  | nil => exact h
  | cons v r ih =>
    have := ih (h.put i v) (i + 1)
    rw [World.setCells]
    rw [List.length_cons, List.range_succ_eq_map, List.foldl_cons, List.foldl_map]
    simp only [Nat.add_zero, List.getD_cons_zero, List.getD_cons_succ]
    have e : (fun (a : Array Value) (j : Nat) => a.setIfInBounds (i + (j + 1)) (r.getD j undef)) = fun a j => a.setIfInBounds (i + 1 + j) (r.getD j undef) := by funext a j; congr 1; omega
    simp only [Nat.succ_eq_add_one]
    rw [e]
    exact this
theorem obl_cells_other {w : World} {g b : Nat} {t : TypeId} {cs : Array Value} (h : Obl w b t cs) (hne : b ≠ g) (i : Nat) (vs : List Value) : Obl (w.setCells g i vs) b t cs := by
  induction vs generalizing i w with
  | nil => exact h
  | cons v r ih => exact ih (h.put_other (b' := g) hne i v) (i + 1)
theorem obl_proc {w : World} {g : Nat} {t : TypeId} {y : Ob} (h : Obl w g t (oc y)) (c : Ob) : Obl (w.setCells g 3 (pcs c)) g t (oc { c with id := y.id, kind := y.kind, refs := y.refs, words := y.words, data := y.data, offset := y.offset, target := y.target, readers := y.readers, writers := y.writers, backlog := y.backlog, q0 := y.q0, q1 := y.q1, e0 := y.e0, e1 := y.e1, count := y.count, names := y.names }) := by
  have h1 : (w.setCells g 3 (pcs c)).heap[g]? = some (.cells (((List.range (pcs c).length).foldl (fun a j => a.setIfInBounds (3 + j) ((pcs c).getD j undef)) (oc y))) t (0, 0)) := obl_cells h 3 (pcs c)
  have e : (List.range (pcs c).length).foldl (fun a j => a.setIfInBounds (3 + j) ((pcs c).getD j undef)) (oc y) = oc { c with id := y.id, kind := y.kind, refs := y.refs, words := y.words, data := y.data, offset := y.offset, target := y.target, readers := y.readers, writers := y.writers, backlog := y.backlog, q0 := y.q0, q1 := y.q1, e0 := y.e0, e1 := y.e1, count := y.count, names := y.names } := by
    obtain ⟨_, _, _, _, _, _, _, _, _, _, _, _, _, _, _, _, _, _, _, _, _, _, _, _, _, _, _, _, _, _, _, _, _, _, _, _⟩ := c
    obtain ⟨_, _, _, _, _, _, _, _, _, _, _, _, _, _, _, _, _, _, _, _, _, _, _, _, _, _, _, _, _, _, _, _, _, _, _, _⟩ := y
    simp [oc, ocl, pcs, List.range_succ]
  rw [e] at h1
  exact h1
end Go.Proofs.Ytejhnfeligifgaa
namespace Go.Proofs.Ytejhnfeligifgaa
open Go.RowKit

theorem start_pp (W : World) (o : Ob) : ∃ w1, (W.alloc (.cells (pcell o) 56)).alloc (.cells #[.int .i64 0, .int .u64 0, .slice none 0 0, .slice none 0 0, .slice none 0 0, .int .i64 0, .int .i64 0, .int .i64 0, .int .i64 0, .int .i64 0, .int .i64 0, .int .i64 0, .int .i64 0, .int .i64 0, .int .i64 0, .slice none 0 0, .slice none 0 0, .int .i64 0, .int .i64 0, .int .i64 0] 56) = w1 ∧
    Obl w1 W.heap.size 56 (pcell o) ∧ Obl w1 (W.heap.size + 1) 56 (pcell Ob.zero) ∧ Below W.heap.size W w1 ∧ w1.heap.size = W.heap.size + 2 := by
  refine ⟨_, rfl, (Obl.make W _ _).alloc _, ?_, ((Below.refl _ _).alloc (Nat.le_refl _) _).alloc (by simp) _, by simp⟩
  have := Obl.make (W.alloc (.cells (pcell o) 56)) 56 (pcell Ob.zero)
  rwa [World.size_alloc] at this
theorem Stays.lower {lo lo' : Nat} {w : World} {P : World → Prop} (h : Stays lo w P) (hl : lo' ≤ lo) : Stays lo' w P := fun u hu => h u ⟨hu.1, fun k h1 h2 => hu.2 k (by omega) h2⟩
theorem Owns.weaken {w : World} {lo lo' : Nat} {c : Ob} {X : Cont} (h : Owns w lo c X) (hl : lo' ≤ lo) : Owns w lo' c X := ⟨own_weaken h.children hl, own_weaken h.code hl, own_weaken h.strs hl, own_weaken h.pages hl, own_weaken h.table hl⟩
/-- A process with other lists. -/
def Ob.reproc (o c : Ob) : Ob := { o with children := c.children, code := c.code, strs := c.strs, pages := c.pages, table := c.table }
/-- The process again, with lists of its own. -/
def ProcPost (o : Ob) (X : Cont) (w : World) (e : Ending) (w' : World) : Prop := ∃ c, e = .returned (.agg (pcell (o.reproc c))) ∧ Stays w.heap.size w' (fun u => Owns u w.heap.size c X) ∧ Below w.heap.size w w'
theorem pcell_children (o : Ob) (A : Option Addr) (n c : Nat) : (pcell o).setIfInBounds 2 (.slice A n c) = pcell { o with children := ⟨A, n, c⟩ } := by simp [pcell, pcs]
theorem pcell_code (o : Ob) (A : Option Addr) (n c : Nat) : (pcell o).setIfInBounds 3 (.slice A n c) = pcell { o with code := ⟨A, n, c⟩ } := by simp [pcell, pcs]
theorem pcell_strs (o : Ob) (A : Option Addr) (n c : Nat) : (pcell o).setIfInBounds 4 (.slice A n c) = pcell { o with strs := ⟨A, n, c⟩ } := by simp [pcell, pcs]
theorem pcell_pages (o : Ob) (A : Option Addr) (n c : Nat) : (pcell o).setIfInBounds 15 (.slice A n c) = pcell { o with pages := ⟨A, n, c⟩ } := by simp [pcell, pcs]
theorem pcell_table (o : Ob) (A : Option Addr) (n c : Nat) : (pcell o).setIfInBounds 16 (.slice A n c) = pcell { o with table := ⟨A, n, c⟩ } := by simp [pcell, pcs]
theorem oc_words (o : Ob) (A : Option Addr) (n c : Nat) : (oc o).setIfInBounds 23 (.slice A n c) = oc { o with words := ⟨A, n, c⟩ } := by simp [oc, ocl, pcs]
theorem oc_data (o : Ob) (A : Option Addr) (n c : Nat) : (oc o).setIfInBounds 24 (.slice A n c) = oc { o with data := ⟨A, n, c⟩ } := by simp [oc, ocl, pcs]
theorem oc_backlog (o : Ob) (A : Option Addr) (n c : Nat) : (oc o).setIfInBounds 29 (.slice A n c) = oc { o with backlog := ⟨A, n, c⟩ } := by simp [oc, ocl, pcs]
theorem oc_q0 (o : Ob) (A : Option Addr) (n c : Nat) : (oc o).setIfInBounds 30 (.slice A n c) = oc { o with q0 := ⟨A, n, c⟩ } := by simp [oc, ocl, pcs]
theorem oc_q1 (o : Ob) (A : Option Addr) (n c : Nat) : (oc o).setIfInBounds 31 (.slice A n c) = oc { o with q1 := ⟨A, n, c⟩ } := by simp [oc, ocl, pcs]
theorem oc_names (o : Ob) (A : Option Addr) (n c : Nat) : (oc o).setIfInBounds 35 (.slice A n c) = oc { o with names := ⟨A, n, c⟩ } := by simp [oc, ocl, pcs]
theorem exec_load_proc0 {w : World} {a : Act} {o : Oper} {x : Operand} (ho : o.op = .load 56 x) {g : Nat} (hx : a.eval x = .pointer (some ⟨g, 0, none⟩)) {t : TypeId} {y : Ob} (h : Obl w g t (pcell y)) :
    (execOp a.eval o).run Try.prog w = .ok (.value (.agg (pcell y))) w := exec_load_row ho hx h rfl Try.underlying56 procSize
theorem store_proc {ops : Array Oper} {rest : List Oper} {o : Oper} {a : Act} {w : World} {Q : Exit → Act → World → Prop} (hgd : o.guard = none) (x y : Operand) (ho : o.op = .store 56 x y) {g : Nat} (hx : a.eval x = .pointer (some ⟨g, 0, none⟩)) {c : Ob} (hy : a.eval y = .agg (pcell c)) {old : Array Value} {t : TypeId} (h : Obl w g t old) (hold : old.size = 20)
    (hK : wpList Try.prog ops Q rest (a.put o.dst undef) (w.setRow g (pcell c))) : wpList Try.prog ops Q (o :: rest) a w :=
  wpList_store_row hgd _ x y ho g _ hx hy t old h procSize hold (pcell_one c) hK
theorem ret_proc {w : World} {fn : Func} {p : Tmp} (hr : fn.results = #[.cell p 56]) (tmps : Array Value) {g : Nat} (hp : tmps.getD p undef = .pointer (some ⟨g, 0, none⟩)) {y : Ob} {t : TypeId} (h : Obl w g t (pcell y)) :
    (results fn tmps).run Try.prog w = .ok (.agg (pcell y)) w := results_cell_1 hr tmps hp h Try.underlying56 rfl procSize
set_option maxRecDepth 100000 in
set_option maxHeartbeats 16000000 in
theorem copProc_any (o : Ob) (X : Cont) (W : World) (h : Holds W W.heap.size o X) (hX : X.Short) : Calls Try.prog 74 #[.agg (pcell o)] W (ProcPost o X W) := by
  obtain ⟨w0, hw0, P0, Q0, hb0, hs0⟩ := start_pp W o
  have HB0 := hide hb0
  have H0 := hide h
  have HX := hide hX
  have hl0 : W.heap.size + 2 ≤ w0.heap.size := by omega
  clear h hX hb0
  have k0 : w0.cell? ⟨W.heap.size, 2, none⟩ = some (.slice o.children.A o.children.n o.children.c) := P0.cell 2
  go_enter Try.func74, Try.ntmps74
  go_wp2_with fail
  refine (cloneU64_any _ (nv_one _ _) _ _ _ W.heap.size _ (H0.out.children.2.below HB0.out) HB0.out.size (by have := H0.out.children.1; have := HX.out.1; omega)).mono ?_
  rintro e v1 ⟨Achildren, cchildren, rfl, hown, hb⟩
  have O1 := P0.below hb P0.lt
  have Z1 := Q0.below hb Q0.lt
  have k1 : v1.cell? ⟨W.heap.size, 2, none⟩ = some (.slice _ _ _) := O1.cell 2
  have z1 := O1.free 2
  obtain ⟨w1, hw1⟩ : ∃ w, v1.setCell ⟨W.heap.size, 2, none⟩ (.slice Achildren o.children.n cchildren) = w := ⟨_, rfl⟩
  have P1 := O1.put 2 (.slice Achildren o.children.n cchildren)
  rw [pcell_children, hw1] at P1
  have Q1 := Z1.put_other (b' := W.heap.size) (by omega) 2 (.slice Achildren o.children.n cchildren)
  rw [hw1] at Q1
  have HF1 : Hid (Fr (W.heap.size + 2) v1 w1) := hide (by rw [← hw1]; exact Fr.put (by omega) _ _)
  have HBn : Hid (Below W.heap.size W w1) := hide (by rw [← hw1]; exact (HB0.out.trans (hb.mono HB0.out.size)).setCell (p := ⟨W.heap.size, 2, none⟩) (by simp only; omega) _)
  have HB1 := HBn
  have HS1 : Hid (Stays (W.heap.size + 2) w1 _) := hide ((Stays.own hown (by omega)).next HF1.out)
  have hl1 : W.heap.size + 2 ≤ w1.heap.size := by have := P1.lt; have := Q1.lt; omega
  have m1 : w1.cell? ⟨W.heap.size, 3, none⟩ = some (.slice o.code.A o.code.n o.code.c) := P1.cell 3
  clear hown hb HBn O1 Z1 HF1 P0 Q0 HB0 
  go_wp2_with fail
  refine (cloneIns_any _ (iv_one _) _ _ _ W.heap.size _ (H0.out.code.2.below HB1.out) HB1.out.size (by have := H0.out.code.1; have := HX.out.2.1; omega)).mono ?_
  rintro e v2 ⟨Acode, ccode, rfl, hown, hb⟩
  have O2 := P1.below hb P1.lt
  have Z2 := Q1.below hb Q1.lt
  have k2 : v2.cell? ⟨W.heap.size, 3, none⟩ = some (.slice _ _ _) := O2.cell 3
  have z2 := O2.free 3
  obtain ⟨w2, hw2⟩ : ∃ w, v2.setCell ⟨W.heap.size, 3, none⟩ (.slice Acode o.code.n ccode) = w := ⟨_, rfl⟩
  have P2 := O2.put 3 (.slice Acode o.code.n ccode)
  rw [pcell_code, hw2] at P2
  have Q2 := Z2.put_other (b' := W.heap.size) (by omega) 3 (.slice Acode o.code.n ccode)
  rw [hw2] at Q2
  have HF2 : Hid (Fr (W.heap.size + 2) v2 w2) := hide (by rw [← hw2]; exact Fr.put (by omega) _ _)
  have HBn : Hid (Below W.heap.size W w2) := hide (by rw [← hw2]; exact (HB1.out.trans (hb.mono HB1.out.size)).setCell (p := ⟨W.heap.size, 3, none⟩) (by simp only; omega) _)
  have HB2 := HBn
  have HS2 : Hid (Stays (W.heap.size + 2) w2 _) := hide (((HS1.out.next (Fr.below hb)).and (Stays.own hown (by omega))).next HF2.out)
  have hl2 : W.heap.size + 2 ≤ w2.heap.size := by have := P2.lt; have := Q2.lt; omega
  have m2 : w2.cell? ⟨W.heap.size, 4, none⟩ = some (.slice o.strs.A o.strs.n o.strs.c) := P2.cell 4
  clear hown hb HBn O2 Z2 HF2 P1 Q1 HB1 HS1
  go_wp2_with fail
  refine (cloneStr_any _ (sv_one _) _ _ _ W.heap.size _ (H0.out.strs.2.below HB2.out) HB2.out.size (by have := H0.out.strs.1; have := HX.out.2.2.1; omega)).mono ?_
  rintro e v3 ⟨Astrs, cstrs, rfl, hown, hb⟩
  have O3 := P2.below hb P2.lt
  have Z3 := Q2.below hb Q2.lt
  have k3 : v3.cell? ⟨W.heap.size, 4, none⟩ = some (.slice _ _ _) := O3.cell 4
  have z3 := O3.free 4
  obtain ⟨w3, hw3⟩ : ∃ w, v3.setCell ⟨W.heap.size, 4, none⟩ (.slice Astrs o.strs.n cstrs) = w := ⟨_, rfl⟩
  have P3 := O3.put 4 (.slice Astrs o.strs.n cstrs)
  rw [pcell_strs, hw3] at P3
  have Q3 := Z3.put_other (b' := W.heap.size) (by omega) 4 (.slice Astrs o.strs.n cstrs)
  rw [hw3] at Q3
  have HF3 : Hid (Fr (W.heap.size + 2) v3 w3) := hide (by rw [← hw3]; exact Fr.put (by omega) _ _)
  have HBn : Hid (Below W.heap.size W w3) := hide (by rw [← hw3]; exact (HB2.out.trans (hb.mono HB2.out.size)).setCell (p := ⟨W.heap.size, 4, none⟩) (by simp only; omega) _)
  have HB3 := HBn
  have HS3 : Hid (Stays (W.heap.size + 2) w3 _) := hide (((HS2.out.next (Fr.below hb)).and (Stays.own hown (by omega))).next HF3.out)
  have hl3 : W.heap.size + 2 ≤ w3.heap.size := by have := P3.lt; have := Q3.lt; omega
  have m3 : w3.cell? ⟨W.heap.size, 15, none⟩ = some (.slice o.pages.A o.pages.n o.pages.c) := P3.cell 15
  clear hown hb HBn O3 Z3 HF3 P2 Q2 HB2 HS2
  go_wp2_with fail
  refine (cloneRef_any _ (rv_one _) _ _ _ W.heap.size _ (H0.out.pages.2.below HB3.out) HB3.out.size (by have := H0.out.pages.1; have := HX.out.2.2.2.1; omega)).mono ?_
  rintro e v4 ⟨Apages, cpages, rfl, hown, hb⟩
  have O4 := P3.below hb P3.lt
  have Z4 := Q3.below hb Q3.lt
  have k4 : v4.cell? ⟨W.heap.size, 15, none⟩ = some (.slice _ _ _) := O4.cell 15
  have z4 := O4.free 15
  obtain ⟨w4, hw4⟩ : ∃ w, v4.setCell ⟨W.heap.size, 15, none⟩ (.slice Apages o.pages.n cpages) = w := ⟨_, rfl⟩
  have P4 := O4.put 15 (.slice Apages o.pages.n cpages)
  rw [pcell_pages, hw4] at P4
  have Q4 := Z4.put_other (b' := W.heap.size) (by omega) 15 (.slice Apages o.pages.n cpages)
  rw [hw4] at Q4
  have HF4 : Hid (Fr (W.heap.size + 2) v4 w4) := hide (by rw [← hw4]; exact Fr.put (by omega) _ _)
  have HBn : Hid (Below W.heap.size W w4) := hide (by rw [← hw4]; exact (HB3.out.trans (hb.mono HB3.out.size)).setCell (p := ⟨W.heap.size, 15, none⟩) (by simp only; omega) _)
  have HB4 := HBn
  have HS4 : Hid (Stays (W.heap.size + 2) w4 _) := hide (((HS3.out.next (Fr.below hb)).and (Stays.own hown (by omega))).next HF4.out)
  have hl4 : W.heap.size + 2 ≤ w4.heap.size := by have := P4.lt; have := Q4.lt; omega
  have m4 : w4.cell? ⟨W.heap.size, 16, none⟩ = some (.slice o.table.A o.table.n o.table.c) := P4.cell 16
  clear hown hb HBn O4 Z4 HF4 P3 Q3 HB3 HS3
  go_wp2_with fail
  refine (cloneSlot_any _ (stv_one _) _ _ _ W.heap.size _ (H0.out.table.2.below HB4.out) HB4.out.size (by have := H0.out.table.1; have := HX.out.2.2.2.2.1; omega)).mono ?_
  rintro e v5 ⟨Atable, ctable, rfl, hown, hb⟩
  have O5 := P4.below hb P4.lt
  have Z5 := Q4.below hb Q4.lt
  have k5 : v5.cell? ⟨W.heap.size, 16, none⟩ = some (.slice _ _ _) := O5.cell 16
  have z5 := O5.free 16
  obtain ⟨w5, hw5⟩ : ∃ w, v5.setCell ⟨W.heap.size, 16, none⟩ (.slice Atable o.table.n ctable) = w := ⟨_, rfl⟩
  have P5 := O5.put 16 (.slice Atable o.table.n ctable)
  rw [pcell_table, hw5] at P5
  have Q5 := Z5.put_other (b' := W.heap.size) (by omega) 16 (.slice Atable o.table.n ctable)
  rw [hw5] at Q5
  have HF5 : Hid (Fr (W.heap.size + 2) v5 w5) := hide (by rw [← hw5]; exact Fr.put (by omega) _ _)
  have HBn : Hid (Below W.heap.size W w5) := hide (by rw [← hw5]; exact (HB4.out.trans (hb.mono HB4.out.size)).setCell (p := ⟨W.heap.size, 16, none⟩) (by simp only; omega) _)
  have HB5 := HBn
  have HS5 : Hid (Stays (W.heap.size + 2) w5 _) := hide (((HS4.out.next (Fr.below hb)).and (Stays.own hown (by omega))).next HF5.out)
  have hl5 : W.heap.size + 2 ≤ w5.heap.size := by have := P5.lt; have := Q5.lt; omega
  clear hown hb HBn O5 Z5 HF5 P4 Q4 HB4 HS4
  go_wp2_with (first | (refine wpList_val (by rfl) (exec_load_proc0 rfl rfl P5) ?_) | (refine store_proc rfl _ _ rfl rfl (c := { o with children := ⟨Achildren, o.children.n, cchildren⟩, code := ⟨Acode, o.code.n, ccode⟩, strs := ⟨Astrs, o.strs.n, cstrs⟩, pages := ⟨Apages, o.pages.n, cpages⟩, table := ⟨Atable, o.table.n, ctable⟩ }) rfl Q5 rfl ?_) | fail)
  refine bodyPost_ret (ret_proc rfl _ rfl (Q5.row_same _)) rfl ?_
  refine ⟨{ o with children := ⟨Achildren, o.children.n, cchildren⟩, code := ⟨Acode, o.code.n, ccode⟩, strs := ⟨Astrs, o.strs.n, cstrs⟩, pages := ⟨Apages, o.pages.n, cpages⟩, table := ⟨Atable, o.table.n, ctable⟩ }, rfl, ?_, below_row HB5.out (by omega) _⟩
  refine ((HS5.out.next (Fr.row (by omega) _)).imp ?_).lower (Nat.le_add_right _ 2)
  rintro u ⟨⟨⟨⟨h1, h2⟩, h3⟩, h4⟩, h5⟩
  exact (⟨h1, h2, h3, h4, h5⟩ : Owns u (W.heap.size + 2) _ X).weaken (Nat.le_add_right _ 2)
end Go.Proofs.Ytejhnfeligifgaa
namespace Go.Proofs.Ytejhnfeligifgaa
open Go.RowKit

theorem obl_there {w : World} {g : Nat} {t : TypeId} {cs : Array Value} (h : Obl w g t cs) {i n : Nat} (hn : i + n ≤ cs.size) : w.there g i n := fun j hj => ⟨by rw [h.cell, Array.getElem?_eq_getElem (by omega)]; rfl, h.free _⟩
theorem pcs_size (c : Ob) : (pcell c).size = 20 := rfl
theorem oc_size (c : Ob) : (oc c).size = 36 := rfl
theorem store_procMid {ops : Array Oper} {rest : List Oper} {o : Oper} {a : Act} {w : World} {Q : Exit → Act → World → Prop} (hgd : o.guard = none) (x y : Operand) (ho : o.op = .store 56 x y) {g : Nat} (hx : a.eval x = .pointer (some ⟨g, 3, none⟩)) {c y' : Ob} (hy : a.eval y = .agg (pcell c)) {t : TypeId} (h : Obl w g t (oc y'))
    (hK : wpList Try.prog ops Q rest (a.put o.dst undef) (w.setCells g 3 (pcs c))) : wpList Try.prog ops Q (o :: rest) a w :=
  wpList_store_mid hgd _ x y ho g 3 (pcell c) hx hy (obl_there h (by rw [pcs_size, oc_size]; omega)) procSize (pcell_one c) hK
theorem Fr.set_above {lo g : Nat} {w w' : World} (h : Fr lo w w') (hg : w.heap.size ≤ g) (i : Nat) (v : Value) : Fr lo w (w'.setCell ⟨g, i, none⟩ v) :=
  ⟨by simpa [World.setCell] using h.1, fun k h1 h2 => by
    have : ¬ g = k := by omega
    simpa [World.setCell, Array.getElem?_modify, this] using h.2 k h1 h2⟩
theorem qSize : (Try.prog.info? 57).map (·.size) = some 2 := by kernel_rfl
theorem two_mid (p : Nat → Option Value) (x y : Value) (h0 : p 0 = some x) (h1 : p 1 = some y) (j : Nat) (v : Value) (h : [x, y][j]? = some v) : p j = some v := by
  rcases j with _ | _ | j
  · simpa [h0] using h
  · simpa [h1] using h
  · simp at h
theorem exec_load_qs {w : World} {a : Act} {o : Oper} {x : Operand} (ho : o.op = .load 57 x) {g : Nat} (hx : a.eval x = .pointer (some ⟨g, 30, none⟩)) {t : TypeId} {y : Ob} (h : Obl w g t (oc y)) :
    (execOp a.eval o).run Try.prog w = .ok (.value (.agg #[.slice y.q0.A y.q0.n y.q0.c, .slice y.q1.A y.q1.n y.q1.c])) w :=
  exec_load_mid ho hx h [_, _] (two_mid (fun j => (oc y)[30 + j]?) _ _ rfl rfl) rfl Try.underlying57 qSize
theorem bytesSize1 : (Try.prog.info? 26).map (·.size) = some 1 := by kernel_rfl
theorem run_index_q {w : World} (u v x : Value) (k : Nat) (hk : k < 2) (hx : (#[u, v] : Array Value)[k]? = some x) : (Instr.index 57 (.agg #[u, v]) (.int .i64 (k : Int))).run Try.prog w = .ok x w := by
  have hsz : (sizeOf 26).run Try.prog w = .ok 1 w := by
    cases hq : Try.prog.info? 26 with
    | none => have := bytesSize1; simp [hq] at this
    | some i =>
      have hs : i.size = 1 := by have := bytesSize1; simpa [hq] using this
      simp [sizeOf, typeInfo, hq, hs]
  have hp : (part 26 #[u, v] (k * 1)).run Try.prog w = .ok x w := run_part_one Try.underlying26 rfl (by rw [Nat.mul_one]; exact hx)
  unfold Instr.index
  simp only [asIntOf, Sem.run_bind, Sem.run_pure, Result.andThen_ok, run_underlying Try.underlying57, Int.toNat_natCast]
  rw [if_pos (by omega)]
  simp only [Sem.run_bind, Result.andThen_ok, hsz, hp]
theorem exec_index_q {w : World} {a : Act} {o : Oper} {x i : Operand} (ho : o.op = .index 57 x i) {u v y : Value} (hx : a.eval x = .agg #[u, v]) (k : Nat) (hi : a.eval i = .int .i64 (k : Int)) (hk : k < 2) (hy : (#[u, v] : Array Value)[k]? = some y) :
    (execOp a.eval o).run Try.prog w = .ok (.value y) w := by
  unfold execOp
  simp only [ho, hx, hi, Sem.run_bind, run_index_q u v y k hk hy, Sem.run_pure, Result.andThen_ok]
theorem nmv_set (l : List Nm) (k : Nat) (h : k < l.length) (s : Sl) : (nmv l).set (k * 3 + 2) (.slice s.A s.n s.c) = nmv (l.set k ⟨l[k].path, l[k].kind, s⟩) := by
  induction l generalizing k with
  | nil => simp at h
  | cons a l ih =>
    rcases k with _ | k
    · simp [nmv, nmc]
    · have := ih k (by simpa using h)
      rw [List.set_cons_succ, nmv_cons, nmv_cons]
      simp only [List.getElem_cons_succ]
      rw [← this]
      simp only [nmc, List.cons_append, List.nil_append, show (k + 1) * 3 + 2 = (k * 3 + 2) + 1 + 1 + 1 by omega, List.set_cons_succ]
/-- The entries of a row of the call's own, the first k of them with identifiers of their own. -/
structure NmAt (w : World) (base lo : Nat) (A : Option Addr) (n c : Nat) (l : List Nm) (E : List Nx.Ent) (k : Nat) (L : List Nm) : Prop where
  len : L.length = n
  row : w.ownsRow base 84 3 (.slice A n c) n (nmv L)
  ids : Stays lo w (fun u => ∀ j (h : j < L.length) (h' : j < E.length), j < k → Nums .u64 u u.heap.size L[j].ids.A L[j].ids.n E[j].ids)
  old : ∀ j (h : j < L.length) (h2 : j < l.length), k ≤ j → L[j] = l[j]
  same : ∀ j (h : j < L.length) (h' : j < E.length), L[j].path = E[j].path ∧ L[j].kind = E[j].kind
theorem NmAt.carry {w w' : World} {base lo n c k : Nat} {A : Option Addr} {l L : List Nm} {E : List Nx.Ent} (h : NmAt w base lo A n c l E k L) (hb : Below w.heap.size w w') : NmAt w' base lo A n c l E k L :=
  ⟨h.len, own_below h.row hb, h.ids.next (Fr.below hb), h.old, h.same⟩
/-- Entry k's identifiers are laid anew. -/
theorem NmAt.step {w : World} {base lo n c k g : Nat} {l L : List Nm} {E : List Nx.Ent} {s : Sl} (h : NmAt w base lo (some ⟨g, 0, none⟩) n c l E k L) (hk : k < L.length) (hg : g < lo) (hs : ∀ h' : k < E.length, Stays lo w (fun u => Nums .u64 u u.heap.size s.A s.n E[k].ids)) :
    NmAt (w.setCell ⟨g, k * 3 + 2, none⟩ (.slice s.A s.n s.c)) base lo (some ⟨g, 0, none⟩) n c l E (k + 1) (L.set k ⟨L[k].path, L[k].kind, s⟩) := by
  refine ⟨by simpa using h.len, by rw [← nmv_set L k hk s]; exact own_set h.row _, ?_, ?_, ?_⟩
  · intro u hu j h1 h2 h3
    have hf : Fr lo w u := (Fr.put hg _ _).trans hu
    rw [List.length_set] at h1
    by_cases e : j = k
    · subst e
      rw [List.getElem_set_self]
      exact hs h2 u hf
    · rw [List.getElem_set_ne (Ne.symm e)]
      exact h.ids u hf j h1 h2 (by omega)
  · intro j h1 h2 h3
    rw [List.length_set] at h1
    rw [List.getElem_set_ne (by omega)]
    exact h.old j h1 h2 (by omega)
  · intro j h1 h2
    rw [List.length_set] at h1
    by_cases e : j = k
    · subst e
      rw [List.getElem_set_self]
      exact h.same j hk h2
    · rw [List.getElem_set_ne (Ne.symm e)]
      exact h.same j h1 h2
set_option maxRecDepth 100000 in
set_option maxHeartbeats 32000000 in
theorem tbCopied_any (o : Ob) (X : Cont) (W : World) (h : Holds W W.heap.size o X) (hX : X.Short) : Calls Try.prog 53 #[.agg (oc o)] W (CopPost o X W) := by
  obtain ⟨w0, hw0, P0, Q0, hb0, hs0⟩ := start_oz W o
  have HB0 := hide hb0
  have H0 := hide h
  have HX := hide hX
  have hl0 : W.heap.size + 2 ≤ w0.heap.size := by omega
  obtain ⟨l, hEnts⟩ := h.names
  have HE := hide hEnts
  clear h hX hb0 hEnts
  go_enter Try.func53, Try.ntmps53
  go_wp2_with (first | (refine wpList_val (by rfl) (exec_load_proc rfl rfl P0) ?_) | fail)
  refine (copProc_any o X _ ((H0.out.below HB0.out).mono HB0.out.size) HX.out).mono ?_
  rintro e v1 ⟨c, rfl, hst, hb⟩
  have O1 := P0.below hb P0.lt
  have Z1 := Q0.below hb Q0.lt
  obtain ⟨w1, hw1⟩ : ∃ w, v1.setCells W.heap.size 3 (pcs (o.reproc c)) = w := ⟨_, rfl⟩
  have P1 : Obl w1 W.heap.size 61 (oc (o.reproc c)) := by rw [← hw1]; exact obl_proc O1 (o.reproc c)
  have Q1 : Obl w1 (W.heap.size + 1) 61 (oc Ob.zero) := by rw [← hw1]; exact obl_cells_other Z1 (by omega) _ _
  have HB1 : Hid (Below W.heap.size W w1) := hide (by rw [← hw1]; exact below_cells (HB0.out.trans (hb.mono HB0.out.size)) (Nat.le_refl _) _ _)
  have HS1 : Hid (Stays (W.heap.size + 2) w1 (fun u => Owns u w0.heap.size c X)) := hide (by rw [← hw1]; exact (show Stays (W.heap.size + 2) v1 _ from hst.lower hl0).next (Fr.cells (by omega) _ _))
  have hl1 : W.heap.size + 2 ≤ w1.heap.size := by have := Q1.lt; omega
  have m1 : w1.cell? ⟨W.heap.size, 23, none⟩ = some (.slice o.words.A o.words.n o.words.c) := P1.cell 23
  clear hst hb P0 Q0 Z1 HB0
  go_wp2_with (first | (refine store_procMid rfl _ _ rfl rfl (c := o.reproc c) rfl O1 ?_; rw [hw1]) | fail)
  clear O1
  refine (cloneI64_any _ (nv_one _ _) _ _ _ W.heap.size _ (H0.out.words.2.below HB1.out) HB1.out.size (by have := H0.out.words.1; have := HX.out.2.2.2.2.2.1; omega)).mono ?_
  rintro e v2 ⟨Awords, cwords, rfl, hown, hb⟩
  have O2 := P1.below hb P1.lt
  have Z2 := Q1.below hb Q1.lt
  have k2 : v2.cell? ⟨W.heap.size, 23, none⟩ = some (.slice _ _ _) := O2.cell 23
  have z2 := O2.free 23
  obtain ⟨w2, hw2⟩ : ∃ w, v2.setCell ⟨W.heap.size, 23, none⟩ (.slice Awords o.words.n cwords) = w := ⟨_, rfl⟩
  have P2 := O2.put 23 (.slice Awords o.words.n cwords)
  rw [oc_words, hw2] at P2
  have Q2 := Z2.put_other (b' := W.heap.size) (by omega) 23 (.slice Awords o.words.n cwords)
  rw [hw2] at Q2
  have HF2 : Hid (Fr (W.heap.size + 2) v2 w2) := hide (by rw [← hw2]; exact Fr.put (by omega) _ _)
  have HBn : Hid (Below W.heap.size W w2) := hide (by rw [← hw2]; exact (HB1.out.trans (hb.mono HB1.out.size)).setCell (p := ⟨W.heap.size, 23, none⟩) (by simp only; omega) _)
  have HB2 := HBn
  have HS2 : Hid (Stays (W.heap.size + 2) w2 _) := hide (((HS1.out.next (Fr.below hb)).and (Stays.own hown (by omega))).next HF2.out)
  have hl2 : W.heap.size + 2 ≤ w2.heap.size := by have := P2.lt; have := Q2.lt; omega
  have m2 : w2.cell? ⟨W.heap.size, 24, none⟩ = some (.slice o.data.A o.data.n o.data.c) := P2.cell 24
  clear hown hb HBn O2 Z2 HF2 P1 Q1 HB1 HS1
  go_wp2_with fail
  refine (cloneU8_any _ (bv_one _) _ _ _ W.heap.size _ (H0.out.data.2.below HB2.out) HB2.out.size (by have := H0.out.data.1; have := HX.out.2.2.2.2.2.2.1; omega)).mono ?_
  rintro e v3 ⟨Adata, cdata, rfl, hown, hb⟩
  have O3 := P2.below hb P2.lt
  have Z3 := Q2.below hb Q2.lt
  have k3 : v3.cell? ⟨W.heap.size, 24, none⟩ = some (.slice _ _ _) := O3.cell 24
  have z3 := O3.free 24
  obtain ⟨w3, hw3⟩ : ∃ w, v3.setCell ⟨W.heap.size, 24, none⟩ (.slice Adata o.data.n cdata) = w := ⟨_, rfl⟩
  have P3 := O3.put 24 (.slice Adata o.data.n cdata)
  rw [oc_data, hw3] at P3
  have Q3 := Z3.put_other (b' := W.heap.size) (by omega) 24 (.slice Adata o.data.n cdata)
  rw [hw3] at Q3
  have HF3 : Hid (Fr (W.heap.size + 2) v3 w3) := hide (by rw [← hw3]; exact Fr.put (by omega) _ _)
  have HBn : Hid (Below W.heap.size W w3) := hide (by rw [← hw3]; exact (HB2.out.trans (hb.mono HB2.out.size)).setCell (p := ⟨W.heap.size, 24, none⟩) (by simp only; omega) _)
  have HB3 := HBn
  have HS3 : Hid (Stays (W.heap.size + 2) w3 _) := hide (((HS2.out.next (Fr.below hb)).and (Stays.own hown (by omega))).next HF3.out)
  have hl3 : W.heap.size + 2 ≤ w3.heap.size := by have := P3.lt; have := Q3.lt; omega
  have m3 : w3.cell? ⟨W.heap.size, 29, none⟩ = some (.slice o.backlog.A o.backlog.n o.backlog.c) := P3.cell 29
  clear hown hb HBn O3 Z3 HF3 P2 Q2 HB2 HS2
  go_wp2_with fail
  refine (cloneU64_any _ (nv_one _ _) _ _ _ W.heap.size _ (H0.out.backlog.2.below HB3.out) HB3.out.size (by have := H0.out.backlog.1; have := HX.out.2.2.2.2.2.2.2.1; omega)).mono ?_
  rintro e v4 ⟨Abacklog, cbacklog, rfl, hown, hb⟩
  have O4 := P3.below hb P3.lt
  have Z4 := Q3.below hb Q3.lt
  have k4 : v4.cell? ⟨W.heap.size, 29, none⟩ = some (.slice _ _ _) := O4.cell 29
  have z4 := O4.free 29
  obtain ⟨w4, hw4⟩ : ∃ w, v4.setCell ⟨W.heap.size, 29, none⟩ (.slice Abacklog o.backlog.n cbacklog) = w := ⟨_, rfl⟩
  have P4 := O4.put 29 (.slice Abacklog o.backlog.n cbacklog)
  rw [oc_backlog, hw4] at P4
  have Q4 := Z4.put_other (b' := W.heap.size) (by omega) 29 (.slice Abacklog o.backlog.n cbacklog)
  rw [hw4] at Q4
  have HF4 : Hid (Fr (W.heap.size + 2) v4 w4) := hide (by rw [← hw4]; exact Fr.put (by omega) _ _)
  have HBn : Hid (Below W.heap.size W w4) := hide (by rw [← hw4]; exact (HB3.out.trans (hb.mono HB3.out.size)).setCell (p := ⟨W.heap.size, 29, none⟩) (by simp only; omega) _)
  have HB4 := HBn
  have HS4 : Hid (Stays (W.heap.size + 2) w4 _) := hide (((HS3.out.next (Fr.below hb)).and (Stays.own hown (by omega))).next HF4.out)
  have hl4 : W.heap.size + 2 ≤ w4.heap.size := by have := P4.lt; have := Q4.lt; omega
  clear hown hb HBn O4 Z4 HF4 P3 Q3 HB3 HS3
  obtain ⟨oA, hoA⟩ : ∃ oA, ({ ({ ({ o.reproc c with words := ⟨Awords, o.words.n, cwords⟩ } : Ob) with data := ⟨Adata, o.data.n, cdata⟩ } : Ob) with backlog := ⟨Abacklog, o.backlog.n, cbacklog⟩ } : Ob) = oA := ⟨_, rfl⟩
  have hq0 : oA.q0 = o.q0 := by rw [← hoA]; rfl
  have hq1 : oA.q1 = o.q1 := by rw [← hoA]; rfl
  have hnm : oA.names = o.names := by rw [← hoA]; rfl
  have hrel : ∀ S0 S1 N : Sl, ({ oA with q0 := S0, q1 := S1, names := N } : Ob) = o.relist { c with words := ⟨Awords, o.words.n, cwords⟩, data := ⟨Adata, o.data.n, cdata⟩, backlog := ⟨Abacklog, o.backlog.n, cbacklog⟩, q0 := S0, q1 := S1, names := N } := fun S0 S1 N => by rw [← hoA]; rfl
  have HREL := hide hrel
  rw [hoA] at P4
  have HQ0 : Hid (Row W W.heap.size 1 oA.q0.A oA.q0.n (bv X.q0)) := hide (by rw [hq0]; exact H0.out.q0.2)
  have HQ1 : Hid (Row W W.heap.size 1 oA.q1.A oA.q1.n (bv X.q1)) := hide (by rw [hq1]; exact H0.out.q1.2)
  have HN0 : Hid (oA.q0.n ≤ 1000000 ∧ oA.q1.n ≤ 1000000) := hide (by rw [hq0, hq1]; have h1 := H0.out.q0.1; have h2 := H0.out.q1.1; have h3 := HX.out.2.2.2.2.2.2.2.2.1; have h4 := HX.out.2.2.2.2.2.2.2.2.2.1; omega)
  obtain ⟨PS, hPS, HS5⟩ : ∃ PS : World → Prop, (∀ u, PS u → (((Owns u w0.heap.size c X ∧ u.ownsRow (W.heap.size + 2) 2 1 (.slice Awords o.words.n cwords) o.words.n (nv .i64 X.words)) ∧ u.ownsRow (W.heap.size + 2) 5 1 (.slice Adata o.data.n cdata) o.data.n (bv X.data)) ∧ u.ownsRow (W.heap.size + 2) 23 1 (.slice Abacklog o.backlog.n cbacklog) o.backlog.n (nv .u64 X.backlog))) ∧ Hid (Stays (W.heap.size + 2) w4 PS) := ⟨_, fun _ h => h, HS4⟩
  have HPS := hide hPS
  have HNM := hide hnm
  clear HS4 hq0 hq1 hrel hoA hPS hnm
  go_wp2_with (first | (refine wpList_val (by rfl) (exec_load_qs rfl rfl P4) ?_) | fail)
  go_loopw [25] (fun s25 wr => ∃ (k : Nat) (S0 S1 : Sl), s25 = .int .i64 (k : Int) ∧ k ≤ 2 ∧ Hid (Obl wr W.heap.size 61 (oc { oA with q0 := S0, q1 := S1 })) ∧ Hid (Obl wr (W.heap.size + 1) 61 (oc Ob.zero)) ∧ Hid (Below W.heap.size W wr) ∧ Hid (Stays (W.heap.size + 2) wr PS) ∧
      Hid (1 ≤ k → Stays (W.heap.size + 2) wr (fun u => u.ownsRow (W.heap.size + 2) 5 1 (.slice S0.A S0.n S0.c) S0.n (bv X.q0))) ∧ Hid (2 ≤ k → Stays (W.heap.size + 2) wr (fun u => u.ownsRow (W.heap.size + 2) 5 1 (.slice S1.A S1.n S1.c) S1.n (bv X.q1)))) (fun s25 _ => 2 - (intOf s25).toNat)
  case atStart => exact ⟨0, oA.q0, oA.q1, rfl, by omega, hide P4, hide Q4, HB4, HS5, hide (fun h => by omega), hide (fun h => by omega)⟩
  case round =>
    obtain ⟨k, S0, S1, rfl, hk, HP, HQ, HB, HS, HU, HV⟩ := hrel
    have hlr : W.heap.size + 2 ≤ wr.heap.size := by have := HQ.out.lt; omega
    rcases (show k = 0 ∨ k = 1 ∨ k = 2 by omega) with rfl | rfl | rfl
    · go_wp2_with (first | (refine wpList_val (by rfl) (exec_index_q rfl rfl 0 rfl (by omega) rfl) ?_) | fail)
      refine (cloneU8_any _ (bv_one _) _ _ _ W.heap.size _ (HQ0.out.below HB.out) HB.out.size HN0.out.1).mono ?_
      rintro e v ⟨A, d, rfl, hown, hb⟩
      have OV := HP.out.below hb HP.out.lt
      have ZV := HQ.out.below hb HQ.out.lt
      have kv : v.cell? ⟨W.heap.size, 30, none⟩ = some (.slice S0.A S0.n S0.c) := OV.cell 30
      have zv := OV.free 30
      obtain ⟨w', hw'⟩ : ∃ w, v.setCell ⟨W.heap.size, 30, none⟩ (.slice A oA.q0.n d) = w := ⟨_, rfl⟩
      have HFn : Hid (Fr (W.heap.size + 2) v w') := hide (by rw [← hw']; exact Fr.put (by omega) _ _)
      have HPn : Hid (Obl w' W.heap.size 61 (oc { oA with q0 := ⟨A, oA.q0.n, d⟩, q1 := S1 })) := hide (by have := OV.put 30 (.slice A oA.q0.n d); rw [oc_q0, hw'] at this; exact this)
      have HQn : Hid (Obl w' (W.heap.size + 1) 61 (oc Ob.zero)) := hide (by rw [← hw']; exact ZV.put_other (b' := W.heap.size) (by omega) 30 _)
      have HBn : Hid (Below W.heap.size W w') := hide (by rw [← hw']; exact (HB.out.trans (hb.mono HB.out.size)).setCell (p := ⟨W.heap.size, 30, none⟩) (by simp only; omega) _)
      have HSn := hide ((HS.out.next (Fr.below hb)).next HFn.out)
      have HUn := hide ((Stays.own (lo := W.heap.size + 2) hown (by omega)).next HFn.out)
      clear hown hb OV ZV HP HQ HB HS HU HV
      go_wp2_with fail
      go_roundw
      case rel => exact ⟨1, ⟨A, oA.q0.n, d⟩, S1, by go_num, by omega, HPn, HQn, HBn, HSn, hide (fun _ => HUn.out), hide (fun h => by omega)⟩
      case measure => simp [intOf]
    · go_wp2_with (first | (refine wpList_val (by rfl) (exec_index_q rfl rfl 1 rfl (by omega) rfl) ?_) | fail)
      refine (cloneU8_any _ (bv_one _) _ _ _ W.heap.size _ (HQ1.out.below HB.out) HB.out.size HN0.out.2).mono ?_
      rintro e v ⟨A, d, rfl, hown, hb⟩
      have OV := HP.out.below hb HP.out.lt
      have ZV := HQ.out.below hb HQ.out.lt
      have kv : v.cell? ⟨W.heap.size, 31, none⟩ = some (.slice S1.A S1.n S1.c) := OV.cell 31
      have zv := OV.free 31
      obtain ⟨w', hw'⟩ : ∃ w, v.setCell ⟨W.heap.size, 31, none⟩ (.slice A oA.q1.n d) = w := ⟨_, rfl⟩
      have HFn : Hid (Fr (W.heap.size + 2) v w') := hide (by rw [← hw']; exact Fr.put (by omega) _ _)
      have HPn : Hid (Obl w' W.heap.size 61 (oc { oA with q0 := S0, q1 := ⟨A, oA.q1.n, d⟩ })) := hide (by have := OV.put 31 (.slice A oA.q1.n d); rw [oc_q1, hw'] at this; exact this)
      have HQn : Hid (Obl w' (W.heap.size + 1) 61 (oc Ob.zero)) := hide (by rw [← hw']; exact ZV.put_other (b' := W.heap.size) (by omega) 31 _)
      have HBn : Hid (Below W.heap.size W w') := hide (by rw [← hw']; exact (HB.out.trans (hb.mono HB.out.size)).setCell (p := ⟨W.heap.size, 31, none⟩) (by simp only; omega) _)
      have HSn := hide ((HS.out.next (Fr.below hb)).next HFn.out)
      have HUn := hide (((HU.out (by omega)).next (Fr.below hb)).next HFn.out)
      have HVn := hide ((Stays.own (lo := W.heap.size + 2) hown (by omega)).next HFn.out)
      clear hown hb OV ZV HP HQ HB HS HU HV
      go_wp2_with fail
      go_roundw
      case rel => exact ⟨2, S0, ⟨A, oA.q1.n, d⟩, by go_num, by omega, HPn, HQn, HBn, HSn, hide (fun _ => HUn.out), hide (fun _ => HVn.out)⟩
      case measure => simp [intOf]
    · generalize wr = wo at *
      have m35 : wo.cell? ⟨W.heap.size, 35, none⟩ = some (.slice o.names.A o.names.n o.names.c) := (HP.out.cell 35).trans (by show some (Value.slice oA.names.A oA.names.n oA.names.c) = _; rw [HNM.out])
      have HUn := hide (HU.out (by omega))
      have HVn := hide (HV.out (by omega))
      have HEN : Hid (o.names.n ≤ 1000000) := hide (by have h1 := HE.out.len; have h3 := HX.out.2.2.2.2.2.2.2.2.2.2.1; omega)
      clear HU HV
      go_wp2_with fail
      refine (cloneNm_any _ (nmv_one l) _ _ _ W.heap.size _ (HE.out.nms.2.1.below HB.out) HB.out.size HEN.out).mono ?_
      rintro e v ⟨A, d, rfl, hown, hb⟩
      have OV := HP.out.below hb HP.out.lt
      have ZV := HQ.out.below hb HQ.out.lt
      have hsw : wo.heap.size ≤ v.heap.size := hb.size
      have kv : v.cell? ⟨W.heap.size, 35, none⟩ = some (.slice o.names.A o.names.n o.names.c) := (OV.cell 35).trans (by show some (Value.slice oA.names.A oA.names.n oA.names.c) = _; rw [HNM.out])
      have zv := OV.free 35
      obtain ⟨w5, hw5⟩ : ∃ w, v.setCell ⟨W.heap.size, 35, none⟩ (.slice A o.names.n d) = w := ⟨_, rfl⟩
      have hs5 : w5.heap.size = v.heap.size := by rw [← hw5]; simp [World.setCell]
      have HF5 : Hid (Fr (W.heap.size + 2) v w5) := hide (by rw [← hw5]; exact Fr.put (by omega) _ _)
      have HP5 : Hid (Obl w5 W.heap.size 61 (oc { oA with q0 := S0, q1 := S1, names := ⟨A, o.names.n, d⟩ })) := hide (by have := OV.put 35 (.slice A o.names.n d); rw [oc_names, hw5] at this; exact this)
      have HQ5 : Hid (Obl w5 (W.heap.size + 1) 61 (oc Ob.zero)) := hide (by rw [← hw5]; exact ZV.put_other (b' := W.heap.size) (by omega) 35 _)
      have HB5 : Hid (Below W.heap.size W w5) := hide (by rw [← hw5]; exact (HB.out.trans (hb.mono HB.out.size)).setCell (p := ⟨W.heap.size, 35, none⟩) (by simp only; omega) _)
      have HS6 := hide (HS.out.and (HUn.out.and HVn.out))
      have HFR : Hid (Fr (W.heap.size + 2) wo w5) := hide ((Fr.below hb).trans HF5.out)
      have hvs : v.heap.size ≤ w5.heap.size := by omega
      have HN5 : Hid (NmAt w5 wo.heap.size v.heap.size A o.names.n d l X.names 0 l) := hide ⟨HE.out.nms.1, (Stays.own hown (Nat.le_refl _)) w5 (by rw [← hw5]; exact Fr.put (by omega) _ _), fun u _ j h1 h2 h3 => by omega, fun j h1 h2 _ => rfl, fun j h1 h2 => ⟨(HE.out.2.2 j h1 h2).1, (HE.out.2.2 j h1 h2).2.1⟩⟩
      have HGA : Hid (0 < o.names.n → ∃ g, A = some ⟨g, 0, none⟩ ∧ wo.heap.size ≤ g ∧ g < v.heap.size) := hide (fun h0 => own_addr hown h0)
      have HC5 : Hid (o.names.n ≤ d) := hide (own_cap hown)
      have k5 : w5.cell? ⟨W.heap.size, 35, none⟩ = some (.slice A o.names.n d) := HP5.out.cell 35
      have hn6 : (o.names.n : Int) ≤ 1000000 := by have := HEN.out; omega
      clear hown hb OV ZV HP HQ HB HS HUn HVn HF5
      go_wp2_with fail
      generalize hN : o.names.n = N at *
      have HNN := hide hN
      clear hN
      go_loopw [42] (fun s42 wr => ∃ (k : Nat) (L : List Nm), s42 = .int .i64 (k : Int) ∧ k ≤ N ∧ Hid (NmAt wr wo.heap.size v.heap.size A N d l X.names k L) ∧ Hid (Obl wr W.heap.size 61 (oc { oA with q0 := S0, q1 := S1, names := ⟨A, N, d⟩ })) ∧ Hid (Obl wr (W.heap.size + 1) 61 (oc Ob.zero)) ∧ Hid (Below W.heap.size W wr) ∧ Hid (Fr (W.heap.size + 2) wo wr) ∧ Hid (v.heap.size ≤ wr.heap.size)) (fun s42 _ => N - (intOf s42).toNat)
      case atStart => exact ⟨0, l, rfl, by omega, HN5, HP5, HQ5, HB5, HFR, hide hvs⟩
      case round =>
        obtain ⟨k, L, rfl, hk, HN, HP, HQ, HB, HF, HV⟩ := hrel
        have hvq := HV.out
        have hlq : W.heap.size + 2 ≤ wr.heap.size := by have := HQ.out.lt; omega
        by_cases hlt : k < N
        · have hlt' : (k : Int) < (N : Int) := by omega
          have hNd : (N : Int) ≤ (d : Int) := by have := HC5.out; omega
          obtain ⟨g, rfl, hg1, hg2⟩ := HGA.out (by omega)
          have hkL : k < L.length := by rw [HN.out.len]; exact hlt
          have hkE : k < X.names.length := by have := HE.out.len; omega
          have hkl : k < l.length := by have := HE.out.nms.1; omega
          obtain ⟨a0, a1, a2⟩ := nmv_at hkL
          have e0 := own_cell HN.out.row a0
          have e1 := own_cell HN.out.row a1
          have e2 := own_cell HN.out.row a2
          have hI := (HE.out.2.2 k hkl hkE).2.2
          rw [← HN.out.old k hkL hkl (Nat.le_refl _)] at hI
          have hin := hI.1
          have hsh : (X.names[k]).ids.length ≤ 100000 := HX.out.2.2.2.2.2.2.2.2.2.2.2 _ (List.getElem_mem hkE)
          obtain ⟨I, hIe⟩ : ∃ I, (X.names[k]).ids = I := ⟨_, rfl⟩
          have HIE : Hid (∀ h' : k < X.names.length, (X.names[k]'h').ids = I) := hide (fun _ => hIe)
          rw [hIe] at hI hin hsh
          obtain ⟨x, hx⟩ : ∃ x, L[k] = x := ⟨_, rfl⟩
          have HXL : Hid (∀ h' : k < L.length, L[k]'h' = x) := hide (fun _ => hx)
          rw [hx] at e0 e1 e2 hI hin
          have HI := hide hI
          have HKL := hide hkL
          have hxn : x.ids.n ≤ 1000000 := by omega
          obtain ⟨w7, hw7, gx, hgx, w8, hw8, OZ, ON, hb8, hs8⟩ := start_nm wr x
          have HN8 := hide (HN.out.carry (hb8.mono (by omega)))
          have HP8 := HP.out.below hb8 (by omega)
          have HQ8 := hide (HQ.out.below hb8 (by omega))
          have HB8 := hide (HB.out.trans (hb8.mono (by omega)))
          have HF8 := hide (HF.out.trans (Fr.below (hb8.mono (by omega))))
          clear a0 a1 a2 hI hin hsh hIe hx hb8 HN HP HQ HB HF HV hkL hkE hkl HGA
          go_wp2_with (first | (refine wpList_val (by rfl) (exec_load_nmid rfl rfl e0 e1 e2) ?_) | (refine store_nm rfl _ _ rfl rfl (c := x) rfl OZ rfl ?_; rw [hw8]) | fail)
          clear e0 e1 e2 OZ hw7 hw8
          have hg8 : g < w8.heap.size := by omega
          refine region_D (by kernel_rfl) w8.heap.size g [8] ?_
          obtain ⟨u, hu, OU, NU, HNu, HQu, HBu, HFu, hus⟩ : ∃ u, w8.drew = u ∧ Obl u W.heap.size 61 (oc { oA with q0 := S0, q1 := S1, names := ⟨some ⟨g, 0, none⟩, N, d⟩ }) ∧ Obl u gx 84 (nc x) ∧ Hid (NmAt u wo.heap.size v.heap.size (some ⟨g, 0, none⟩) N d l X.names k L) ∧ Hid (Obl u (W.heap.size + 1) 61 (oc Ob.zero)) ∧ Hid (Below W.heap.size W u) ∧ Hid (Fr (W.heap.size + 2) wo u) ∧ u.heap.size = w8.heap.size :=
            ⟨_, rfl, HP8, ON, hide (HN8.out.carry ⟨rfl, rfl, rfl, Nat.le_refl _, fun _ _ => rfl⟩), HQ8, hide (HB8.out.trans ⟨rfl, rfl, rfl, Nat.le_refl _, fun _ _ => rfl⟩), hide (HF8.out.trans ⟨Nat.le_refl _, fun _ _ _ => rfl⟩), rfl⟩
          rw [hu]
          clear hu HP8 ON HN8 HQ8 HB8 HF8
          refine takeDX 0 rfl (by kernel_rfl) (fun _ _ _ h => h) (by rfl) (by intro w'; go_simp; try with_reducible rfl) ?_
          refine takeD 1 [1, 6, 7, 8] rfl (by kernel_rfl) (fun _ _ _ h => h) (by rfl) (by intro w' hg; have g1 : w'.cell? ⟨W.heap.size, 35, none⟩ = some (.slice (some ⟨g, 0, none⟩) N d) := (hg.obl OU (by omega) (by omega)).cell 35; go_simp; try with_reducible rfl) ?_
          refine takeDX 2 rfl (by kernel_rfl) (fun _ _ _ h => h) (by rfl) (by intro w'; go_simp; try with_reducible rfl) ?_
          refine takeDX 3 rfl (by kernel_rfl) (fun _ _ _ h => h) (by rfl) (by intro w'; go_simp; try with_reducible rfl) ?_
          refine takeD 4 [4, 5, 6, 7, 8] rfl (by kernel_rfl) (fun _ _ _ h => h) (by rfl) (by intro w' hg; have g1 : w'.cell? ⟨gx, 2, none⟩ = some (.slice x.ids.A x.ids.n x.ids.c) := (hg.obl NU (by omega) (by omega)).cell 2; go_simp; try with_reducible rfl) ?_
          refine onlyD 5 rfl (by kernel_rfl) (by rfl) ?_
          intro K hK
          go_simp
          refine (cloneU64_any _ (nv_one _ _) _ _ _ W.heap.size _ (HI.out.2.below HBu.out) HBu.out.size hxn).mono ?_
          rintro e v2 ⟨A2, d2, rfl, hown2, hb2⟩
          have HN9 := hide (HNu.out.carry hb2)
          have HP9 := hide (OU.below hb2 OU.lt)
          have HQ9 := hide (HQu.out.below hb2 HQu.out.lt)
          have HB9 := hide (HBu.out.trans (hb2.mono HBu.out.size))
          have HF9 := hide (HFu.out.trans (Fr.below hb2))
          have HO9 := hide (Stays.own (lo := v.heap.size) hown2 (by omega))
          have hv2 : u.heap.size ≤ v2.heap.size := hb2.size
          have kq : v2.cell? ⟨g, k * 3 + 2, none⟩ = some (.slice x.ids.A x.ids.n x.ids.c) := by have h3 := own_cell HN9.out.row (nmv_at HKL.out).2.2; rw [HXL.out HKL.out] at h3; exact h3
          have zq : v2.frozen? ⟨g, k * 3 + 2, none⟩ = false := own_free HN9.out.row _
          refine hK _ _ (fun _ => Bel.of (hb2.mono (by omega))) ?_
          clear hK K hb2 hown2 OU NU HNu HQu HBu HFu
          refine takeDX 6 rfl (by kernel_rfl) (fun _ _ _ h => h) (by rfl) (by intro w'; go_simp; try with_reducible rfl) ?_
          refine takeDX 7 rfl (by kernel_rfl) (fun _ _ _ h => h) (by rfl) (by intro w'; go_simp; try with_reducible rfl) ?_
          refine onlyD 8 rfl (by kernel_rfl) (by rfl) ?_
          intro K hK
          go_simp
          refine hK _ _ (fun h => absurd h (by decide)) ?_
          clear hK K
          have HN10 : Hid (NmAt (v2.setCell ⟨g, k * 3 + 2, none⟩ (.slice A2 x.ids.n d2)) wo.heap.size v.heap.size (some ⟨g, 0, none⟩) N d l X.names (k + 1) (L.set k ⟨(L[k]'HKL.out).path, (L[k]'HKL.out).kind, ⟨A2, x.ids.n, d2⟩⟩)) := hide (HN9.out.step (s := ⟨A2, x.ids.n, d2⟩) HKL.out hg2 (fun h' => HO9.out.imp (fun u h => by rw [HIE.out h']; exact Nums.of_own h)))
          have HP10 := hide (HP9.out.put_other (b' := g) (by omega) (k * 3 + 2) (.slice A2 x.ids.n d2))
          have HQ10 := hide (HQ9.out.put_other (b' := g) (by omega) (k * 3 + 2) (.slice A2 x.ids.n d2))
          have HB10 := hide (HB9.out.setCell (p := ⟨g, k * 3 + 2, none⟩) (by simp only; omega) (.slice A2 x.ids.n d2))
          have HF10 := hide (HF9.out.set_above hg1 (k * 3 + 2) (.slice A2 x.ids.n d2))
          have HV10 : Hid (v.heap.size ≤ (v2.setCell ⟨g, k * 3 + 2, none⟩ (.slice A2 x.ids.n d2)).heap.size) := hide (by simp [World.setCell]; omega)
          generalize v2.setCell ⟨g, k * 3 + 2, none⟩ (.slice A2 x.ids.n d2) = w10 at *
          refine doneD (by kernel_rfl) ?_
          go_simp
          go_wp2
          go_roundw
          case rel => exact ⟨k + 1, _, by go_num, by omega, HN10, HP10, HQ10, HB10, HF10, HV10⟩
          case measure => simp [intOf]; omega
        · obtain rfl : k = N := by omega
          have HPq := HP.out
          have HQq := HQ.out
          go_wp2_with (first | (refine load_ob rfl _ rfl rfl HPq ?_) | (refine store_ob rfl _ _ rfl rfl (c := { oA with q0 := S0, q1 := S1, names := ⟨A, k, d⟩ }) rfl HQq rfl ?_) | fail)
          refine bodyPost_ret (ret_ob rfl _ rfl (HQq.row_same _)) rfl ?_
          refine ⟨{ c with words := ⟨Awords, o.words.n, cwords⟩, data := ⟨Adata, o.data.n, cdata⟩, backlog := ⟨Abacklog, o.backlog.n, cbacklog⟩, q0 := S0, q1 := S1, names := ⟨A, k, d⟩ }, by rw [← HREL.out], ?_, below_row HB.out (by omega) _⟩
          intro w2 h1 h2
          have hF : Fr (W.heap.size + 2) wr w2 := (Fr.row (by omega) _).trans ⟨h1, fun i i1 i2 => h2 i (by omega) i2⟩
          have hS := (HS6.out.next HF.out) w2 hF
          have hP := HPS.out _ hS.1
          have hrow := (Stays.own (lo := W.heap.size + 2) HN.out.row hlr) w2 hF
          have hids := HN.out.ids w2 ⟨hF.1, fun i i1 i2 => hF.2 i (by omega) i2⟩
          have hE := HE.out.len
          have hlen := HN.out.len
          have hnn := HNN.out
          have hlast : ∀ j (h1 : j < L.length) (h2 : j < X.names.length), Nums .u64 w2 w2.heap.size L[j].ids.A L[j].ids.n X.names[j].ids := fun j h1 h2 => hids j h1 h2 (by omega)
          refine ⟨Nums.of_own hP.1.1.1.children, Inss.of_own hP.1.1.1.code, Strs.of_own hP.1.1.1.strs, Refs.of_own hP.1.1.1.pages, Slots.of_own hP.1.1.1.table, Nums.of_own hP.1.1.2, Bytes.of_own hP.1.2, Nums.of_own hP.2, Bytes.of_own hS.2.1, Bytes.of_own hS.2.2, L, ⟨hlen, Row.of_own hrow, fun y hy => ?_⟩, by show X.names.length = k; omega, fun j h1 h2 => ⟨(HN.out.same j h1 h2).1, (HN.out.same j h1 h2).2, hlast j h1 h2⟩⟩
          obtain ⟨j, hj, rfl⟩ := List.getElem_of_mem hy
          exact ⟨_, hlast j hj (by omega)⟩
end Go.Proofs.Ytejhnfeligifgaa
