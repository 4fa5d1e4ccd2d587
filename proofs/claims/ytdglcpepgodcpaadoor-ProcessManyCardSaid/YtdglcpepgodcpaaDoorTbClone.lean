/- slices.Clone at every type of which an object has lists: contracts, over rows of cells. (Written by tools/mktbcopied.py.) -/
import Derived.Test.YtdglcpepgodcpaaDoorTbCont
import Derived.Test.YtdglcpepgodcpaaDoorCloneB
import Derived.Test.YtdglcpepgodcpaaDoorObMem
import Derived.Test.YtdglcpepgodcpaaDoorIdTy
import Derived.Test.YtdglcpepgodcpaaDoorStrTy
import Derived.Test.YtdglcpepgodcpaaDoorNmAdd
namespace Go.Proofs.YtdglcpepgodcpaaDoor
open Go.RowKit

/-- A row again, in a block of the call's own. -/
def CloneRow (ety : TypeId) (size n : Nat) (xs : List Value) (w : World) (e : Ending) (w' : World) : Prop := ∃ A c, e = .returned (.slice A n c) ∧ w'.ownsRow w.heap.size ety size (.slice A n c) n xs ∧ Below w.heap.size w w'
set_option maxRecDepth 100000 in
set_option maxHeartbeats 4000000 in
theorem cloneU64_any (xs : List Value) (h1 : ∀ u ∈ xs, u.oneCell' = true) (A : Option Addr) (n cap B : Nat) (W : World) (h : Row W B 1 A n xs) (hB : B ≤ W.heap.size) (hn : n ≤ 1000000) : Calls Tryd.prog 34 #[.slice A n cap] W (CloneRow 24 1 n xs W) := by
  have HR := hide (h.mono hB)
  have hn' : (n : Int) ≤ 1000000 := by omega
  have H1 := hide h1
  clear h h1
  have heq : ∀ w : World, (binOp .eql 25 (.slice A n cap) (.slice none 0 0)).run Tryd.prog w = .ok (.bool A.isNone) w := fun w => Lib.run_eql_slice_nil w _ _ _ _ _ _ _ Tryd.underlying25
  cases A with
  | none =>
    have h0 : n = 0 := HR.out.2.1 rfl
    subst h0
    have hx0 : xs = [] := List.eq_nil_of_length_eq_zero (by have := HR.out.len; omega)
    subst hx0
    go_enter Tryd.func34, Tryd.ntmps34
    go_wp2_with fail
    go_ret
    exact ⟨none, 0, rfl, own_none, Below.refl _ _⟩
  | some a =>
    go_enter Tryd.func34, Tryd.ntmps34
    go_wp2_with (first | (at_builtin; refine wpList_append_rd rfl _ _ _ rfl idTy (base := W.heap.size) rfl (own_empty W 24 1 (Nat.le_refl _)) (S := some a) (m := n) (d := cap) (news := xs) rfl (HR.out.alloc (Nat.le_refl _) _) H1.out (by unfold maxLen; omega) (by omega) (by simp) ?_; intro A3 c3 w3 hown3 hg3 _; have HB3 := hide (below_own ((Below.refl _ _).alloc (Nat.le_refl _) _) (own_empty W 24 1 (Nat.le_refl _)) hg3 (by simp)); rw [Nat.zero_add, List.nil_append] at hown3; have HO3 := hide hown3; clear hown3 hg3) | fail)
    go_ret
    exact ⟨A3, c3, rfl, HO3.out, HB3.out⟩
set_option maxRecDepth 100000 in
set_option maxHeartbeats 4000000 in
theorem cloneIns_any (xs : List Value) (h1 : ∀ u ∈ xs, u.oneCell' = true) (A : Option Addr) (n cap B : Nat) (W : World) (h : Row W B 4 A n xs) (hB : B ≤ W.heap.size) (hn : n ≤ 1000000) : Calls Tryd.prog 28 #[.slice A n cap] W (CloneRow 72 4 n xs W) := by
  have HR := hide (h.mono hB)
  have hn' : (n : Int) ≤ 1000000 := by omega
  have H1 := hide h1
  clear h h1
  have heq : ∀ w : World, (binOp .eql 26 (.slice A n cap) (.slice none 0 0)).run Tryd.prog w = .ok (.bool A.isNone) w := fun w => Lib.run_eql_slice_nil w _ _ _ _ _ _ _ Tryd.underlying26
  cases A with
  | none =>
    have h0 : n = 0 := HR.out.2.1 rfl
    subst h0
    have hx0 : xs = [] := List.eq_nil_of_length_eq_zero (by have := HR.out.len; omega)
    subst hx0
    go_enter Tryd.func28, Tryd.ntmps28
    go_wp2_with fail
    go_ret
    exact ⟨none, 0, rfl, own_none, Below.refl _ _⟩
  | some a =>
    go_enter Tryd.func28, Tryd.ntmps28
    go_wp2_with (first | (at_builtin; refine wpList_append_rd rfl _ _ _ rfl insTy (base := W.heap.size) rfl (own_empty W 72 4 (Nat.le_refl _)) (S := some a) (m := n) (d := cap) (news := xs) rfl (HR.out.alloc (Nat.le_refl _) _) H1.out (by unfold maxLen; omega) (by omega) (by simp) ?_; intro A3 c3 w3 hown3 hg3 _; have HB3 := hide (below_own ((Below.refl _ _).alloc (Nat.le_refl _) _) (own_empty W 72 4 (Nat.le_refl _)) hg3 (by simp)); rw [Nat.zero_add, List.nil_append] at hown3; have HO3 := hide hown3; clear hown3 hg3) | fail)
    go_ret
    exact ⟨A3, c3, rfl, HO3.out, HB3.out⟩
set_option maxRecDepth 100000 in
set_option maxHeartbeats 4000000 in
theorem cloneStr_any (xs : List Value) (h1 : ∀ u ∈ xs, u.oneCell' = true) (A : Option Addr) (n cap B : Nat) (W : World) (h : Row W B 1 A n xs) (hB : B ≤ W.heap.size) (hn : n ≤ 1000000) : Calls Tryd.prog 29 #[.slice A n cap] W (CloneRow 9 1 n xs W) := by
  have HR := hide (h.mono hB)
  have hn' : (n : Int) ≤ 1000000 := by omega
  have H1 := hide h1
  clear h h1
  have heq : ∀ w : World, (binOp .eql 27 (.slice A n cap) (.slice none 0 0)).run Tryd.prog w = .ok (.bool A.isNone) w := fun w => Lib.run_eql_slice_nil w _ _ _ _ _ _ _ Tryd.underlying27
  cases A with
  | none =>
    have h0 : n = 0 := HR.out.2.1 rfl
    subst h0
    have hx0 : xs = [] := List.eq_nil_of_length_eq_zero (by have := HR.out.len; omega)
    subst hx0
    go_enter Tryd.func29, Tryd.ntmps29
    go_wp2_with fail
    go_ret
    exact ⟨none, 0, rfl, own_none, Below.refl _ _⟩
  | some a =>
    go_enter Tryd.func29, Tryd.ntmps29
    go_wp2_with (first | (at_builtin; refine wpList_append_rd rfl _ _ _ rfl strTy (base := W.heap.size) rfl (own_empty W 9 1 (Nat.le_refl _)) (S := some a) (m := n) (d := cap) (news := xs) rfl (HR.out.alloc (Nat.le_refl _) _) H1.out (by unfold maxLen; omega) (by omega) (by simp) ?_; intro A3 c3 w3 hown3 hg3 _; have HB3 := hide (below_own ((Below.refl _ _).alloc (Nat.le_refl _) _) (own_empty W 9 1 (Nat.le_refl _)) hg3 (by simp)); rw [Nat.zero_add, List.nil_append] at hown3; have HO3 := hide hown3; clear hown3 hg3) | fail)
    go_ret
    exact ⟨A3, c3, rfl, HO3.out, HB3.out⟩
set_option maxRecDepth 100000 in
set_option maxHeartbeats 4000000 in
theorem cloneRef_any (xs : List Value) (h1 : ∀ u ∈ xs, u.oneCell' = true) (A : Option Addr) (n cap B : Nat) (W : World) (h : Row W B 2 A n xs) (hB : B ≤ W.heap.size) (hn : n ≤ 1000000) : Calls Tryd.prog 35 #[.slice A n cap] W (CloneRow 77 2 n xs W) := by
  have HR := hide (h.mono hB)
  have hn' : (n : Int) ≤ 1000000 := by omega
  have H1 := hide h1
  clear h h1
  have heq : ∀ w : World, (binOp .eql 33 (.slice A n cap) (.slice none 0 0)).run Tryd.prog w = .ok (.bool A.isNone) w := fun w => Lib.run_eql_slice_nil w _ _ _ _ _ _ _ Tryd.underlying33
  cases A with
  | none =>
    have h0 : n = 0 := HR.out.2.1 rfl
    subst h0
    have hx0 : xs = [] := List.eq_nil_of_length_eq_zero (by have := HR.out.len; omega)
    subst hx0
    go_enter Tryd.func35, Tryd.ntmps35
    go_wp2_with fail
    go_ret
    exact ⟨none, 0, rfl, own_none, Below.refl _ _⟩
  | some a =>
    go_enter Tryd.func35, Tryd.ntmps35
    go_wp2_with (first | (at_builtin; refine wpList_append_rd rfl _ _ _ rfl refTy (base := W.heap.size) rfl (own_empty W 77 2 (Nat.le_refl _)) (S := some a) (m := n) (d := cap) (news := xs) rfl (HR.out.alloc (Nat.le_refl _) _) H1.out (by unfold maxLen; omega) (by omega) (by simp) ?_; intro A3 c3 w3 hown3 hg3 _; have HB3 := hide (below_own ((Below.refl _ _).alloc (Nat.le_refl _) _) (own_empty W 77 2 (Nat.le_refl _)) hg3 (by simp)); rw [Nat.zero_add, List.nil_append] at hown3; have HO3 := hide hown3; clear hown3 hg3) | fail)
    go_ret
    exact ⟨A3, c3, rfl, HO3.out, HB3.out⟩
set_option maxRecDepth 100000 in
set_option maxHeartbeats 4000000 in
theorem cloneSlot_any (xs : List Value) (h1 : ∀ u ∈ xs, u.oneCell' = true) (A : Option Addr) (n cap B : Nat) (W : World) (h : Row W B 4 A n xs) (hB : B ≤ W.heap.size) (hn : n ≤ 1000000) : Calls Tryd.prog 36 #[.slice A n cap] W (CloneRow 86 4 n xs W) := by
  have HR := hide (h.mono hB)
  have hn' : (n : Int) ≤ 1000000 := by omega
  have H1 := hide h1
  clear h h1
  have heq : ∀ w : World, (binOp .eql 34 (.slice A n cap) (.slice none 0 0)).run Tryd.prog w = .ok (.bool A.isNone) w := fun w => Lib.run_eql_slice_nil w _ _ _ _ _ _ _ Tryd.underlying34
  cases A with
  | none =>
    have h0 : n = 0 := HR.out.2.1 rfl
    subst h0
    have hx0 : xs = [] := List.eq_nil_of_length_eq_zero (by have := HR.out.len; omega)
    subst hx0
    go_enter Tryd.func36, Tryd.ntmps36
    go_wp2_with fail
    go_ret
    exact ⟨none, 0, rfl, own_none, Below.refl _ _⟩
  | some a =>
    go_enter Tryd.func36, Tryd.ntmps36
    go_wp2_with (first | (at_builtin; refine wpList_append_rd rfl _ _ _ rfl slotTy (base := W.heap.size) rfl (own_empty W 86 4 (Nat.le_refl _)) (S := some a) (m := n) (d := cap) (news := xs) rfl (HR.out.alloc (Nat.le_refl _) _) H1.out (by unfold maxLen; omega) (by omega) (by simp) ?_; intro A3 c3 w3 hown3 hg3 _; have HB3 := hide (below_own ((Below.refl _ _).alloc (Nat.le_refl _) _) (own_empty W 86 4 (Nat.le_refl _)) hg3 (by simp)); rw [Nat.zero_add, List.nil_append] at hown3; have HO3 := hide hown3; clear hown3 hg3) | fail)
    go_ret
    exact ⟨A3, c3, rfl, HO3.out, HB3.out⟩

/-- The blocks from lo on that are there stay. -/
def Fr (lo : Nat) (w w' : World) : Prop := w.heap.size ≤ w'.heap.size ∧ ∀ k, lo ≤ k → k < w.heap.size → w'.heap[k]? = w.heap[k]?
section
variable {lo : Nat} {w w' w'' : World} {P Q : World → Prop}
theorem Fr.refl (lo : Nat) (w : World) : Fr lo w w := ⟨Nat.le_refl _, fun _ _ _ => rfl⟩
theorem Fr.trans (h : Fr lo w w') (k : Fr lo w' w'') : Fr lo w w'' := ⟨Nat.le_trans h.1 k.1, fun i h1 h2 => (k.2 i h1 (Nat.lt_of_lt_of_le h2 h.1)).trans (h.2 i h1 h2)⟩
theorem Fr.below (h : Below w.heap.size w w') : Fr lo w w' := ⟨h.size, fun k _ h2 => h.block k h2⟩
theorem Fr.put {g : Nat} (hg : g < lo) (i : Nat) (v : Value) : Fr lo w (w.setCell ⟨g, i, none⟩ v) := ⟨by simp [World.setCell], fun k h1 _ => by simp [World.setCell, Array.getElem?_modify, show ¬ g = k by omega]⟩
theorem Fr.row {g : Nat} (hg : g < lo) (cs : Array Value) : Fr lo w (w.setRow g cs) := ⟨by simp [World.setRow], fun k h1 _ => setRow_other w g cs (by omega)⟩
theorem Fr.cells {g : Nat} (hg : g < lo) (i : Nat) (vs : List Value) : Fr lo w (w.setCells g i vs) := by
  induction vs generalizing i w with
  | nil => exact Fr.refl _ _
  | cons v r ih => exact (Fr.put hg i v).trans (ih (i + 1))
/-- P holds as long as the blocks from lo on stay. -/
def Stays (lo : Nat) (w : World) (P : World → Prop) : Prop := ∀ w', Fr lo w w' → P w'
theorem Stays.now (h : Stays lo w P) : P w := h w (Fr.refl _ _)
theorem Stays.next (h : Stays lo w P) (k : Fr lo w w') : Stays lo w' P := fun w'' hf => h w'' (k.trans hf)
theorem Stays.and (h : Stays lo w P) (k : Stays lo w Q) : Stays lo w fun u => P u ∧ Q u := fun u hu => ⟨h u hu, k u hu⟩
theorem Stays.imp (h : Stays lo w P) (k : ∀ u, P u → Q u) : Stays lo w Q := fun u hu => k u (h u hu)
theorem Stays.own {base size n : Nat} {e : TypeId} {v : Value} {xs : List Value} (h : w.ownsRow base e size v n xs) (hb : lo ≤ base) : Stays lo w fun u => u.ownsRow lo e size v n xs := fun u hu => own_weaken (own_keep h fun g h1 h2 => hu.2 g (by omega) h2) hb
end
/-- An object's own rows, list by list. -/
structure Owns (w : World) (lo : Nat) (c : Ob) (X : Cont) : Prop where
  children : w.ownsRow lo 24 1 (.slice c.children.A c.children.n c.children.c) c.children.n (nv .u64 X.children)
  code : w.ownsRow lo 72 4 (.slice c.code.A c.code.n c.code.c) c.code.n (iv X.code)
  strs : w.ownsRow lo 9 1 (.slice c.strs.A c.strs.n c.strs.c) c.strs.n (sv X.strs)
  pages : w.ownsRow lo 77 2 (.slice c.pages.A c.pages.n c.pages.c) c.pages.n (rv X.pages)
  table : w.ownsRow lo 86 4 (.slice c.table.A c.table.n c.table.c) c.table.n (stv X.table)
theorem obl_cells {w : World} {g : Nat} {t : TypeId} {cs : Array Value} (h : Obl w g t cs) (i : Nat) (vs : List Value) : Obl (w.setCells g i vs) g t ((List.range vs.length).foldl (fun a j => a.setIfInBounds (i + j) (vs.getD j undef)) cs) := by
  induction vs generalizing i w cs with
  | nil => exact h
  | cons v r ih =>
    have := ih (h.put i v) (i + 1)
    rw [World.setCells]
    rw [List.length_cons, List.range_succ_eq_map, List.foldl_cons, List.foldl_map]
    simp only [Nat.add_zero, List.getD_cons_zero, List.getD_cons_succ]
    have e : (fun (a : Array Value) (j : Nat) => a.setIfInBounds (i + (j + 1)) (r.getD j undef)) = fun a j => a.setIfInBounds (i + 1 + j) (r.getD j undef) := by funext a j; congr 1; omega
    simp only [Nat.succ_eq_add_one]
    rw [e]
    exact this
theorem obl_cells_other {w : World} {g b : Nat} {t : TypeId} {cs : Array Value} (h : Obl w b t cs) (hne : b ≠ g) (i : Nat) (vs : List Value) : Obl (w.setCells g i vs) b t cs := by
  induction vs generalizing i w with
  | nil => exact h
  | cons v r ih => exact ih (h.put_other (b' := g) hne i v) (i + 1)
theorem obl_proc {w : World} {g : Nat} {t : TypeId} {y : Ob} (h : Obl w g t (oc y)) (c : Ob) : Obl (w.setCells g 3 (pcs c)) g t (oc { c with id := y.id, kind := y.kind, refs := y.refs, words := y.words, data := y.data, offset := y.offset, target := y.target, readers := y.readers, writers := y.writers, backlog := y.backlog, q0 := y.q0, q1 := y.q1, e0 := y.e0, e1 := y.e1, count := y.count, names := y.names }) := by
  have h1 : (w.setCells g 3 (pcs c)).heap[g]? = some (.cells (((List.range (pcs c).length).foldl (fun a j => a.setIfInBounds (3 + j) ((pcs c).getD j undef)) (oc y))) t (0, 0)) := obl_cells h 3 (pcs c)
  have e : (List.range (pcs c).length).foldl (fun a j => a.setIfInBounds (3 + j) ((pcs c).getD j undef)) (oc y) = oc { c with id := y.id, kind := y.kind, refs := y.refs, words := y.words, data := y.data, offset := y.offset, target := y.target, readers := y.readers, writers := y.writers, backlog := y.backlog, q0 := y.q0, q1 := y.q1, e0 := y.e0, e1 := y.e1, count := y.count, names := y.names } := by
    obtain ⟨_, _, _, _, _, _, _, _, _, _, _, _, _, _, _, _, _, _, _, _, _, _, _, _, _, _, _, _, _, _, _, _, _, _, _, _⟩ := c
    obtain ⟨_, _, _, _, _, _, _, _, _, _, _, _, _, _, _, _, _, _, _, _, _, _, _, _, _, _, _, _, _, _, _, _, _, _, _, _⟩ := y
    simp [oc, ocl, pcs, List.range_succ]
  rw [e] at h1
  exact h1
end Go.Proofs.YtdglcpepgodcpaaDoor
