/- Words for a map from numbers to bools that the call makes, as the set of the numbers that lead to true; and for rows of structs of three numbers. Nothing of the program. -/
import Derived.Test.YtgdhlghklnlahaaDoorAgg
import Derived.Maps.OwnOps
import Derived.Maps.Views
namespace Go.Proofs.YtgdhlghklnlahaaDoor
open Go.RowKit Go.Maps

section
variable {P : Program} {k e : TypeId} {q : IntKind} {w w' : World} {b n : Nat} {S : List Int}
/-- Block b is a map of at most n entries, and of the numbers of kind q just those of S lead to true. -/
def MapSet (P : Program) (k e : TypeId) (q : IntKind) (w : World) (b n : Nat) (S : List Int) : Prop :=
  ∃ D : DataW Unit, w.ownsMap P k (plainElem P e) b n D ∧ IsMap D ∧ ∀ x : Int, D.atKey (.int q x) (.lit (.bool false)) = .lit (.bool (decide (x ∈ S)))
theorem MapSet.made (w : World) : MapSet P k e q (w.alloc (.map #[] 0)) w.heap.size 0 [] := ⟨.map [], World.ownsMap_made _ _ _ _, isMap_empty, fun _ => rfl⟩
theorem MapSet.kept {row : Option Nat} (h : MapSet P k e q w b n S) (hg : w.grownBy w' row) (hne : some b ≠ row) : MapSet P k e q w' b n S := by
  obtain ⟨D, h1, h2⟩ := h
  exact ⟨D, h1.kept hg hne, h2⟩
theorem MapSet.mono {n' : Nat} (h : MapSet P k e q w b n S) (hn : n ≤ n') : MapSet P k e q w b n' S := by
  obtain ⟨D, h1, h2⟩ := h
  exact ⟨D, h1.mono hn, h2⟩
theorem MapSet.lt (h : MapSet P k e q w b n S) : b < w.heap.size := by
  obtain ⟨D, h1, _⟩ := h
  exact h1.lt
theorem MapSet.alloc (h : MapSet P k e q w b n S) (o : Obj) : MapSet P k e q (w.alloc o) b n S := by
  obtain ⟨D, h1, h2⟩ := h
  exact ⟨D, h1.alloc o, h2⟩
theorem MapSet.drew (h : MapSet P k e q w b n S) : MapSet P k e q w.drew b n S := h
theorem MapSet.below {B : Nat} (h : MapSet P k e q w b n S) (hb : Below B w w') (hB : b < B) : MapSet P k e q w' b n S := by
  obtain ⟨D, ⟨es, clock, h0, F, hs, hD⟩, h2⟩ := h
  exact ⟨D, ⟨es, clock, (hb.block b hB).trans h0, F, hs, hD⟩, h2⟩
theorem MapSet.put_other (h : MapSet P k e q w b n S) {b' : Nat} (hne : b ≠ b') (i : Nat) (u : Value) : MapSet P k e q (w.setCell ⟨b', i, none⟩ u) b n S := by
  obtain ⟨D, ⟨es, clock, h0, F, hs, hD⟩, h2⟩ := h
  refine ⟨D, ⟨es, clock, ?_, F, hs, hD⟩, h2⟩
  simp [World.setCell, Array.getElem?_modify, h0, Ne.symm hne]
theorem plainElem_bool_inv (he : P.underlying e = some .bool) {v : Value} {z : DataW Unit × List MemPlace} (h : plainElem P e v = some z) : ∃ x, v = .bool x ∧ z = (.lit (.bool x), []) := by
  unfold plainElem at h
  rw [he] at h
  cases v <;> simp at h
  obtain rfl := h
  exact ⟨_, rfl, rfl⟩
theorem MapSet.look {t : TypeId} (h : MapSet P k e q w b n S) (hk : P.underlying k = some (.int q)) (ht : P.underlying t = some (.map k e)) (he : P.underlying e = some .bool) (hz : (zeroValue e).run P w = .ok (.bool false) w) {x : Int} (hx : (Lit.int q x).wf = true) :
    (Instr.lookup t (.map (some b)) (.int q x) false).run P w = .ok (.bool (decide (x ∈ S))) w := by
  obtain ⟨D, h1, h2, h3⟩ := h
  obtain ⟨v, ps, hrun, hv⟩ := h1.lookup (int_keyed hk) ht hz (plainElem_bool he false) (keyOf_int_mk hk hx)
  obtain ⟨y, rfl, hy⟩ := plainElem_bool_inv he hv
  rw [h3] at hy
  simp only [Prod.mk.injEq, DataW.lit.injEq, Lit.bool.injEq] at hy
  rw [hrun, hy.1]
end

theorem wpList_lookup_set {P : Program} {w : World} {ops : Array Oper} {rest : List Oper} {o : Oper} {a : Act} {Q : Exit → Act → World → Prop} (hg : o.guard = none) (m x : Operand) (t : TypeId) (hop : o.op = Op.lookup t m x false)
    {k e : TypeId} {q : IntKind} {b n : Nat} {S : List Int} (hk : P.underlying k = some (.int q)) (ht : P.underlying t = some (.map k e)) (he : P.underlying e = some .bool) (hz : (zeroValue e).run P w = .ok (.bool false) w)
    (h : MapSet P k e q w b n S) (hm : a.eval m = .map (some b)) {y : Int} (hx : a.eval x = .int q y) (hy : (Lit.int q y).wf = true)
    (hK : wpList P ops Q rest (a.put o.dst (.bool (decide (y ∈ S)))) w) : wpList P ops Q (o :: rest) a w := by
  refine wpList_plain hg fun K' hK' => ?_
  unfold Oper.wp
  simp [execOp, hop, hm, hx, h.look hk ht he hz hy, Result.andThen]
  exact hK' _ _ hK

theorem wpList_put_set {P : Program} {w : World} {ops : Array Oper} {rest : List Oper} {o : Oper} {a : Act} {Q : Exit → Act → World → Prop} (hg : o.guard = none) (m x v : Operand) (t : TypeId) (hop : o.op = Op.mapUpdate t m x v)
    {k e : TypeId} {q : IntKind} {b n : Nat} {S : List Int} (hk : P.underlying k = some (.int q)) (ht : P.underlying t = some (.map k e)) (he : P.underlying e = some .bool)
    (h : MapSet P k e q w b n S) (hn : n < maxLen) (hm : a.eval m = .map (some b)) {y : Int} (hx : a.eval x = .int q y) (hv : a.eval v = .bool true) (hy : (Lit.int q y).wf = true)
    (hK : ∀ w', MapSet P k e q w' b (n + 1) (S ++ [y]) → w.grownBy w' (some b) → wpList P ops Q rest (a.put o.dst undef) w') : wpList P ops Q (o :: rest) a w := by
  obtain ⟨D, h1, h2, h3⟩ := h
  refine wpList_mapUpdate_own w hg m x v t hop k e (int_keyed hk) ht _ b n D hm h1 hn _ _ (.int q y) hx hv (keyOf_int_mk hk hy) (.lit (.bool true)) [] (plainElem_bool he true) fun w' r1 r2 => ?_
  refine hK w' ⟨_, r1, h2.put _ _, fun z => ?_⟩ r2
  by_cases hzy : z = y
  · subst hzy
    rw [atKey_put_same h2 (by trivial)]
    simp
  · rw [atKey_put_other (by intro e; injection e; exact hzy (by assumption)), h3]
    simp [hzy]

/-- No cell lies in a map's block. -/
theorem MapSet.cell_none {P : Program} {k e : TypeId} {q : IntKind} {w : World} {b n : Nat} {S : List Int} (h : MapSet P k e q w b n S) {a : Addr} {u : Value} (hu : w.cell? a = some u) : a.block ≠ b := by
  rintro rfl
  obtain ⟨D, ⟨es, clock, h0, _⟩, _⟩ := h
  simp [World.cell?, h0] at hu
theorem MapSet.ne_block {P : Program} {k e : TypeId} {q : IntKind} {w : World} {b n g : Nat} {S : List Int} (h : MapSet P k e q w b n S) {cs : Array Value} {t : TypeId} {fr : Nat × Nat} (hu : w.heap[g]? = some (.cells cs t fr)) : g ≠ b := by
  rintro rfl
  obtain ⟨D, ⟨es, clock, h0, _⟩, _⟩ := h
  rw [hu] at h0
  cases h0
theorem MapSet.ne_own {P : Program} {k e : TypeId} {q : IntKind} {w : World} {b n g : Nat} {S : List Int} (h : MapSet P k e q w b n S) {base m c size : Nat} {e' : TypeId} {xs : List Value} (hown : w.ownsRow base e' size (.slice (some ⟨g, 0, none⟩) m c) m xs) : g ≠ b := by
  rcases hown.2 with ⟨hv, _⟩ | ⟨g', cap, cur, hv, hg, hh, _⟩
  · cases hv
  · injection hv with hv1
    simp only [Option.some.injEq, Addr.mk.injEq, and_true] at hv1
    subst hv1
    exact h.ne_block hh
theorem grown_trans {w w' w'' : World} {row : Option Nat} (h : w.grownBy w' row) (k : w'.grownBy w'' row) : w.grownBy w'' row :=
  ⟨k.os.trans h.os, k.tape.trans h.tape, k.output.trans h.output, Nat.le_trans h.size k.size, fun i hi hne => (k.block i (Nat.lt_of_lt_of_le hi h.size) hne).trans (h.block i hi hne)⟩

/-- A cell of a row of its own is written. -/
theorem own_set {w : World} {base n c size i g : Nat} {e : TypeId} {xs : List Value} (h : w.ownsRow base e size (.slice (some ⟨g, 0, none⟩) n c) n xs) (u : Value) :
    (w.setCell ⟨g, i, none⟩ u).ownsRow base e size (.slice (some ⟨g, 0, none⟩) n c) n (xs.set i u) := by
  obtain ⟨h1, h2⟩ := h
  refine ⟨by rw [List.length_set]; exact h1, ?_⟩
  rcases h2 with ⟨hv, _⟩ | ⟨g', cap, cur, hv, hg, hh, hn, hm, hs, hx⟩
  · cases hv
  · injection hv with hv1 hv2 hv3
    simp only [Option.some.injEq, Addr.mk.injEq, and_true] at hv1
    subst hv1
    subst hv3
    refine .inr ⟨g, c, cur.setIfInBounds i u, rfl, hg, ?_, hn, hm, by simpa using hs, ?_⟩
    · simp [World.setCell, Array.getElem?_modify, hh]
    · rw [Array.toList_setIfInBounds, ← hx, List.take_set]
theorem own_free {w : World} {base n c size g : Nat} {e : TypeId} {xs : List Value} (h : w.ownsRow base e size (.slice (some ⟨g, 0, none⟩) n c) n xs) (i : Nat) : w.frozen? ⟨g, i, none⟩ = false := by
  rcases h.2 with ⟨hv, _⟩ | ⟨g', cap, cur, hv, hg, hh, _⟩
  · cases hv
  · injection hv with hv1
    simp only [Option.some.injEq, Addr.mk.injEq, and_true] at hv1
    subst hv1
    simp [World.frozen?, hh]
theorem own_cell {w : World} {base n c size g : Nat} {e : TypeId} {xs : List Value} (h : w.ownsRow base e size (.slice (some ⟨g, 0, none⟩) n c) n xs) {i : Nat} {u : Value} (hu : xs[i]? = some u) : w.cell? ⟨g, i, none⟩ = some u := by
  rcases h.2 with ⟨hv, _⟩ | ⟨g', cap, cur, hv, hg, hh, hn, hm, hs, hx⟩
  · cases hv
  · injection hv with hv1
    simp only [Option.some.injEq, Addr.mk.injEq, and_true] at hv1
    subst hv1
    rw [cell_of_row w g i cur e (0, 0) hh, ← Array.getElem?_toList]
    rw [← hx, List.getElem?_take] at hu
    split at hu
    · exact hu
    · cases hu
theorem own_addr {w : World} {base n c size : Nat} {e : TypeId} {A : Option Addr} {xs : List Value} (h : w.ownsRow base e size (.slice A n c) n xs) (hn : 0 < n) : ∃ g, A = some ⟨g, 0, none⟩ ∧ base ≤ g ∧ g < w.heap.size := by
  rcases h.2 with ⟨hv, h0⟩ | ⟨g, cap, cur, hv, hg, hh, _⟩
  · omega
  · injection hv with hv1
    exact ⟨g, hv1, hg, lt_of_block hh⟩

/-- Structs of three numbers of one kind as cells. -/
def tv (l : List (Int × Int × Int)) : List Value := l.flatMap fun a => [.int .i64 a.1, .int .i64 a.2.1, .int .i64 a.2.2]
theorem tv_length (l : List (Int × Int × Int)) : (tv l).length = l.length * 3 := by
  induction l with
  | nil => rfl
  | cons a l ih => simp only [tv, List.flatMap_cons, List.length_append, List.length_cons, List.length_nil] at ih ⊢; omega
theorem tv_snoc (l : List (Int × Int × Int)) (a : Int × Int × Int) : tv l ++ [.int .i64 a.1, .int .i64 a.2.1, .int .i64 a.2.2] = tv (l ++ [a]) := by simp [tv]
theorem tv_cons (a : Int × Int × Int) (l : List (Int × Int × Int)) : tv (a :: l) = [.int .i64 a.1, .int .i64 a.2.1, .int .i64 a.2.2] ++ tv l := rfl
theorem tv_at {l : List (Int × Int × Int)} {k : Nat} (h : k < l.length) : (tv l)[k * 3]? = some (.int .i64 l[k].1) ∧ (tv l)[k * 3 + 1]? = some (.int .i64 l[k].2.1) ∧ (tv l)[k * 3 + 2]? = some (.int .i64 l[k].2.2) := by
  induction l generalizing k with
  | nil => simp at h
  | cons a l ih =>
    rw [tv_cons]
    rcases k with _ | k
    · exact ⟨rfl, rfl, rfl⟩
    · have := ih (k := k) (by simpa using h)
      rw [List.getElem?_append_right (by simp; omega), List.getElem?_append_right (by simp; omega), List.getElem?_append_right (by simp; omega)]
      simp only [List.length_cons, List.length_nil, List.getElem_cons_succ]
      rw [show (k + 1) * 3 - (0 + 1 + 1 + 1) = k * 3 by omega, show (k + 1) * 3 + 1 - (0 + 1 + 1 + 1) = k * 3 + 1 by omega, show (k + 1) * 3 + 2 - (0 + 1 + 1 + 1) = k * 3 + 2 by omega]
      exact this
theorem tv_set {l : List (Int × Int × Int)} {k : Nat} (h : k < l.length) (a : Int × Int × Int) : (((tv l).set (k * 3) (.int .i64 a.1)).set (k * 3 + 1) (.int .i64 a.2.1)).set (k * 3 + 2) (.int .i64 a.2.2) = tv (l.set k a) := by
  induction l generalizing k with
  | nil => simp at h
  | cons b l ih =>
    rcases k with _ | k
    · rfl
    · have := ih (k := k) (by simpa using h)
      rw [List.set_cons_succ, tv_cons, tv_cons]
      rw [show (k + 1) * 3 = [Value.int .i64 b.1, .int .i64 b.2.1, .int .i64 b.2.2].length + k * 3 by simp; omega, List.set_append_right _ _ (by omega), List.set_append_right _ _ (by omega), List.set_append_right _ _ (by omega)]
      rw [show [Value.int .i64 b.1, .int .i64 b.2.1, .int .i64 b.2.2].length + k * 3 - [Value.int .i64 b.1, .int .i64 b.2.1, .int .i64 b.2.2].length = k * 3 by omega, show [Value.int .i64 b.1, .int .i64 b.2.1, .int .i64 b.2.2].length + k * 3 + 1 - [Value.int .i64 b.1, .int .i64 b.2.1, .int .i64 b.2.2].length = k * 3 + 1 by omega, show [Value.int .i64 b.1, .int .i64 b.2.1, .int .i64 b.2.2].length + k * 3 + 2 - [Value.int .i64 b.1, .int .i64 b.2.1, .int .i64 b.2.2].length = k * 3 + 2 by omega, this]
theorem tv_one (l : List (Int × Int × Int)) : ∀ u ∈ tv l, u.oneCell' = true := by
  intro u hu
  simp only [tv, List.mem_flatMap] at hu
  obtain ⟨a, _, hu⟩ := hu
  simp only [List.mem_cons, List.not_mem_nil, or_false] at hu
  rcases hu with rfl | rfl | rfl <;> rfl
end Go.Proofs.YtgdhlghklnlahaaDoor
