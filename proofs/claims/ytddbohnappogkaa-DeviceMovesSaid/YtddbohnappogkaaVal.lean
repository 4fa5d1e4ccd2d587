/- Operations that yield a value, guarded or not; '==' on arrays of numbers. Nothing of the program. -/
import Derived.Test.YtddbohnappogkaaLib
import Derived.Test.YtddbohnappogkaaRowMem
import Derived.Laws.StructEq
import Derived.ChangeKeysEq
import Derived.WalkKit
namespace Go.Proofs.Ytddbohnappogkaa
open Go.RowKit

section
variable {P : Program} {w : World}
theorem run_isAgg_not {t : TypeId} {d : TypeDesc} (h : P.underlying t = some d) (hd : d.isRow = false) (w : World) : (isAgg t).run P w = .ok false w := by
  unfold isAgg
  rw [Sem.run_bind, run_underlying h w]
  cases d <;> simp_all
theorem run_isAgg_row {t : TypeId} {d : TypeDesc} (h : P.underlying t = some d) (hd : d.isRow = true) (w : World) : (isAgg t).run P w = .ok true w := by
  unfold isAgg
  rw [Sem.run_bind, run_underlying h w]
  cases d <;> simp_all
theorem run_part_one {t : TypeId} {d : TypeDesc} (h : P.underlying t = some d) (hd : d.isRow = false) {cs : Array Value} {off : Nat} {v : Value} (hc : cs[off]? = some v) : (part t cs off).run P w = .ok v w := by
  unfold part
  rw [Sem.run_bind, run_isAgg_not h hd w]
  simp [hc]
theorem run_part_row {t : TypeId} {d : TypeDesc} (h : P.underlying t = some d) (hd : d.isRow = true) {cs : Array Value} {off n : Nat} (hi : (P.info? t).map (·.size) = some n) : (part t cs off).run P w = .ok (.agg (cs.extract off (off + n))) w := by
  unfold part
  rw [Sem.run_bind, run_isAgg_row h hd w]
  cases hq : P.info? t with
  | none => simp [hq] at hi
  | some i =>
    have hs : i.size = n := by simpa [hq] using hi
    simp [sizeOf, typeInfo, hq, hs]
/-- Arrays of numbers are compared number by number. -/
theorem run_equal_nums (d : Nat) {t e : TypeId} {k : IntKind} {n : Nat} (ht : P.underlying t = some (.array n e)) (he : P.underlying e = some (.int k)) (hi : (P.info? e).map (·.size) = some 1) (L M : List Int) (hL : L.length = n) (hM : M.length = n) :
    (Op.equalIn (d + 2) t (.agg (nv k L).toArray) (.agg (nv k M).toArray)).run P w = .ok (decide (L = M)) w := by
  have hsz : (sizeOf e).run P w = .ok 1 w := by
    cases hq : P.info? e with
    | none => simp [hq] at hi
    | some i =>
      have hs : i.size = 1 := by simpa [hq] using hi
      simp [sizeOf, typeInfo, hq, hs]
  have key : ∀ (m j : Nat), j + m = n →
      ((forIn (List.range' j m 1) ((none, ()) : Option Bool × Unit) fun i _ => (do
        if (!(← Op.equalIn (d + 1) e (← part e (nv k L).toArray (i * 1)) (← part e (nv k M).toArray (i * 1)))) = true then pure (ForInStep.done (some false, ())) else pure (ForInStep.yield (none, ())) : Sem (ForInStep (Option Bool × Unit))))).run P w =
        .ok (if L.drop j = M.drop j then (none, ()) else (some false, ())) w := by
    intro m
    induction m with
    | zero =>
      intro j hj
      rw [List.drop_of_length_le (by omega), List.drop_of_length_le (by omega)]
      simp
    | succ m ih =>
      intro j hj
      have h1 : j < L.length := by omega
      have h2 : j < M.length := by omega
      have p1 : (part e (nv k L).toArray (j * 1)).run P w = .ok (.int k L[j]) w := run_part_one he rfl (by rw [Nat.mul_one, List.getElem?_toArray, nv_at h1])
      have p2 : (part e (nv k M).toArray (j * 1)).run P w = .ok (.int k M[j]) w := run_part_one he rfl (by rw [Nat.mul_one, List.getElem?_toArray, nv_at h2])
      rw [List.range'_succ, List.forIn_cons, List.drop_eq_getElem_cons h1, List.drop_eq_getElem_cons h2]
      simp only [Sem.run_bind, p1, p2, Result.andThen_ok, run_equalIn_int w d e k k _ _ he]
      by_cases hx : L[j] = M[j]
      · simp only [hx, beq_self_eq_true, Bool.not_true, Bool.false_eq_true, if_false, Sem.run_pure, Result.andThen_ok, List.cons.injEq, true_and]
        exact ih (j + 1) (by omega)
      · have hb : (L[j] == M[j]) = false := by simpa using hx
        simp only [hb, Bool.not_false, if_true, Sem.run_pure, Result.andThen_ok, List.cons.injEq, hx, false_and, if_false]
  have := key n 0 (by omega)
  simp only [List.drop_zero] at this
  rw [show d + 2 = (d + 1) + 1 from rfl, Op.equalIn]
  simp only [Sem.run_bind, run_underlying ht, Result.andThen_ok, hsz, Std.Legacy.Range.forIn_eq_forIn_range', Std.Legacy.Range.size, Nat.sub_zero, Nat.add_sub_cancel, Nat.div_one]
  rw [this]
  by_cases h : L = M <;> simp [h]
end
/-- An operation that yields a value, guarded or not. -/
theorem wpList_val {P : Program} {ops : Array Oper} {rest : List Oper} {o : Oper} {a : Act} {w : World} {Q : Exit → Act → World → Prop} {v : Value} (hw : Region.wanted o (yielded ops a.tmps) = true) (hr : (execOp a.eval o).run P w = .ok (.value v) w)
    (hK : wpList P ops Q rest (a.put o.dst v) w) : wpList P ops Q (o :: rest) a w := by
  simp only [wpList, hw, if_true]
  left
  unfold Oper.wp
  rw [hr]
  exact hK
/-- An operation that yields a value and changes the world. -/
theorem wpList_yield {P : Program} {ops : Array Oper} {rest : List Oper} {o : Oper} {a : Act} {w w' : World} {Q : Exit → Act → World → Prop} {v : Value} (hgd : o.guard = none) (hr : (execOp a.eval o).run P w = .ok (.value v) w') (h : wpList P ops Q rest (a.put o.dst v) w') : wpList P ops Q (o :: rest) a w := by
  have hw : Region.wanted o (yielded ops a.tmps) = true := by simp only [Region.wanted, hgd]
  simp only [wpList, hw, if_true]
  left
  unfold Oper.wp
  rw [hr]
  exact h
/- Chains of conditions ('a && b && ..') in one walk: what is guarded yields its value if the guard is met, and nobody reads it else. -/
section
variable {P : Program} {ops : Array Oper} {rest : List Oper} {o : Oper} {a : Act} {w : World} {Q : Exit → Act → World → Prop}
theorem wanted_if {j : Nat} {g : Bool} (hgd : o.guard = some (j, true)) (hy : yielded ops a.tmps j = some g) : Region.wanted o (yielded ops a.tmps) = g := by
  unfold Region.wanted
  rw [hgd]
  show (yielded ops a.tmps j == some true) = g
  rw [hy]
  cases g <;> rfl
/-- A guarded operation that yields a value, its guard a letter. -/
theorem wpList_if {v : Value} (j : Nat) (g : Bool) (hgd : o.guard = some (j, true)) (hy : yielded ops a.tmps j = some g) (hr : g = true → (execOp a.eval o).run P w = .ok (.value v) w)
    (h : ∀ u : Value, (g = true → u = v) → wpList P ops Q rest (a.put o.dst u) w) : wpList P ops Q (o :: rest) a w := by
  have hw := wanted_if (g := g) hgd hy
  cases g with
  | true => exact wpList_val hw (hr rfl) (h v fun _ => rfl)
  | false =>
    simp only [wpList, hw, Bool.false_eq_true, if_false]
    exact h undef fun h => by cases h
/-- The pick behind it. -/
theorem wpList_pick (g c : Bool) {x y z : Operand} (hgd : o.guard = none) (ho : o.op = .pick x y z) (hx : a.eval x = .bool g) (hy : g = true → a.eval y = .bool c) (hz : a.eval z = .bool false) (h : wpList P ops Q rest (a.put o.dst (.bool (g && c))) w) : wpList P ops Q (o :: rest) a w := by
  refine wpList_val (v := .bool (g && c)) (by simp only [Region.wanted, hgd]) ?_ h
  unfold execOp
  cases g with
  | true => simp [ho, hx, hy rfl, asBool]
  | false => simp [ho, hx, hz, asBool]
/-- .. under a new name. -/
theorem wpList_pickd (g c : Bool) {x y z : Operand} (hgd : o.guard = none) (ho : o.op = .pick x y z) (hx : a.eval x = .bool g) (hy : g = true → a.eval y = .bool c) (hz : a.eval z = .bool false) (h : ∀ d : Bool, (g && c) = d → wpList P ops Q rest (a.put o.dst (.bool d)) w) : wpList P ops Q (o :: rest) a w :=
  wpList_pick g c hgd ho hx hy hz (h _ rfl)
/-- A guarded call of a function that answers a bool. -/
theorem wpList_ifcall (c : Bool) (j : Nat) (g : Bool) (hgd : o.guard = some (j, true)) (hy : yielded ops a.tmps j = some g) (hc : g = true → ∀ K : Act → World → Prop, (∀ a' w', a.put o.dst (.bool c) = a' → Below w.heap.size w w' → K a' w') → o.wp P a w K Q)
    (h : ∀ (u : Value) (w' : World), (g = true → u = .bool c) → Below w.heap.size w w' → wpList P ops Q rest (a.put o.dst u) w') : wpList P ops Q (o :: rest) a w := by
  have hw := wanted_if (g := g) hgd hy
  cases g with
  | true =>
    simp only [wpList, hw, if_true]
    left
    exact hc rfl _ fun a' w' he hb => he ▸ h _ w' (fun _ => rfl) hb
  | false =>
    simp only [wpList, hw, Bool.false_eq_true, if_false]
    exact h undef w (fun h => by cases h) (Below.refl _ _)
/-- A guarded operation whose guard is met. -/
theorem wpList_met (hw : Region.wanted o (yielded ops a.tmps) = true) (h : ∀ K : Act → World → Prop, (∀ a' w', wpList P ops Q rest a' w' → K a' w') → o.wp P a w K Q) : wpList P ops Q (o :: rest) a w := by
  simp only [wpList, hw, if_true]
  left
  exact h _ fun _ _ h => h
end
end Go.Proofs.Ytddbohnappogkaa
