/- Words for a map that the call makes, whatever its elements are: a list of its entries, the last one first. Nothing of the program. -/
import Derived.Maps.OwnSet
namespace Go.Proofs.YtejhnfeligifgaaDoor
open Go.RowKit Go.Maps

/-- An element is told as it is. -/
def selfElem (v : Value) : Option (DataW Value × List MemPlace) := some (.held v, [])
/-- What the entries have at a key. -/
def look (L : List (Lit × Value)) (k : Lit) : Option Value := (L.find? fun p => p.1.sameKey k).map (·.2)
section
variable {P : Program} {k e : TypeId} {w w' : World} {b n : Nat} {L : List (Lit × Value)}
/-- Block b is a map of at most n entries, which has just what L has. -/
def MapIs (P : Program) (k : TypeId) (w : World) (b n : Nat) (L : List (Lit × Value)) : Prop :=
  ∃ D : DataW Value, w.ownsMap P k selfElem b n D ∧ IsMap D ∧ ∀ x, (has D x = (look L x).isSome) ∧ ∀ z, D.atKey x (.held z) = .held ((look L x).getD z)
theorem MapIs.made (w : World) : MapIs P k (w.alloc (.map #[] 0)) w.heap.size 0 [] := ⟨.map [], World.ownsMap_made _ _ _ _, isMap_empty, fun _ => ⟨rfl, fun _ => rfl⟩⟩
theorem MapIs.lt (h : MapIs P k w b n L) : b < w.heap.size := by
  obtain ⟨D, h1, _⟩ := h
  exact h1.lt
theorem MapIs.below {B : Nat} (h : MapIs P k w b n L) (hb : Below B w w') (hB : b < B) : MapIs P k w' b n L := by
  obtain ⟨D, ⟨es, clock, h0, F, hs, hD⟩, h2⟩ := h
  exact ⟨D, ⟨es, clock, (hb.block b hB).trans h0, F, hs, hD⟩, h2⟩
theorem MapIs.alloc (h : MapIs P k w b n L) (o : Obj) : MapIs P k (w.alloc o) b n L := h.below ((Below.refl w.heap.size w).alloc (Nat.le_refl _) o) h.lt
theorem look_same {kl : Lit} (hk : WideAt.IsKeyLit kl) (v : Value) : look ((kl, v) :: L) kl = some v := by
  unfold look
  rw [List.find?_cons_of_pos (by exact WideAt.sameKey_self hk)]
  rfl
theorem look_other {kl x : Lit} (h : x ≠ kl) (v : Value) : look ((kl, v) :: L) x = look L x := by
  unfold look
  rw [List.find?_cons_of_neg]
  simp [sameKey_ne h.symm]
theorem IsKeyLit_same {a b : Lit} (h : a.sameKey b = true) : WideAt.IsKeyLit b := by
  cases a <;> cases b <;> simp_all [Lit.sameKey, WideAt.IsKeyLit]
end

section
variable {P : Program} {w : World} {ops : Array Oper} {rest : List Oper} {o : Oper} {a : Act} {Q : Exit → Act → World → Prop} {k e : TypeId} {b n : Nat} {L : List (Lit × Value)}
theorem wpList_put_map (hg : o.guard = none) (m x v : Operand) (t : TypeId) (hop : o.op = Op.mapUpdate t m x v ∨ o.op = Op.insert t m x v) (K : Keyed P k) (ht : P.underlying t = some (.map k e))
    (h : MapIs P k w b n L) (hn : n < maxLen) (hm : a.eval m = .map (some b)) {key val : Value} {kl : Lit} (hx : a.eval x = key) (hv : a.eval v = val) (hkey : keyOf P k key = some kl) (hkl : WideAt.IsKeyLit kl)
    (hK : ∀ w', MapIs P k w' b (n + 1) ((kl, val) :: L) → w.mapTurned w' b → wpList P ops Q rest (a.put o.dst undef) w') : wpList P ops Q (o :: rest) a w := by
  obtain ⟨D, h1, h2, h3⟩ := h
  refine wpList_plain hg fun K' hK' => ?_
  obtain ⟨w', hrun, r1, r2⟩ := h1.store K ht hn hkey (show selfElem val = some (.held val, []) from rfl)
  have hnew : MapIs P k w' b (n + 1) ((kl, val) :: L) := by
    refine ⟨_, r1, h2.put _ _, fun y => ?_⟩
    by_cases hy : y = kl
    · subst hy
      rw [has_put_same h2 hkl, look_same hkl]
      exact ⟨rfl, fun z => atKey_put_same h2 hkl _ _⟩
    · rw [has_put_other hy, look_other hy]
      exact ⟨(h3 y).1, fun z => (atKey_put_other hy _ _).trans ((h3 y).2 z)⟩
  unfold Oper.wp
  rcases hop with hop | hop <;>
  · simp [execOp, hop, hm, hx, hv, hrun, Result.andThen]
    exact hK' _ _ (hK w' hnew r2)

theorem wpList_look_map (hg : o.guard = none) (m x : Operand) (t : TypeId) (hop : o.op = Op.lookup t m x true) (K : Keyed P k) (ht : P.underlying t = some (.map k e)) {z : Value} (hz : (zeroValue e).run P w = .ok z w)
    (h : MapIs P k w b n L) (hm : a.eval m = .map (some b)) {key : Value} {kl : Lit} (hx : a.eval x = key) (hkey : keyOf P k key = some kl)
    (hK : wpList P ops Q rest (a.put o.dst (.tuple #[(look L kl).getD z, .bool (look L kl).isSome])) w) : wpList P ops Q (o :: rest) a w := by
  obtain ⟨D, h1, h2, h3⟩ := h
  refine wpList_lookup_own_ok w hg m x t hop k e K ht selfElem hz (.held z) [] rfl b n D hm h1 key kl hx hkey fun v ps hv => ?_
  rw [(h3 kl).2 z] at hv
  simp only [selfElem, Option.some.injEq, Prod.mk.injEq, DataW.held.injEq] at hv
  rw [hv.1, (h3 kl).1]
  exact hK
end
/-- The map's entries are new: what lay below is as it was. -/
theorem below_turned {B b : Nat} {w w' w'' : World} (h : Below B w w') (ht : w'.mapTurned w'' b) (hb : B ≤ b) : Below B w w'' := by
  have hg := ht.grown
  have hlt : b < w'.heap.size := by
    obtain ⟨es, _, _, _, h0, _⟩ := ht
    exact (Array.getElem?_eq_some_iff.1 h0).1
  exact ⟨hg.os.trans h.os, hg.tape.trans h.tape, hg.output.trans h.output, Nat.le_trans h.size hg.size, fun i hi => (hg.block i (by omega) (fun e => by simp only [Option.some.injEq] at e; omega)).trans (h.block i hi)⟩
section
variable {P : Program} {k e : TypeId} {w w' : World} {b n : Nat} {L : List (Lit × Value)}
/-- A look-up that asks for the element alone. -/
theorem MapIs.look_one {t : TypeId} (h : MapIs P k w b n L) (K : Keyed P k) (ht : P.underlying t = some (.map k e)) {z : Value} (hz : (zeroValue e).run P w = .ok z w) {key : Value} {kl : Lit} (hkey : keyOf P k key = some kl) :
    (Instr.lookup t (.map (some b)) key false).run P w = .ok ((look L kl).getD z) w := by
  obtain ⟨D, h1, h2, h3⟩ := h
  obtain ⟨v, ps, hrun, hv⟩ := h1.lookup K ht hz (show selfElem z = some (.held z, []) from rfl) hkey
  rw [(h3 kl).2 z] at hv
  simp only [selfElem, Option.some.injEq, Prod.mk.injEq, DataW.held.injEq] at hv
  rw [hrun, hv.1]
theorem exec_look_one {o : Oper} {a : Act} {m x : Operand} {t : TypeId} (hop : o.op = Op.lookup t m x false) (h : MapIs P k w b n L) (K : Keyed P k) (ht : P.underlying t = some (.map k e)) {z : Value} (hz : (zeroValue e).run P w = .ok z w)
    (hm : a.eval m = .map (some b)) {key : Value} (hx : a.eval x = key) {kl : Lit} (hkey : keyOf P k key = some kl) : (execOp a.eval o).run P w = .ok (.value ((look L kl).getD z)) w := by
  unfold execOp
  simp only [hop, hm, hx, Sem.run_bind, Sem.run_pure, h.look_one K ht hz hkey, Result.andThen_ok]
theorem MapIs.same (h : MapIs P k w b n L) (hk : w'.heap[b]? = w.heap[b]?) : MapIs P k w' b n L := by
  obtain ⟨D, ⟨es, clock, h0, F, hs, hD⟩, h2⟩ := h
  exact ⟨D, ⟨es, clock, hk.trans h0, F, hs, hD⟩, h2⟩
/-- No cell lies in a map's block. -/
theorem MapIs.cell_none (h : MapIs P k w b n L) {a : Addr} {u : Value} (hu : w.cell? a = some u) : a.block ≠ b := by
  rintro rfl
  obtain ⟨D, ⟨es, clock, h0, _⟩, _⟩ := h
  simp [World.cell?, h0] at hu
theorem MapIs.ne_block (h : MapIs P k w b n L) {g : Nat} {cs : Array Value} {t : TypeId} {fr : Nat × Nat} (hu : w.heap[g]? = some (.cells cs t fr)) : g ≠ b := by
  rintro rfl
  obtain ⟨D, ⟨es, clock, h0, _⟩, _⟩ := h
  rw [hu] at h0
  cases h0
end
/-- .. at an operation. -/
theorem wp_put_map {P : Program} {w : World} {o : Oper} {a : Act} {K' : Act → World → Prop} {Q : Exit → Act → World → Prop} {k e : TypeId} {b n : Nat} {L : List (Lit × Value)} (m x v : Operand) (t : TypeId) (hop : o.op = Op.mapUpdate t m x v) (K : Keyed P k) (ht : P.underlying t = some (.map k e))
    (h : MapIs P k w b n L) (hn : n < maxLen) (hm : a.eval m = .map (some b)) {key val : Value} {kl : Lit} (hx : a.eval x = key) (hv : a.eval v = val) (hkey : keyOf P k key = some kl) (hkl : WideAt.IsKeyLit kl)
    (hK : ∀ w', MapIs P k w' b (n + 1) ((kl, val) :: L) → w.mapTurned w' b → K' (a.put o.dst undef) w') : o.wp P a w K' Q := by
  obtain ⟨D, h1, h2, h3⟩ := h
  obtain ⟨w', hrun, r1, r2⟩ := h1.store K ht hn hkey (show selfElem val = some (.held val, []) from rfl)
  have hnew : MapIs P k w' b (n + 1) ((kl, val) :: L) := by
    refine ⟨_, r1, h2.put _ _, fun y => ?_⟩
    by_cases hy : y = kl
    · subst hy
      rw [has_put_same h2 hkl, look_same hkl]
      exact ⟨rfl, fun z => atKey_put_same h2 hkl _ _⟩
    · rw [has_put_other hy, look_other hy]
      exact ⟨(h3 y).1, fun z => (atKey_put_other hy _ _).trans ((h3 y).2 z)⟩
  unfold Oper.wp
  simp [execOp, hop, hm, hx, hv, hrun, Result.andThen]
  exact hK w' hnew r2
end Go.Proofs.YtejhnfeligifgaaDoor
