/- Layer 10, package table: copied: a contract. (Written by tools/mktbcopied.py.) -/
import Derived.Test.YthaolmcppfjedaaTbProc
import Derived.Test.YthaolmcppfjedaaQMem
namespace Go.Proofs.Ythaolmcppfjedaa
open Go.RowKit

theorem pcs_size (c : Ob) : (pcell c).size = 20 := rfl
theorem oc_size (c : Ob) : (oc c).size = 36 := rfl
theorem store_procMid {ops : Array Oper} {rest : List Oper} {o : Oper} {a : Act} {w : World} {Q : Exit → Act → World → Prop} (hgd : o.guard = none) (x y : Operand) (ho : o.op = .store 34 x y) {g : Nat} (hx : a.eval x = .pointer (some ⟨g, 3, none⟩)) {c y' : Ob} (hy : a.eval y = .agg (pcell c)) {t : TypeId} (h : Obl w g t (oc y'))
    (hK : wpList Try.prog ops Q rest (a.put o.dst undef) (w.setCells g 3 (pcs c))) : wpList Try.prog ops Q (o :: rest) a w :=
  wpList_store_mid hgd _ x y ho g 3 (pcell c) hx hy (obl_there h (by rw [pcs_size, oc_size]; omega)) procSize (pcell_one c) hK
theorem Fr.set_above {lo g : Nat} {w w' : World} (h : Fr lo w w') (hg : w.heap.size ≤ g) (i : Nat) (v : Value) : Fr lo w (w'.setCell ⟨g, i, none⟩ v) :=
  ⟨by simpa [World.setCell] using h.1, fun k h1 h2 => by
    have : ¬ g = k := by omega
    simpa [World.setCell, Array.getElem?_modify, this] using h.2 k h1 h2⟩
theorem nmv_set (l : List Nm) (k : Nat) (h : k < l.length) (s : Sl) : (nmv l).set (k * 3 + 2) (.slice s.A s.n s.c) = nmv (l.set k ⟨l[k].path, l[k].kind, s⟩) := by
  induction l generalizing k with
  | nil => simp at h
  | cons a l ih =>
    rcases k with _ | k
    · simp [nmv, nmc]
    · have := ih k (by simpa using h)
      rw [List.set_cons_succ, nmv_cons, nmv_cons]
      simp only [List.getElem_cons_succ]
      rw [← this]
      simp only [nmc, List.cons_append, List.nil_append, show (k + 1) * 3 + 2 = (k * 3 + 2) + 1 + 1 + 1 by omega, List.set_cons_succ]
/-- The entries of a row of the call's own, the first k of them with identifiers of their own. -/
structure NmAt (w : World) (base lo : Nat) (A : Option Addr) (n c : Nat) (l : List Nm) (E : List Nx.Ent) (k : Nat) (L : List Nm) : Prop where
  len : L.length = n
  row : w.ownsRow base 54 3 (.slice A n c) n (nmv L)
  ids : Stays lo w (fun u => ∀ j (h : j < L.length) (h' : j < E.length), j < k → Nums .u64 u u.heap.size L[j].ids.A L[j].ids.n E[j].ids)
  old : ∀ j (h : j < L.length) (h2 : j < l.length), k ≤ j → L[j] = l[j]
  same : ∀ j (h : j < L.length) (h' : j < E.length), L[j].path = E[j].path ∧ L[j].kind = E[j].kind
theorem NmAt.carry {w w' : World} {base lo n c k : Nat} {A : Option Addr} {l L : List Nm} {E : List Nx.Ent} (h : NmAt w base lo A n c l E k L) (hb : Below w.heap.size w w') : NmAt w' base lo A n c l E k L :=
  ⟨h.len, own_below h.row hb, h.ids.next (Fr.below hb), h.old, h.same⟩
/-- Entry k's identifiers are laid anew. -/
theorem NmAt.step {w : World} {base lo n c k g : Nat} {l L : List Nm} {E : List Nx.Ent} {s : Sl} (h : NmAt w base lo (some ⟨g, 0, none⟩) n c l E k L) (hk : k < L.length) (hg : g < lo) (hs : ∀ h' : k < E.length, Stays lo w (fun u => Nums .u64 u u.heap.size s.A s.n E[k].ids)) :
    NmAt (w.setCell ⟨g, k * 3 + 2, none⟩ (.slice s.A s.n s.c)) base lo (some ⟨g, 0, none⟩) n c l E (k + 1) (L.set k ⟨L[k].path, L[k].kind, s⟩) := by
  refine ⟨by simpa using h.len, by rw [← nmv_set L k hk s]; exact own_set h.row _, ?_, ?_, ?_⟩
  · intro u hu j h1 h2 h3
    have hf : Fr lo w u := (Fr.put hg _ _).trans hu
    rw [List.length_set] at h1
    by_cases e : j = k
    · subst e
      rw [List.getElem_set_self]
      exact hs h2 u hf
    · rw [List.getElem_set_ne (Ne.symm e)]
      exact h.ids u hf j h1 h2 (by omega)
  · intro j h1 h2 h3
    rw [List.length_set] at h1
    rw [List.getElem_set_ne (by omega)]
    exact h.old j h1 h2 (by omega)
  · intro j h1 h2
    rw [List.length_set] at h1
    by_cases e : j = k
    · subst e
      rw [List.getElem_set_self]
      exact h.same j hk h2
    · rw [List.getElem_set_ne (Ne.symm e)]
      exact h.same j h1 h2
end Go.Proofs.Ythaolmcppfjedaa
