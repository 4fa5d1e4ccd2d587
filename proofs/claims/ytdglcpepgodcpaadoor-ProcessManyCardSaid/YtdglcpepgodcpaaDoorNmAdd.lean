/- The reference of name spaces: Find: a contract (exact since round 8). | The reference of name spaces: insert: a contract (written by tools/mknmadd.py). | The reference of name spaces: Add: a contract (exact since round 8). -/
import Derived.Test.YtdglcpepgodcpaaDoorNmValid
namespace Go.Proofs.YtdglcpepgodcpaaDoor
open Go.RowKit

/-- Some entry, and some answer. -/
def FindPost (w : World) (e : Ending) (w' : World) : Prop := ∃ y v, e = .returned (.tuple #[.agg (nc y), .bool v]) ∧ Below w.heap.size w w'
/-- What is found. -/
def Ob.found (o : Ob) (E : List Nx.Ent) (p : List UInt8) : Option Nx.Ent := if o.Names E then Nx.find E p else none
/-- An entry of its own that holds x, or the zero entry. -/
def FindIs (r : Option Nx.Ent) (w : World) (e : Ending) (w' : World) : Prop :=
  ((∃ (y : Nm) (x : Nx.Ent), r = some x ∧ e = .returned (.tuple #[.agg (nc y), .bool true]) ∧ y.path = x.path ∧ y.kind = x.kind ∧ w'.ownsRow w.heap.size 24 1 (.slice y.ids.A y.ids.n y.ids.c) y.ids.n (nv .u64 x.ids)) ∨
    (r = none ∧ e = .returned (.tuple #[.agg (nc ⟨[], 0, ⟨none, 0, 0⟩⟩), .bool false]))) ∧ Below w.heap.size w w'
theorem FindIs.post {r : Option Nx.Ent} {w w' : World} {e : Ending} (h : FindIs r w e w') : FindPost w e w' := by
  rcases h with ⟨⟨y, x, _, he, _⟩ | ⟨_, he⟩, hb⟩
  · exact ⟨y, true, he, hb⟩
  · exact ⟨_, false, he, hb⟩
theorem nc_zero : nc ⟨[], 0, ⟨none, 0, 0⟩⟩ = #[.string ⟨#[]⟩, .int .i64 0, .slice none 0 0] := rfl
end Go.Proofs.YtdglcpepgodcpaaDoor
namespace Go.Proofs.YtdglcpepgodcpaaDoor
open Go.RowKit

theorem nmTy : ElemTy Tryd.prog 40 123 3 48 := by
  obtain ⟨i0, hi, hz0, hz1, hz2⟩ := info_parts (show (Tryd.prog.info? 123).map (fun i => (i.zero, i.size, i.bytes)) = some (some (.agg #[.string ⟨#[]⟩, .int .i64 0, .slice none 0 0]), 3, 48) by kernel_rfl)
  exact ⟨i0, _, Tryd.underlying40, hi, hz0, hz1, hz2, rfl, by omega⟩
theorem Row.three (w : World) (x : Nm) (t : TypeId) : Row (w.alloc (.cells #[.string ⟨x.path.toArray⟩, .int .i64 x.kind, .slice x.ids.A x.ids.n x.ids.c] t)) (w.heap.size + 1) 3 (some ⟨w.heap.size, 0, none⟩) 1 [.string ⟨x.path.toArray⟩, .int .i64 x.kind, .slice x.ids.A x.ids.n x.ids.c] :=
  ⟨by simp, by simp, (Row.list w [.string ⟨x.path.toArray⟩, .int .i64 x.kind, .slice x.ids.A x.ids.n x.ids.c] t).rd⟩
theorem nmv_snoc (l : List Nm) (x : Nm) : nmv l ++ [.string ⟨x.path.toArray⟩, .int .i64 x.kind, .slice x.ids.A x.ids.n x.ids.c] = nmv (l ++ [x]) := by rw [nmv_append]; rfl
theorem own_nmv {w : World} {base n : Nat} {e : TypeId} {v : Value} {l : List Nm} (h : w.ownsRow base e 3 v n (nmv l)) : l.length = n := by have := h.1; rw [nmv_length] at this; omega
/-- What the list of entries is while it is made: short entries in rows of the call's own. -/
structure NmOut (w : World) (base : Nat) (A : Option Addr) (n c : Nat) (l : List Nm) : Prop where
  own : OwnNms w base A n c l
  short : Short l
  base_le : base ≤ w.heap.size
theorem NmOut.later {w w' : World} {base n c : Nat} {A : Option Addr} {l : List Nm} (h : NmOut w base A n c l) (hb : Below w.heap.size w w') : NmOut w' base A n c l := ⟨h.own.keep (keep_below hb), h.short, Nat.le_trans h.base_le hb.size⟩
/-- One more entry: its identifiers' row, the new block, the append. -/
theorem NmOut.more {w w2 w3 : World} {base n c n3 c3 : Nat} {A A3 : Option Addr} {l : List Nm} {x : Nm} (h : NmOut w base A n c l) (hb : Below w.heap.size w w2) (hx : x.path.length ≤ 1000 ∧ x.ids.n ≤ 1000) (hI : ∃ I, w2.ownsRow base 24 1 (.slice x.ids.A x.ids.n x.ids.c) x.ids.n (nv .u64 I)) (cells : Array Value)
    (hown : w3.ownsRow base 123 3 (.slice A3 n3 c3) n3 (nmv (l ++ [x]))) (hg : (w2.alloc (.cells cells 123)).grownBy w3 (blk A)) : NmOut w3 base A3 n3 c3 (l ++ [x]) := by
  have hA : (w2.alloc (.cells cells 123)).ownsRow base 123 3 (.slice A n c) n (nmv l) := (own_keep h.own.1 (keep_below hb)).alloc _
  refine ⟨⟨hown, fun y hy => ?_⟩, fun y hy => ?_, ?_⟩
  · rcases List.mem_append.1 hy with hy | hy
    · obtain ⟨I, hI⟩ := h.own.2 y hy
      have h1 := (own_keep hI (keep_below hb)).alloc (.cells cells 123)
      exact ⟨I, h1.kept hg (own_apart h1 hA (by decide))⟩
    · simp only [List.mem_singleton] at hy
      subst hy
      obtain ⟨I, hI⟩ := hI
      have h1 := hI.alloc (.cells cells 123)
      exact ⟨I, h1.kept hg (own_apart h1 hA (by decide))⟩
  · rcases List.mem_append.1 hy with hy | hy
    · exact h.short y hy
    · simp only [List.mem_singleton] at hy
      subst hy
      exact hx
  · have h1 := hg.size
    have h2 := hb.size
    have h3 := h.base_le
    simp at h1
    omega
/-- Entries in memory hold F. -/
def Has (w : World) (base : Nat) (l : List Nm) (F : List Nx.Ent) : Prop := F.length = l.length ∧ ∀ (k : Nat) (h : k < l.length) (h' : k < F.length), l[k].path = F[k].path ∧ l[k].kind = F[k].kind ∧ w.ownsRow base 24 1 (.slice l[k].ids.A l[k].ids.n l[k].ids.c) l[k].ids.n (nv .u64 F[k].ids)
/-- The list of entries while it is made, and what it holds. -/
structure NmOutE (w : World) (base : Nat) (A : Option Addr) (n c : Nat) (l : List Nm) (F : List Nx.Ent) : Prop where
  own : OwnNms w base A n c l
  short : Short l
  base_le : base ≤ w.heap.size
  has : Has w base l F
theorem NmOutE.plain {w : World} {base n c : Nat} {A : Option Addr} {l : List Nm} {F : List Nx.Ent} (h : NmOutE w base A n c l F) : NmOut w base A n c l := ⟨h.own, h.short, h.base_le⟩
theorem Has.keep {w w' : World} {base : Nat} {l : List Nm} {F : List Nx.Ent} (h : Has w base l F) (hk : ∀ g, base ≤ g → g < w.heap.size → w'.heap[g]? = w.heap[g]?) : Has w' base l F := ⟨h.1, fun k h1 h2 => ⟨(h.2 k h1 h2).1, (h.2 k h1 h2).2.1, own_keep (h.2 k h1 h2).2.2 hk⟩⟩
theorem NmOutE.keep {w w' : World} {base n c : Nat} {A : Option Addr} {l : List Nm} {F : List Nx.Ent} (h : NmOutE w base A n c l F) (hk : ∀ g, base ≤ g → g < w.heap.size → w'.heap[g]? = w.heap[g]?) (hs : w.heap.size ≤ w'.heap.size) : NmOutE w' base A n c l F := ⟨h.own.keep hk, h.short, Nat.le_trans h.base_le hs, h.has.keep hk⟩
theorem NmOutE.later {w w' : World} {base n c : Nat} {A : Option Addr} {l : List Nm} {F : List Nx.Ent} (h : NmOutE w base A n c l F) (hb : Below w.heap.size w w') : NmOutE w' base A n c l F := h.keep (keep_below hb) hb.size
theorem NmOutE.more {w w2 w3 : World} {base n c n3 c3 : Nat} {A A3 : Option Addr} {l : List Nm} {F : List Nx.Ent} {x : Nm} {I : List Int} (h : NmOutE w base A n c l F) (hb : Below w.heap.size w w2) (hx : x.path.length ≤ 1000 ∧ x.ids.n ≤ 1000) (hI : w2.ownsRow base 24 1 (.slice x.ids.A x.ids.n x.ids.c) x.ids.n (nv .u64 I)) (cells : Array Value)
    (hown : w3.ownsRow base 123 3 (.slice A3 n3 c3) n3 (nmv (l ++ [x]))) (hg : (w2.alloc (.cells cells 123)).grownBy w3 (blk A)) : NmOutE w3 base A3 n3 c3 (l ++ [x]) (F ++ [⟨x.path, x.kind, I⟩]) := by
  have hp := h.plain.more hb hx ⟨I, hI⟩ cells hown hg
  have hA : (w2.alloc (.cells cells 123)).ownsRow base 123 3 (.slice A n c) n (nmv l) := (own_keep h.own.1 (keep_below hb)).alloc _
  have hl := h.has.1
  refine ⟨hp.own, hp.short, hp.base_le, by simp [hl], fun k h1 h2 => ?_⟩
  by_cases hk : k < l.length
  · rw [List.getElem_append_left hk, List.getElem_append_left (by omega)]
    obtain ⟨a, b, d⟩ := h.has.2 k hk (by omega)
    have d1 := (own_keep d (keep_below hb)).alloc (.cells cells 123)
    exact ⟨a, b, d1.kept hg (own_apart d1 hA (by decide))⟩
  · have : k = l.length := by simp at h1; omega
    subst this
    rw [List.getElem_append_right (by omega), List.getElem_append_right (by omega)]
    simp only [hl, Nat.sub_self, List.getElem_cons_zero]
    have d1 := hI.alloc (.cells cells 123)
    exact ⟨trivial, trivial, d1.kept hg (own_apart d1 hA (by decide))⟩
/-- Entries, more by some. -/
def InsPost (n : Nat) (w : World) (e : Ending) (w' : World) : Prop := ∃ A' n' c' l', e = .returned (.slice A' n' c') ∧ n' ≤ 2 * n + 1 ∧ NmOut w' (w.heap.size + 1) A' n' c' l' ∧ Below w.heap.size w w'
/-- Entries that hold F. -/
def InsIs (n : Nat) (F : List Nx.Ent) (w : World) (e : Ending) (w' : World) : Prop := ∃ A' n' c' l', e = .returned (.slice A' n' c') ∧ n' ≤ 2 * n + 1 ∧ NmOutE w' (w.heap.size + 1) A' n' c' l' F ∧ Below w.heap.size w w'
end Go.Proofs.YtdglcpepgodcpaaDoor
namespace Go.Proofs.YtdglcpepgodcpaaDoor
open Go.RowKit

/-- The name space with other entries, or nothing and an error. -/
def AddPost (o : Ob) (w : World) (e : Ending) (w' : World) : Prop :=
  (∃ A n c l, e = .returned (.tuple #[.agg (oc { o with names := ⟨A, n, c⟩ }), .int .i64 0]) ∧ n ≤ 2 * o.names.n + 1 ∧ NmOut w' (w.heap.size + 1) A n c l ∧ Below w.heap.size w w') ∨
  (∃ r, r ≠ 0 ∧ e = .returned (.tuple #[.agg (oc Ob.zero), .int .i64 r]) ∧ Below w.heap.size w w')
theorem NmOut.weaken {w : World} {base base' n c : Nat} {A : Option Addr} {l : List Nm} (h : NmOut w base A n c l) (hb : base' ≤ base) : NmOut w base' A n c l :=
  ⟨⟨own_weaken h.own.1 hb, fun x hx => (h.own.2 x hx).imp fun _ h => own_weaken h hb⟩, h.short, Nat.le_trans hb h.base_le⟩
theorem NmOut.keep {w w' : World} {base n c : Nat} {A : Option Addr} {l : List Nm} (h : NmOut w base A n c l) (hk : ∀ g, base ≤ g → g < w.heap.size → w'.heap[g]? = w.heap[g]?) (hs : w.heap.size ≤ w'.heap.size) : NmOut w' base A n c l := ⟨h.own.keep hk, h.short, Nat.le_trans h.base_le hs⟩
theorem Has.weaken {w : World} {base base' : Nat} {l : List Nm} {F : List Nx.Ent} (h : Has w base l F) (hb : base' ≤ base) : Has w base' l F := ⟨h.1, fun k h1 h2 => ⟨(h.2 k h1 h2).1, (h.2 k h1 h2).2.1, own_weaken (h.2 k h1 h2).2.2 hb⟩⟩
theorem NmOutE.weaken {w : World} {base base' n c : Nat} {A : Option Addr} {l : List Nm} {F : List Nx.Ent} (h : NmOutE w base A n c l F) (hb : base' ≤ base) : NmOutE w base' A n c l F := ⟨(h.plain.weaken hb).own, h.short, (h.plain.weaken hb).base_le, h.has.weaken hb⟩
/-- The error of Add. -/
def Ob.addErr (o : Ob) (E : List Nx.Ent) (x : Nx.Ent) : Int := if o.Names E ∧ x.Ok then (if (Nx.find E x.path).isSome then 7 else if 256 ≤ o.names.n then 9 else 0) else 1
/-- The name space with an entry more, or nothing and the error. -/
def AddIs (o : Ob) (E : List Nx.Ent) (x : Nx.Ent) (w : World) (e : Ending) (w' : World) : Prop :=
  (o.addErr E x = 0 ∧ ∃ A n c l, e = .returned (.tuple #[.agg (oc { o with names := ⟨A, n, c⟩ }), .int .i64 0]) ∧ n ≤ 2 * o.names.n + 1 ∧ NmOutE w' (w.heap.size + 1) A n c l (Nx.insertL E x) ∧ Below w.heap.size w w') ∨
  (o.addErr E x ≠ 0 ∧ e = .returned (.tuple #[.agg (oc Ob.zero), .int .i64 (o.addErr E x)]) ∧ Below w.heap.size w w')
theorem AddIs.no {o : Ob} {E : List Nx.Ent} {x : Nx.Ent} {w w' : World} {r : Int} (h : o.addErr E x = r) (hr : r ≠ 0) (hb : Below w.heap.size w w') : AddIs o E x w (.returned (.tuple #[.agg (oc Ob.zero), .int .i64 r])) w' := .inr ⟨by rw [h]; exact hr, by rw [h], hb⟩
theorem AddIs.post {o : Ob} {E : List Nx.Ent} {x : Nx.Ent} {w w' : World} {e : Ending} (h : AddIs o E x w e w') : AddPost o w e w' := by
  rcases h with ⟨_, A, n, c, l, he, hn, hM, hb⟩ | ⟨h0, he, hb⟩
  · exact .inl ⟨A, n, c, l, he, hn, hM.plain, hb⟩
  · exact .inr ⟨_, h0, he, hb⟩
theorem FindIs.yes {r : Option Nx.Ent} {w w' : World} {e : Ending} (h : FindIs r w e w') : ∃ y, e = .returned (.tuple #[.agg (nc y), .bool r.isSome]) ∧ Below w.heap.size w w' := by
  rcases h with ⟨⟨y, x, hr, he, _⟩ | ⟨hr, he⟩, hb⟩
  · exact ⟨y, by rw [he, hr]; rfl, hb⟩
  · exact ⟨_, by rw [he, hr]; rfl, hb⟩
theorem Ob.addErr_0 {o : Ob} {E : List Nx.Ent} {x : Nx.Ent} (h : o.addErr E x = 0) : o.Names E ∧ x.Ok ∧ Nx.find E x.path = none ∧ o.names.n < 256 := by
  unfold Ob.addErr at h
  split at h
  · rename_i h1
    split at h
    · cases h
    · rename_i h2
      split at h
      · cases h
      · exact ⟨h1.1, h1.2, by simpa using h2, by omega⟩
  · cases h
theorem AddIs.parts {o : Ob} {E : List Nx.Ent} {x : Nx.Ent} {w w' : World} {e : Ending} (h : AddIs o E x w e w') :
    (∃ A n c l, e = .returned (.tuple #[.agg (oc { o with names := ⟨A, n, c⟩ }), .int .i64 0]) ∧ n ≤ 2 * o.names.n + 1 ∧ NmOutE w' (w.heap.size + 1) A n c l (Nx.insertL E x) ∧ Below w.heap.size w w' ∧ Nx.Space (Nx.insertL E x)) ∨
    (∃ r, r ≠ 0 ∧ e = .returned (.tuple #[.agg (oc Ob.zero), .int .i64 r]) ∧ Below w.heap.size w w') := by
  rcases h with ⟨h0, A, n, c, l, he, hn, hM, hb⟩ | ⟨h0, he, hb⟩
  · obtain ⟨h1, h2, h3, _⟩ := Ob.addErr_0 h0
    exact .inl ⟨A, n, c, l, he, hn, hM, hb, by rw [Nx.insertL_eq (Nx.asc_of_space h1.2.2.2.1) (Nx.find_none h3)]; exact Nx.insert_space h1.2.2.2.1 h2 h3⟩
  · exact .inr ⟨_, h0, he, hb⟩
theorem NmOutE.ents {w : World} {base n c : Nat} {A : Option Addr} {l : List Nm} {F : List Nx.Ent} (h : NmOutE w base A n c l F) : Ents w w.heap.size A n l F :=
  ⟨h.own.nms, h.has.1.trans h.own.nms.1, fun k h1 h2 => ⟨(h.has.2 k h1 h2).1, (h.has.2 k h1 h2).2.1, Nums.of_own (h.has.2 k h1 h2).2.2⟩⟩
end Go.Proofs.YtdglcpepgodcpaaDoor
