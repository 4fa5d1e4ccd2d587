/- Layer 16 over plain values: processes, their lives; objects in memory that have these values. -/
import Derived.Test.YtdglcpepgodcpaaDoorPvMath
import Derived.Test.YtdglcpepgodcpaaDoorProcessManyM
namespace Go.Proofs.YtdglcpepgodcpaaDoor
open Go.RowKit

namespace Ko
/-- A process. -/
def Proc (k : Ko) : Prop := k.ob.Proc k.cont
instance (k : Ko) : Decidable k.Proc := by unfold Proc; infer_instance
/-- Nothing but the process. -/
def onlyp (k : Ko) : Ko := { zero with id := k.id, kind := 1, state := k.state, parent := k.parent, children := k.children, code := k.code, strs := k.strs, ppages := k.ppages, cpu := k.cpu, pages := k.pages, table := k.table, pending := k.pending, alarm := k.alarm, status := k.status }
theorem Proc.only {k : Ko} (h : k.Proc) : k.onlyp = k := by
  obtain ⟨h1, _, h3, h4, _⟩ := pv_proc_iff.1 h
  obtain ⟨id, kind, refs, state, parent, children, code, strs, ppages, cpu, pages, table, pending, alarm, status, words, data, offset, target, readers, writers, backlog, q0, q1, e0, e1, count, names⟩ := k
  simp only [Ko.ob, Ob.Counts, Ob.Listless, Ob.Contents, List.length_eq_zero_iff, List.cons.injEq, and_true] at h1 h3 h4
  obtain ⟨rfl, rfl, rfl, rfl, rfl, ⟨rfl, rfl⟩, rfl⟩ := h3
  obtain ⟨rfl, rfl, rfl, rfl, rfl, rfl⟩ := h4
  subst h1
  rfl
/-- What the contracts ask of a value. -/
structure Fit (k : Ko) : Prop where
  lists : k.cont.ShortP
  strs : ∀ x ∈ k.strs, x.length ≤ 9223372036854775807
  pending : -9223372036854775808 ≤ k.pending ∧ k.pending ≤ 9223372036854775807
end Ko
section
variable {w : World} {B : Nat} {o : Ob} {k : Ko}
theorem IsKo.proc_iff (h : IsKo w B o k) : o.Proc k.cont ↔ k.Proc := by
  unfold Ko.Proc
  rw [h.ob]
  exact Iff.rfl
theorem IsKo.procIn (h : IsKo w B o k) (f : k.Fit) : o.ProcIn k.cont := by
  have e : k.pending = o.pending := by rw [← h.eq]; rfl
  have hc := h.held.code.len
  have hs := h.held.strs.len
  have f1 := f.lists.2.1
  have f2 := f.lists.2.2.1
  exact ⟨h.caps.kids, h.caps.pages, h.caps.table, e ▸ f.pending, by omega, by omega, f.strs⟩
theorem IsKo.state (h : IsKo w B o k) : k.state = o.state := by rw [← h.eq]; rfl
theorem IsKo.parent (h : IsKo w B o k) : k.parent = o.parent := by rw [← h.eq]; rfl
theorem IsKo.status (h : IsKo w B o k) : k.status = o.status := by rw [← h.eq]; rfl
theorem IsKo.kidsLen (h : IsKo w B o k) : k.children.length = o.children.n := h.held.children.len
end
/-- What a call gives: an object and an error; with a bool, a number, an object between. -/
def KoErr (r : Ko × Int) (w : World) (e : Ending) (w' : World) : Prop := ∃ a, e = .returned (.tuple #[.agg (oc a), .int .i64 r.2]) ∧ IsKo w' w'.heap.size a r.1 ∧ Below w.heap.size w w'
def KoBoolErr (r : Ko × Bool × Int) (w : World) (e : Ending) (w' : World) : Prop := ∃ a, e = .returned (.tuple #[.agg (oc a), .bool r.2.1, .int .i64 r.2.2]) ∧ IsKo w' w'.heap.size a r.1 ∧ Below w.heap.size w w'
def KoNumErr (r : Ko × Int × Int) (w : World) (e : Ending) (w' : World) : Prop := ∃ a, e = .returned (.tuple #[.agg (oc a), .int .i64 r.2.1, .int .i64 r.2.2]) ∧ IsKo w' w'.heap.size a r.1 ∧ Below w.heap.size w w'
def KoKoErr (r : Ko × Ko × Int) (w : World) (e : Ending) (w' : World) : Prop := ∃ a b, e = .returned (.tuple #[.agg (oc a), .agg (oc b), .int .i64 r.2.2]) ∧ IsKo w' w'.heap.size a r.1 ∧ IsKo w' w'.heap.size b r.2.1 ∧ Below w.heap.size w w'
theorem KoErr.of {r : Ko × Int} {k : Ko} {x : Int} {a : Ob} {w w' : World} {e : Ending} (hr : r = (k, x)) (he : e = .returned (.tuple #[.agg (oc a), .int .i64 x])) (hk : IsKo w' w'.heap.size a k) (hb : Below w.heap.size w w') : KoErr r w e w' := by subst hr; exact ⟨a, he, hk, hb⟩
theorem KoBoolErr.of {r : Ko × Bool × Int} {k : Ko} {b : Bool} {x : Int} {a : Ob} {w w' : World} {e : Ending} (hr : r = (k, b, x)) (he : e = .returned (.tuple #[.agg (oc a), .bool b, .int .i64 x])) (hk : IsKo w' w'.heap.size a k) (hb : Below w.heap.size w w') : KoBoolErr r w e w' := by subst hr; exact ⟨a, he, hk, hb⟩
theorem KoNumErr.of {r : Ko × Int × Int} {k : Ko} {n x : Int} {a : Ob} {w w' : World} {e : Ending} (hr : r = (k, n, x)) (he : e = .returned (.tuple #[.agg (oc a), .int .i64 n, .int .i64 x])) (hk : IsKo w' w'.heap.size a k) (hb : Below w.heap.size w w') : KoNumErr r w e w' := by subst hr; exact ⟨a, he, hk, hb⟩
theorem KoKoErr.of {r : Ko × Ko × Int} {k l : Ko} {x : Int} {a b : Ob} {w w' : World} {e : Ending} (hr : r = (k, l, x)) (he : e = .returned (.tuple #[.agg (oc a), .agg (oc b), .int .i64 x])) (hk : IsKo w' w'.heap.size a k) (hl : IsKo w' w'.heap.size b l) (hb : Below w.heap.size w w') : KoKoErr r w e w' := by subst hr; exact ⟨a, b, he, hk, hl, hb⟩
/-- .. an object with lists of the call's own. -/
def KoNumOwn (r : Ko × Int × Int) (w : World) (e : Ending) (w' : World) : Prop := ∃ a, e = .returned (.tuple #[.agg (oc a), .int .i64 r.2.1, .int .i64 r.2.2]) ∧ IsKo w' w'.heap.size a r.1 ∧ Below w.heap.size w w' ∧ Owns w' w.heap.size a r.1.cont
def KoKoOwn (r : Ko × Ko × Int) (w : World) (e : Ending) (w' : World) : Prop := ∃ a b, e = .returned (.tuple #[.agg (oc a), .agg (oc b), .int .i64 r.2.2]) ∧ IsKo w' w'.heap.size a r.1 ∧ IsKo w' w'.heap.size b r.2.1 ∧ Below w.heap.size w w' ∧ Owns w' w.heap.size a r.1.cont
theorem KoNumOwn.of {r : Ko × Int × Int} {k : Ko} {n x : Int} {a : Ob} {w w' : World} {e : Ending} (hr : r = (k, n, x)) (he : e = .returned (.tuple #[.agg (oc a), .int .i64 n, .int .i64 x])) (hk : IsKo w' w'.heap.size a k) (hb : Below w.heap.size w w') (ho : Owns w' w.heap.size a k.cont) : KoNumOwn r w e w' := by subst hr; exact ⟨a, he, hk, hb, ho⟩
theorem KoKoOwn.of {r : Ko × Ko × Int} {k l : Ko} {x : Int} {a b : Ob} {w w' : World} {e : Ending} (hr : r = (k, l, x)) (he : e = .returned (.tuple #[.agg (oc a), .agg (oc b), .int .i64 x])) (hk : IsKo w' w'.heap.size a k) (hl : IsKo w' w'.heap.size b l) (hb : Below w.heap.size w w') (ho : Owns w' w.heap.size a k.cont) : KoKoOwn r w e w' := by subst hr; exact ⟨a, b, he, hk, hl, hb, ho⟩
theorem KoNumOwn.err {r : Ko × Int × Int} {w w' : World} {e : Ending} (h : KoNumOwn r w e w') : KoNumErr r w e w' := by obtain ⟨a, h1, h2, h3, _⟩ := h; exact ⟨a, h1, h2, h3⟩
theorem KoKoOwn.err {r : Ko × Ko × Int} {w w' : World} {e : Ending} (h : KoKoOwn r w e w') : KoKoErr r w e w' := by obtain ⟨a, b, h1, h2, h3, h4, _⟩ := h; exact ⟨a, b, h1, h2, h3, h4⟩
theorem Owns.zero (w : World) (lo : Nat) : Owns w lo Ob.zero Ko.zero.cont := ⟨own_none, own_none, own_none, own_none, own_none⟩
/-- A new process. -/
def Ko.newp (id : Int) (C : List Cd.Ins) (Z : List (List UInt8)) (pp : Int) (ids : List Int) : Ko := { Ko.zero with id := id, kind := 1, state := 1, code := C, strs := Z, ppages := pp, pages := ids.map fun i => ⟨i, false⟩ }
def kNew (id : Int) (C : List Cd.Ins) (Z : List (List UInt8)) (pp : Int) (ids : List Int) : Ko × Int :=
  if (Cd.check ⟨C, Z, pp⟩).2 ≠ 0 ∨ id = 0 then (Ko.zero, 1) else if (ids.length : Int) ≠ pp then (Ko.zero, 2) else if (Ko.newp id C Z pp ids).Proc then (Ko.newp id C Z pp ids, 0) else (Ko.zero, 1)
/-- What stands against a fork, but for the pages. -/
def kForkChk (k : Ko) (id : Int) : Int := if ¬ k.Proc then 1 else if k.state ≠ 1 then 8 else if 32 ≤ k.children.length then 3 else if id ≠ 0 ∧ id ≠ k.id ∧ id ∉ k.children then 0 else 1
def kForkErr (k : Ko) (id : Int) (ids : List Int) : Int := if kForkChk k id ≠ 0 then kForkChk k id else (Sp.replace k.pages ids).2
def Ko.parentOf (k : Ko) (id : Int) : Ko := { k with children := k.children ++ [id] }
def Ko.childOf (k : Ko) (id : Int) (ids : List Int) : Ko := { Ko.zero with id := id, kind := 1, state := k.state, parent := k.id, code := k.code, strs := k.strs, ppages := k.ppages, cpu := k.cpu, pages := (Sp.replace k.pages ids).1, table := k.table }
def kFork (k : Ko) (id : Int) (ids : List Int) : Ko × Ko × Int := if kForkErr k id ids = 0 then (k.parentOf id, k.childOf id ids, 0) else (Ko.zero, Ko.zero, kForkErr k id ids)
/-- What is left of a process that ends. -/
def Ko.zombie (k : Ko) (status : Int) : Ko := { Ko.zero with id := k.id, kind := 1, state := 3, parent := k.parent, status := status }
def kEnd (k : Ko) (status : Int) : Ko × Bool × Int := if ¬ k.Proc then (Ko.zero, false, 1) else if k.state = 3 then (Ko.zero, false, 8) else if k.parent = 0 then (Ko.zero, true, 0) else (k.zombie status, false, 0)
/-- .. of an orphan. -/
def kOrphan (k : Ko) : Ko × Bool × Int := if ¬ k.Proc then (Ko.zero, false, 1) else if k.parent = 0 then (Ko.zero, false, 8) else if k.state = 3 then (Ko.zero, true, 0) else ({ k with parent := 0 }, false, 0)
/-- .. of a parent that has asked for a child. -/
def Ko.without (k : Ko) (id : Int) : Ko := { k with children := k.children.filter fun c => c != id }
def kReap (k c : Ko) : Ko × Int × Int := if ¬ (k.Proc ∧ c.Proc) then (Ko.zero, 0, 1) else if c.id ∉ k.children ∨ c.parent ≠ k.id then (Ko.zero, 0, 14) else if c.state ≠ 3 then (Ko.zero, 0, 12) else (k.without c.id, c.status, 0)
/-- Each child once: erasing one is leaving it out. -/
theorem Ko.Proc.kids {k : Ko} (h : k.Proc) : k.children.length ≤ 32 ∧ (∀ c ∈ k.children, c ≠ 0 ∧ c ≠ k.id) ∧ k.children.Nodup := by
  obtain ⟨_, _, _, _, _, ⟨h1, h2, h3⟩, _⟩ := pv_proc_iff.1 h
  have e : k.cont.children.take k.ob.children.n = k.children := List.take_of_length_le (Nat.le_refl _)
  rw [e] at h2 h3
  exact ⟨h1, h2, h3⟩
theorem erase_filter {l : List Int} (hn : l.Nodup) {i : Nat} (hi : i < l.length) {x : Int} (hx : l[i] = x) : l.eraseIdx i = l.filter fun c => c != x := by
  rw [List.eraseIdx_eq_take_drop_succ]
  have hl : l = l.take i ++ (x :: l.drop (i + 1)) := by
    conv => lhs; rw [← List.take_append_drop i l, List.drop_eq_getElem_cons hi, hx]
  have hn2 := hn
  rw [hl] at hn2
  obtain ⟨_, h2, h3⟩ := List.nodup_append.1 hn2
  have h4 := (List.nodup_cons.1 h2).1
  conv => rhs; rw [hl]
  rw [List.filter_append, List.filter_cons]
  simp only [bne_self_eq_false, Bool.false_eq_true, if_false]
  rw [List.filter_eq_self.2, List.filter_eq_self.2]
  · intro a ha; simp; rintro rfl; exact h4 ha
  · intro a ha; simp; rintro rfl; exact h3 a ha a (List.mem_cons_self) rfl
end Go.Proofs.YtdglcpepgodcpaaDoor
