/- Layer 16: which objects are processes; words for the walks. -/
import Derived.Test.YtdglcpepgodcpaaDoorProcessManyM
import Derived.Test.YtdglcpepgodcpaaDoorSpMath
import Derived.Test.YtdglcpepgodcpaaDoorTbMath
import Derived.Test.YtdglcpepgodcpaaDoorCodeMath
namespace Go.Proofs.YtdglcpepgodcpaaDoor
open Go.RowKit

theorem wpList_unmet {P : Program} {ops : Array Oper} {rest : List Oper} {o : Oper} {a : Act} {w : World} {Q : Exit → Act → World → Prop} (hw : Region.wanted o (yielded ops a.tmps) = false) (h : wpList P ops Q rest (a.put o.dst undef) w) : wpList P ops Q (o :: rest) a w := by
  simp only [wpList, hw, Bool.false_eq_true, if_false]
  exact h
/-- Nothing is left but parent and status. -/
def Ob.rest (o : Ob) : Ob := { o.only with state := 0, parent := 0, status := 0 }
def Ob.Zomb (o : Ob) : Prop := o.parent ≠ 0 ∧ o.rest.Clear
instance (o : Ob) : Decidable o.Zomb := by unfold Ob.Zomb; infer_instance
theorem pcell_rest (o : Ob) : pcell o.rest = pcell { o with state := 0, parent := 0, status := 0 } := rfl
/-- Without what a process has. -/
def Ob.unproc (y : Ob) : Ob := { Ob.zero with id := y.id, kind := y.kind, refs := y.refs, words := y.words, data := y.data, offset := y.offset, target := y.target, readers := y.readers, writers := y.writers, backlog := y.backlog, q0 := y.q0, q1 := y.q1, e0 := y.e0, e1 := y.e1, count := y.count, names := y.names }
/-- Identifiers of others, each once: the first k of them. -/
def KidsTo (id : Int) (l : List Int) (k : Nat) : Prop := (∀ c ∈ l.take k, c ≠ 0 ∧ c ≠ id) ∧ (l.take k).Nodup
instance (id : Int) (l : List Int) (k : Nat) : Decidable (KidsTo id l k) := by unfold KidsTo; infer_instance
theorem KidsTo.zero (id : Int) (l : List Int) : KidsTo id l 0 := ⟨by simp, by simp⟩
theorem kidsTo_succ {id : Int} {l : List Int} {k : Nat} (h : k < l.length) : KidsTo id l (k + 1) ↔ KidsTo id l k ∧ l[k] ≠ 0 ∧ l[k] ≠ id ∧ l[k] ∉ l.take k := by
  unfold KidsTo
  rw [List.take_succ_eq_append_getElem h, List.nodup_append]
  constructor
  · rintro ⟨h1, h2, _, h4⟩
    have hm : l[k] ∈ l.take k ++ [l[k]] := List.mem_append_right _ (List.mem_singleton.2 rfl)
    exact ⟨⟨fun c hc => h1 c (List.mem_append_left _ hc), h2⟩, (h1 _ hm).1, (h1 _ hm).2, fun hm => h4 _ hm _ (List.mem_singleton.2 rfl) rfl⟩
  · rintro ⟨⟨h1, h2⟩, h3, h4, h5⟩
    refine ⟨fun c hc => ?_, h2, by simp, fun a ha b hb => ?_⟩
    · rcases List.mem_append.1 hc with hc | hc
      · exact h1 c hc
      · simp only [List.mem_singleton] at hc; subst hc; exact ⟨h3, h4⟩
    · simp only [List.mem_singleton] at hb; subst hb
      rintro rfl
      exact h5 ha
theorem KidsTo.less {id : Int} {l : List Int} {k j : Nat} (h : KidsTo id l k) (hj : j ≤ k) : KidsTo id l j := by
  have hs : (l.take j).Sublist (l.take k) := by
    have : l.take j = (l.take k).take j := by rw [List.take_take, Nat.min_eq_left hj]
    rw [this]; exact List.take_sublist _ _
  exact ⟨fun c hc => h.1 c (hs.subset hc), h.2.sublist hs⟩
/-- A process. -/
def Ob.Proc (o : Ob) (X : Cont) : Prop :=
  (o.kind = 1 ∧ o.id ≠ 0 ∧ o.unproc.Clear ∧ 1 ≤ o.state ∧ o.state ≤ 3 ∧ o.parent ≠ o.id ∧ o.children.n ≤ 32) ∧ KidsTo o.id X.children o.children.n ∧ (Cd.check ⟨X.code, X.strs, o.ppages⟩).2 = 0 ∧
  (Sp.Ok X.pages ∧ Tb.Valid X.table ∧ sgValid o.pending ∧ 0 ≤ o.alarm ∧ o.alarm ≤ 1073741824 ∧ (o.state = 1 → o.status = 0) ∧ (o.state = 3 → o.Zomb))
instance (o : Ob) (X : Cont) : Decidable (o.Proc X) := by unfold Ob.Proc; infer_instance
/-- What of a process in memory its contract asks for. -/
structure Ob.ProcIn (o : Ob) (X : Cont) : Prop where
  kids : o.children.n ≤ o.children.c ∧ o.children.c ≤ 9223372036854775807
  pages : o.pages.n ≤ o.pages.c ∧ o.pages.c ≤ 9223372036854775807
  table : o.table.n ≤ o.table.c ∧ o.table.c ≤ 9223372036854775807
  pending : -9223372036854775808 ≤ o.pending ∧ o.pending ≤ 9223372036854775807
  code : o.code.n ≤ 9223372036854775807
  strs : o.strs.n ≤ 9223372036854775807 ∧ ∀ x ∈ X.strs, x.length ≤ 9223372036854775807
theorem kidSizeOf (w : World) : (sizeOf (Tryd.prog.elem 25)).run Tryd.prog w = .ok 1 w := by kernel_rfl
theorem kidElem : Tryd.prog.underlying 25 = some (.slice (Tryd.prog.elem 25)) := by kernel_rfl
theorem exec_slice_k {o : Oper} {act : Act} {w : World} {x hi : Operand} (ho : o.op = .slice 25 x none (some hi) none) {A : Option Addr} {n c i : Nat} (hx : act.eval x = .slice A n c) (hh : act.eval hi = .int .i64 (i : Int)) (hic : i ≤ c) :
    (execOp act.eval o).run Tryd.prog w = .ok (.value (.slice A i c)) w := by
  have hr := run_slice_h (P := Tryd.prog) w 25 A n c kidElem .i64 (i : Int) (by omega) (by omega)
  rw [kidSizeOf] at hr
  have hA : (if c = 0 then A else A.map (fun x => x.add (0 * 1))) = A := by
    split
    · rfl
    · cases A with
      | none => rfl
      | some a => simp [Addr.add]
  simp only [Result.andThen_ok, sliced, Int.toNat_natCast, Nat.sub_zero, hA] at hr
  unfold execOp
  simp only [ho, hx, hh, Option.map_some, Option.map_none, run_sliceAt_slice w 25 _ _ _ _ kidElem, Sem.run_bind, hr, Result.andThen_ok, Sem.run_pure]
theorem built_noprog : Tryd.prog.built 29 [] = some #[.slice none 0 0, .slice none 0 0, .int .i64 0] := by kernel_rfl
theorem pv_lost_iff {o : Ob} {C : List Cd.Ins} {Z : List (List UInt8)} (hc : C.length = o.code.n) (hz : Z.length = o.strs.n) : decide o.rest.Clear = decide (o.children.n = 0 ∧ (⟨C, Z, o.ppages⟩ : Cd.Pr) = ⟨[], [], 0⟩ ∧ o.cpu = Ob.noCpu ∧ o.pages.n = 0 ∧ o.table.n = 0 ∧ o.pending = 0 ∧ o.alarm = 0) := by
  have e1 : (C = [] ↔ o.code.n = 0) := by rw [← hc]; exact List.length_eq_zero_iff.symm
  have e2 : (Z = [] ↔ o.strs.n = 0) := by rw [← hz]; exact List.length_eq_zero_iff.symm
  have e3 : ((⟨C, Z, o.ppages⟩ : Cd.Pr) = ⟨[], [], 0⟩ ↔ o.code.n = 0 ∧ o.strs.n = 0 ∧ o.ppages = 0) := by rw [← e1, ← e2]; simp
  refine decide_eq_decide.2 ?_
  rw [e3]
  have hx : o.rest.cpu = o.cpu := rfl
  simp only [Ob.Clear, Ob.Bare, Ob.Counts, Ob.Contents, Ob.NoProc, Ob.NoProg, hx]
  simp [Ob.rest, Ob.only, Ob.zero, and_assoc]
/-- What its state asks of a process. -/
def Ob.PvState (o : Ob) : Prop := (o.state = 1 ∧ o.status = 0) ∨ o.state = 2 ∨ (o.state = 3 ∧ o.Zomb)
instance (o : Ob) : Decidable o.PvState := by unfold Ob.PvState; infer_instance
theorem pv_state1 {o : Ob} (h : o.state = 1) : decide o.PvState = decide (o.status = 0) := decide_eq_decide.2 (by unfold Ob.PvState; simp [h])
theorem pv_state2 {o : Ob} (h : o.state = 2) : o.PvState := .inr (.inl h)
theorem pv_state3 {o : Ob} (h : o.state = 3) : o.PvState ↔ o.Zomb := by unfold Ob.PvState; simp [h]
theorem pv_state0 {o : Ob} (h1 : ¬ o.state = 1) (h2 : ¬ o.state = 2) (h3 : ¬ o.state = 3) : ¬ o.PvState := by unfold Ob.PvState; simp [h1, h2, h3]
/-- Its parts are right. -/
def Ob.PvParts (o : Ob) (X : Cont) : Prop := (Cd.check ⟨X.code, X.strs, o.ppages⟩).2 = 0 ∧ Sp.Ok X.pages ∧ Tb.Valid X.table ∧ sgValid o.pending ∧ 0 ≤ o.alarm ∧ o.alarm ≤ 1073741824
instance (o : Ob) (X : Cont) : Decidable (o.PvParts X) := by unfold Ob.PvParts; infer_instance
theorem unproc_clear (o : Ob) : o.unproc.Clear ↔ o.Counts ∧ o.Listless := by
  have hx : o.unproc.cpu = Ob.noCpu := rfl
  simp only [Ob.Clear, Ob.Bare, Ob.Counts, Ob.Contents, Ob.NoProc, Ob.NoProg, Ob.Listless, hx]
  simp only [Ob.unproc, Ob.zero]
  constructor
  · rintro ⟨h1, h2, h3, _⟩; exact ⟨h2, h1, h3⟩
  · rintro ⟨h2, h1, h3⟩; exact ⟨h1, h2, h3, by simp⟩
theorem pv_proc_iff {o : Ob} {X : Cont} : o.Proc X ↔ o.kind = 1 ∧ o.id ≠ 0 ∧ o.Counts ∧ o.Listless ∧ o.parent ≠ o.id ∧ (o.children.n ≤ 32 ∧ KidsTo o.id X.children o.children.n) ∧ o.PvParts X ∧ o.PvState := by
  unfold Ob.Proc Ob.PvParts Ob.PvState
  rw [unproc_clear]
  constructor
  · rintro ⟨⟨a1, a2, ⟨a3, a4⟩, a5, a6, a7, a8⟩, b, c, d1, d2, d3, d4, d5, d6, d7⟩
    refine ⟨a1, a2, a3, a4, a7, ⟨a8, b⟩, ⟨c, d1, d2, d3, d4, d5⟩, ?_⟩
    rcases (show o.state = 1 ∨ o.state = 2 ∨ o.state = 3 by omega) with h | h | h
    · exact .inl ⟨h, d6 h⟩
    · exact .inr (.inl h)
    · exact .inr (.inr ⟨h, d7 h⟩)
  · rintro ⟨a1, a2, a3, a4, a7, ⟨a8, b⟩, ⟨c, d1, d2, d3, d4, d5⟩, hs⟩
    refine ⟨⟨a1, a2, ⟨a3, a4⟩, by omega, by omega, a7, a8⟩, b, c, d1, d2, d3, d4, d5, ?_, ?_⟩
    · intro h; rcases hs with hs | hs | hs
      · exact hs.2
      · omega
      · omega
    · intro h; rcases hs with hs | hs | hs
      · omega
      · omega
      · exact hs.2
end Go.Proofs.YtdglcpepgodcpaaDoor
