/- ProcessMany: so many children, reaped in any order: the walk. (Written by tools/mkpvmany2.py.) -/
import Derived.Test.YtdglcpepgodcpaaDoorPvSane
import Derived.Test.YtdglcpepgodcpaaDoorProcessManyM
import Derived.Test.YtdglcpepgodcpaaDoorRegionD
namespace Go.Proofs.YtdglcpepgodcpaaDoor
open Go.RowKit

def idsTo (k : Nat) : List Int := (List.range k).map fun (i : Nat) => 10 + (i : Int)
theorem idsTo_succ (k : Nat) : idsTo (k + 1) = idsTo k ++ [(10 + (k : Int))] := by unfold idsTo; rw [List.range_succ, List.map_append]; rfl
theorem idsTo_length (k : Nat) : (idsTo k).length = k := by simp [idsTo]
theorem idsTo_okF : ∀ k : Fin 33, KidsOk (idsTo k) ∧ (10 + (k.val : Int)) ∉ idsTo k := by unfold KidsOk; decide +kernel
theorem idsTo_ok {k : Nat} (h : k ≤ 32) : KidsOk (idsTo k) := (idsTo_okF ⟨k, by omega⟩).1
theorem idsTo_new {k : Nat} (h : k ≤ 32) : (10 + (k : Int)) ∉ idsTo k := (idsTo_okF ⟨k, by omega⟩).2
/-- What is left of the children. -/
def Zeds (Zs : List Ob) (I : List Int) : Prop := Zs.length = I.length ∧ ∀ i (h1 : i < Zs.length) (h2 : i < I.length), ZedIs Zs[i] I[i] ((I[i] - 10) * (I[i] - 10))
theorem Zeds.nil : Zeds [] [] := ⟨rfl, fun i h => absurd h (Nat.not_lt_zero i)⟩
theorem Zeds.snoc {Zs : List Ob} {I : List Int} {z : Ob} {id : Int} (h : Zeds Zs I) (hz : ZedIs z id ((id - 10) * (id - 10))) : Zeds (Zs ++ [z]) (I ++ [id]) := by
  refine ⟨by simp [h.1], fun i h1 h2 => ?_⟩
  rw [List.length_append, List.length_singleton] at h1 h2
  by_cases hi : i < Zs.length
  · rw [List.getElem_append_left hi, List.getElem_append_left (h.1 ▸ hi)]
    exact h.2 i hi _
  · have e : i = Zs.length := by omega
    subst e
    simp only [List.getElem_append_right (Nat.le_refl _), Nat.sub_self]
    rw [List.getElem_append_right (by rw [h.1]; exact Nat.le_refl _)]
    simp only [h.1, Nat.sub_self, List.getElem_cons_zero]
    exact hz
theorem Zeds.erase {Zs : List Ob} {I : List Int} (h : Zeds Zs I) (k : Nat) : Zeds (Zs.eraseIdx k) (I.eraseIdx k) := by
  refine ⟨by rw [List.length_eraseIdx, List.length_eraseIdx, h.1], fun i h1 h2 => ?_⟩
  rw [List.getElem_eraseIdx, List.getElem_eraseIdx]
  split
  · exact h.2 i _ _
  · exact h.2 (i + 1) _ _
/-- The parent at block g, what is left of its children in a slice of the call's own. -/
structure ManyAt (W w : World) (g : Nat) (o : Ob) (L : List Int) (A : Option Addr) (n c : Nat) (Zs : List Ob) (I : List Int) : Prop where
  at_ : Obl w g 42 (oc o)
  par : ParAt w (g + 1) o L
  row : w.ownsRow (g + 1) 42 36 (.slice A n c) n (ocs Zs)
  zeds : Zeds Zs I
  below : Below W.heap.size W w
  laid : LaidO w
  low : W.heap.size ≤ g
theorem ManyAt.later {W w w' : World} {g n c : Nat} {o : Ob} {L I : List Int} {A : Option Addr} {Zs : List Ob} (h : ManyAt W w g o L A n c Zs I) (hb : Below w.heap.size w w') : ManyAt W w' g o L A n c Zs I :=
  ⟨h.at_.below hb h.at_.lt, h.par.later hb, own_later h.row hb, h.zeds, h.below.trans (hb.mono h.below.size), h.laid.below hb, h.low⟩
theorem row_len {w : World} {base n c : Nat} {A : Option Addr} {Zs : List Ob} (h : w.ownsRow base 42 36 (.slice A n c) n (ocs Zs)) : Zs.length = n := by have := h.1; rw [ocs_length] at this; omega
/-- A block that is the row's, or the parent's. -/
theorem row_block {w : World} {base n c g : Nat} {A : Option Addr} {xs : List Value} (h : w.ownsRow base 42 36 (.slice A n c) n xs) (hg : g < w.heap.size) : ∃ bx, bx < w.heap.size ∧ ∀ b, blk A = some b → b = bx := by
  rcases h.2 with ⟨hv, _⟩ | ⟨b, cap, cur, hv, _, hh, _⟩
  · cases hv; exact ⟨g, hg, fun b hb => by cases hb⟩
  · cases hv; exact ⟨b, lt_of_block hh, fun b' hb => by cases hb; rfl⟩
theorem ParAt.grown_new {w w' : World} {lo base : Nat} {o : Ob} {L : List Int} {n c : Nat} {A : Option Addr} {xs : List Value} (h : ParAt w lo o L) (hr : w.ownsRow base 42 36 (.slice A n c) n xs) (hg : w.grownBy w' (blk A)) : ParAt w' lo o L :=
  { h with own := h.own.imp id fun h => h.kept hg (own_apart (own_weaken h (Nat.zero_le _)) (own_weaken hr (Nat.zero_le _)) (by decide)) }
theorem exec_slice_from2 {o : Oper} {act : Act} {w : World} {x lo : Operand} (ho : o.op = .slice 46 x (some lo) none none) {A : Option Addr} {n c i : Nat} {m : Int} (hx : act.eval x = .slice A n c) (hl : act.eval lo = .int .i64 m) (hm : m = (i : Int)) (hi : i ≤ n) :
    (execOp act.eval o).run Tryd.prog w = .ok (.value (.slice (if c = i then A else A.map (fun x => x.add (i * 36))) (n - i) (c - i))) w := by
  subst hm
  exact exec_slice_from ho hx hl hi
theorem row_low {w : World} {base n c : Nat} {A : Option Addr} {xs : List Value} {size : Nat} {e : TypeId} (h : w.ownsRow base e size (.slice A n c) n xs) {b : Nat} (hb : blk A = some b) : base ≤ b := (h.lt b (by rw [ownBlock_slice]; exact hb)).1
theorem ManyAt.core {W w : World} {g m c : Nat} {o b : Ob} {L I : List Int} {A : Option Addr} {Zs : List Ob} (O : Obl w g 42 (oc o)) (hp : ParAt w (g + 1) b L) (hown : w.ownsRow (g + 1) 42 36 (.slice A m c) m (ocs Zs)) (hz : Zeds Zs I) (hb : Below W.heap.size W w) (hL : LaidO W) (hlow : W.heap.size ≤ g) :
    ManyAt W (w.setRow g (oc b)) g b L A m c Zs I := by
  have hb2 := below_row hb hlow (oc b)
  refine ⟨O.row_same _, hp.row O, own_keep_ne hown (g := g) ?_ fun k hk => setRow_other w g _ hk, hz, hb2, hL.below hb2, hlow⟩
  rw [ownBlock_slice]
  exact fun h => absurd (row_low hown h) (Nat.not_succ_le_self g)
theorem ManyAt.grown {W w w' : World} {g n c : Nat} {o : Ob} {L I : List Int} {A : Option Addr} {Zs : List Ob} (h : ManyAt W w g o L A n c Zs I) (hg : w.grownBy w' (blk A)) : Obl w' g 42 (oc o) ∧ Below W.heap.size W w' :=
  ⟨h.at_.grown hg fun e => absurd (row_low h.row e.symm) (Nat.not_succ_le_self g), below_own h.below (own_weaken h.row (Nat.le_succ_of_le h.low)) hg h.below.size⟩
theorem wrap_sq : ∀ k : Fin 33, wrap64 ((k.val : Int) * (k.val : Int)) = (10 + (k.val : Int) - 10) * (10 + (k.val : Int) - 10) := by decide +kernel
theorem bel_grown {w w' : World} {B bx : Nat} {A : Option Addr} (hg : w.grownBy w' (blk A)) (hB : B ≤ w.heap.size) (hb : ∀ b, blk A = some b → b = bx) : Bel B bx w w' := ⟨hg.os, hg.tape, hg.output, hg.size, fun k hk hne => hg.block k (by omega) fun e => hne (hb k e.symm)⟩
/-- The two lists hold the same. -/
def LeftOk (L I : List Int) : Prop := I.Nodup ∧ (∀ x, x ∈ L ↔ x ∈ I) ∧ ∀ x ∈ I, 10 ≤ x ∧ x < 42
theorem leftOk_all : LeftOk (idsTo 32) (idsTo 32) := ⟨(idsTo_ok (Nat.le_refl 32)).2.2, fun _ => Iff.rfl, by decide +kernel⟩
theorem LeftOk.erase {L I : List Int} (h : LeftOk L I) {k : Nat} (hk : k < I.length) : LeftOk (L.filter fun c => c != I[k]) (I.eraseIdx k) := by
  rw [erase_filter h.1 hk rfl]
  refine ⟨h.1.filter _, fun x => ?_, fun x hx => h.2.2 x (List.mem_filter.1 hx).1⟩
  rw [List.mem_filter, List.mem_filter, h.2.1]
theorem LeftOk.none {L : List Int} (h : LeftOk L []) : L = [] := List.eq_nil_iff_forall_not_mem.2 fun x hx => by simpa using (h.2.1 x).1 hx
def lenOf : Value → Nat
  | .slice _ n _ => n
  | _ => 0
end Go.Proofs.YtdglcpepgodcpaaDoor
