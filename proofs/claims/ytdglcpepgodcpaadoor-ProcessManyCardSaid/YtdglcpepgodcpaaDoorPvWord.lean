/- Words for the walks of layer 16. -/
import Derived.Test.YtdglcpepgodcpaaDoorPvOps
import Derived.Test.YtdglcpepgodcpaaDoorProcessManyM
import Derived.Test.YtdglcpepgodcpaaDoorIdTy
namespace Go.Proofs.YtdglcpepgodcpaaDoor
open Go.RowKit

theorem pv_store {o : Oper} {a : Act} {w : World} {Q : Exit → Act → World → Prop} {K : Act → World → Prop} {x y : Operand} (ho : o.op = .store 42 x y) {g : Nat} (hx : a.eval x = .pointer (some ⟨g, 0, none⟩)) {c : Ob} (hy : a.eval y = .agg (oc c)) {old : Array Value} {t : TypeId} (h : Obl w g t old) (hold : old.size = 36)
    (hK : K (a.put o.dst undef) (w.setRow g (oc c))) : o.wp Tryd.prog a w K Q := wp_store_row _ x y ho g (oc c) hx hy t old h obSize hold (oc_one c) hK
theorem start_ozz (W : World) (o : Ob) : ∃ w1, ((W.alloc (.cells (oc o) 42)).alloc (.cells #[.int .u64 0, .int .i64 0, .int .i64 0, .int .i64 0, .int .u64 0, .slice none 0 0, .slice none 0 0, .slice none 0 0, .int .i64 0, .int .i64 0, .int .i64 0, .int .i64 0, .int .i64 0, .int .i64 0, .int .i64 0, .int .i64 0, .int .i64 0, .int .i64 0,
  .slice none 0 0, .slice none 0 0, .int .i64 0, .int .i64 0, .int .i64 0, .slice none 0 0, .slice none 0 0, .int .i64 0, .int .u64 0, .int .i64 0, .int .i64 0, .slice none 0 0, .slice none 0 0, .slice none 0 0, .int .i64 0, .int .i64 0, .int .i64 0, .slice none 0 0] 42)).alloc (.cells #[.int .u64 0, .int .i64 0, .int .i64 0, .int .i64 0, .int .u64 0, .slice none 0 0, .slice none 0 0, .slice none 0 0, .int .i64 0, .int .i64 0, .int .i64 0, .int .i64 0, .int .i64 0, .int .i64 0, .int .i64 0, .int .i64 0, .int .i64 0, .int .i64 0,
  .slice none 0 0, .slice none 0 0, .int .i64 0, .int .i64 0, .int .i64 0, .slice none 0 0, .slice none 0 0, .int .i64 0, .int .u64 0, .int .i64 0, .int .i64 0, .slice none 0 0, .slice none 0 0, .slice none 0 0, .int .i64 0, .int .i64 0, .int .i64 0, .slice none 0 0] 42) = w1 ∧
    Obl w1 W.heap.size 42 (oc o) ∧ Obl w1 (W.heap.size + 1) 42 (oc Ob.zero) ∧ Obl w1 (W.heap.size + 2) 42 (oc Ob.zero) ∧ Below W.heap.size W w1 ∧ w1.heap.size = W.heap.size + 3 := by
  obtain ⟨w1, h1, O, Z, hb, hs⟩ := start_oz W o
  obtain ⟨w2, h2, Y, hb2, hs2⟩ := start_z w1
  rw [hs] at Y
  exact ⟨w2, by rw [h1]; exact h2, O.below hb2 O.lt, Z.below hb2 Z.lt, Y, hb.trans (hb2.mono hb.size), by omega⟩
theorem start_ooz (W : World) (o p : Ob) : ∃ w1, ((W.alloc (.cells (oc o) 42)).alloc (.cells (oc p) 42)).alloc (.cells #[.int .u64 0, .int .i64 0, .int .i64 0, .int .i64 0, .int .u64 0, .slice none 0 0, .slice none 0 0, .slice none 0 0, .int .i64 0, .int .i64 0, .int .i64 0, .int .i64 0, .int .i64 0, .int .i64 0, .int .i64 0, .int .i64 0, .int .i64 0, .int .i64 0,
  .slice none 0 0, .slice none 0 0, .int .i64 0, .int .i64 0, .int .i64 0, .slice none 0 0, .slice none 0 0, .int .i64 0, .int .u64 0, .int .i64 0, .int .i64 0, .slice none 0 0, .slice none 0 0, .slice none 0 0, .int .i64 0, .int .i64 0, .int .i64 0, .slice none 0 0] 42) = w1 ∧
    Obl w1 W.heap.size 42 (oc o) ∧ Obl w1 (W.heap.size + 1) 42 (oc p) ∧ Obl w1 (W.heap.size + 2) 42 (oc Ob.zero) ∧ Below W.heap.size W w1 ∧ w1.heap.size = W.heap.size + 3 := by
  have hb0 : Below W.heap.size W (W.alloc (.cells (oc o) 42)) := (Below.refl _ _).alloc (Nat.le_refl _) _
  obtain ⟨w1, h1, O, Z, hb, hs⟩ := start_oz (W.alloc (.cells (oc o) 42)) p
  have P := Obl.make W 42 (oc o)
  rw [World.size_alloc] at O Z hs
  exact ⟨w1, h1, P.below hb (by simp), O, Z, hb0.trans (hb.mono (by simp)), by omega⟩
theorem Owns.later {w w' : World} {lo : Nat} {c : Ob} {X : Cont} (h : Owns w lo c X) (hb : Below w.heap.size w w') : Owns w' lo c X := ⟨own_later h.children hb, own_later h.code hb, own_later h.strs hb, own_later h.pages hb, own_later h.table hb⟩
theorem OwnsF.later {w w' : World} {lo : Nat} {c : Ob} {X : Cont} (h : OwnsF w lo c X) (hb : Below w.heap.size w w') : OwnsF w' lo c X := ⟨own_later h.code hb, own_later h.strs hb, own_later h.table hb⟩
theorem Owns.row {w : World} {lo z : Nat} {c : Ob} {X : Cont} {cs cs' : Array Value} (h : Owns w lo c X) (O : Obl w z 42 cs) : Owns (w.setRow z cs') lo c X :=
  ⟨own_apart_obl h.children O (by decide) rfl, own_apart_obl h.code O (by decide) rfl, own_apart_obl h.strs O (by decide) rfl, own_apart_obl h.pages O (by decide) rfl, own_apart_obl h.table O (by decide) rfl⟩
theorem OwnsF.row {w : World} {lo z : Nat} {c : Ob} {X : Cont} {cs cs' : Array Value} (h : OwnsF w lo c X) (O : Obl w z 42 cs) : OwnsF (w.setRow z cs') lo c X :=
  ⟨own_apart_obl h.code O (by decide) rfl, own_apart_obl h.strs O (by decide) rfl, own_apart_obl h.table O (by decide) rfl⟩
theorem own_grown {w w' : World} {base size n c n' c' size' : Nat} {e e' : TypeId} {A A' : Option Addr} {xs ys : List Value} (h : w.ownsRow base e' size' (.slice A' n' c') n' ys) (hr : w.ownsRow base e size (.slice A n c) n xs) (hg : w.grownBy w' (blk A)) (hne : e' ≠ e) : w'.ownsRow base e' size' (.slice A' n' c') n' ys := h.kept hg (own_apart h hr hne)
theorem own_put_ob {w : World} {base size n c z i : Nat} {e : TypeId} {A : Option Addr} {xs : List Value} {cs : Array Value} (h : w.ownsRow base e size (.slice A n c) n xs) (O : Obl w z 42 cs) (hne : e ≠ 42) (v : Value) : (w.setCell ⟨z, i, none⟩ v).ownsRow base e size (.slice A n c) n xs := by
  refine own_keep_ne h (g := z) ?_ fun k hk => by simp [World.setCell, Array.getElem?_modify, Ne.symm hk]
  rw [ownBlock_slice]
  exact fun hx => Obl.apart O h hne hx.symm
theorem oc_children (o : Ob) (A : Option Addr) (n c : Nat) : (oc o).setIfInBounds 5 (.slice A n c) = oc { o with children := ⟨A, n, c⟩ } := by simp [oc, ocl, pcs]
theorem oc_nobool (y : Ob) (i : Nat) (s : Bool) : (oc y)[i]? ≠ some (.bool s) := by
  intro h
  have h1 : Value.bool s ∈ (oc y).toList := Array.mem_toList_iff.2 (Array.mem_of_getElem? h)
  simp [oc, ocl, pcs] at h1
theorem Refs.row_ob {w : World} {B z n : Nat} {A : Option Addr} {l : List Sp.Ref} {y : Ob} {t : TypeId} (h : Refs w B A n l) (O : Obl w z t (oc y)) (cs : Array Value) : Refs (w.setRow z cs) B A n l := by
  refine ⟨h.1, h.2.1, h.2.2.1, fun hx => ?_⟩
  obtain ⟨b, o, e, hb, hc⟩ := h.2.2.2 hx
  have hne : b ≠ z := by
    rintro rfl
    rcases l with _ | ⟨x, l⟩
    · simp [rv] at hx
    · have := hc 1 (.bool x.sh) rfl
      rw [O.cell] at this
      exact oc_nobool _ _ _ this
  refine ⟨b, o, e, hb, fun j u hu => ?_⟩
  rw [← hc j u hu]
  unfold World.cell?
  simp only [setRow_other w z cs hne]
theorem HoldsP.of_obj {w : World} {B : Nat} {c : Ob} {X : Cont} {id : Int} (h : HoldsP w B (c.obj id) X) : HoldsP w B c X := ⟨h.children, h.code, h.strs, h.pages, h.table⟩
end Go.Proofs.YtdglcpepgodcpaaDoor
