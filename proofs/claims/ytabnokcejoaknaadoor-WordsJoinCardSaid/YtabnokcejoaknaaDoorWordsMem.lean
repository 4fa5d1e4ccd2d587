/- Layer 2, words for memory: a block that is known whole; rows of strings; the reader of a line. -/
import Derived.Test.YtabnokcejoaknaaDoorProg
import Derived.Test.YtabnokcejoaknaaDoorLib
import Derived.Test.YtabnokcejoaknaaDoorWordsMath
import Derived.KernelRfl
import Derived.OneCell
import Derived.Laws.Rows
namespace Go.Proofs.YtabnokcejoaknaaDoor
open Go.RowKit

theorem byteTy : ElemTy Tryd.prog 41 5 1 1 := by
  obtain ⟨i0, hi, hz0, hz1, hz2⟩ := info_parts (show (Tryd.prog.info? 5).map (fun i => (i.zero, i.size, i.bytes)) = some (some (.int .u8 0), 1, 1) by kernel_rfl)
  exact ⟨i0, _, Tryd.underlying41, hi, hz0, hz1, hz2, rfl, by omega⟩
theorem strTy : ElemTy Tryd.prog 23 9 1 16 := by
  obtain ⟨i0, hi, hz0, hz1, hz2⟩ := info_parts (show (Tryd.prog.info? 9).map (fun i => (i.zero, i.size, i.bytes)) = some (some (.string ⟨#[]⟩), 1, 16) by kernel_rfl)
  exact ⟨i0, _, Tryd.underlying23, hi, hz0, hz1, hz2, rfl, by omega⟩

/-- Strings as cells. -/
def sv (l : List (List UInt8)) : List Value := l.map fun s => Value.string ⟨s.toArray⟩
theorem sv_length (l : List (List UInt8)) : (sv l).length = l.length := by simp [sv]
theorem sv_append (a b : List (List UInt8)) : sv (a ++ b) = sv a ++ sv b := by simp [sv]
theorem sv_snoc (l : List (List UInt8)) (x : List UInt8) : sv l ++ [.string ⟨x.toArray⟩] = sv (l ++ [x]) := by rw [sv_append]; rfl
theorem sv_at {l : List (List UInt8)} {k : Nat} (h : k < l.length) : (sv l)[k]? = some (.string ⟨l[k].toArray⟩) := by simp [sv, h]
theorem sv_one (l : List (List UInt8)) : ∀ u ∈ sv l, u.oneCell' = true := by
  intro u hu
  simp only [sv, List.mem_map] at hu
  obtain ⟨b, _, rfl⟩ := hu
  rfl

/-- The slice of address A and n strings reads as l. -/
def Strs (w : World) (B : Nat) (A : Option Addr) (n : Nat) (l : List (List UInt8)) : Prop := l.length = n ∧ Row w B 1 A n (sv l)
section
variable {w w' : World} {B B' n : Nat} {A : Option Addr} {l : List (List UInt8)}
theorem Strs.len (h : Strs w B A n l) : l.length = n := h.1
theorem Strs.row (h : Strs w B A n l) : Row w B 1 A n (sv l) := h.2
theorem Strs.nil : Strs w B A 0 [] := ⟨rfl, Row.nil⟩
theorem Strs.mono (h : Strs w B A n l) (hB : B ≤ B') : Strs w B' A n l := ⟨h.1, h.2.mono hB⟩
theorem Strs.below (h : Strs w B A n l) (hb : Below B w w') : Strs w' B A n l := ⟨h.1, h.2.below hb⟩
theorem Strs.belowLe {C : Nat} (h : Strs w B A n l) (hb : Below C w w') (hC : B ≤ C) : Strs w' B A n l := h.below (hb.mono hC)
theorem Strs.drew (h : Strs w B A n l) : Strs w.drew B A n l := h
theorem Strs.drewN (h : Strs w B A n l) (k : Nat) : Strs (w.drewN k) B A n l := h
theorem Strs.of_own {base : Nat} {e : TypeId} {c : Nat} (h : w.ownsRow base e 1 (.slice A n c) n (sv l)) : Strs w w.heap.size A n l := ⟨by have := h.1; rw [sv_length] at this; omega, Row.of_own h⟩
/-- The k-th string, where it lies. -/
theorem Strs.at_ (h : Strs w B A n l) {k : Nat} (hk : k < n) : ∃ b o, ∃ hl : k < l.length, A = some ⟨b, o, none⟩ ∧ b < B ∧ w.cell? ⟨b, o + k, none⟩ = some (.string ⟨l[k].toArray⟩) := by
  have hl : k < l.length := by rw [h.1]; exact hk
  obtain ⟨b, o, e, hb, hc⟩ := h.2.rd.at_ (sv_at hl)
  exact ⟨b, o, hl, e, hb, hc⟩
end
theorem own_len {w : World} {base n : Nat} {e : TypeId} {v : Value} {xs : List Value} (h : w.ownsRow base e 1 v n xs) : xs.length = n := by have := h.1; omega
theorem own_bytes {w : World} {base n : Nat} {e : TypeId} {v : Value} {l : List UInt8} (h : w.ownsRow base e 1 v n (bv l)) : l.length = n := by have := own_len h; rwa [bv_length] at this
theorem own_strs {w : World} {base n : Nat} {e : TypeId} {v : Value} {l : List (List UInt8)} (h : w.ownsRow base e 1 v n (sv l)) : l.length = n := by have := own_len h; rwa [sv_length] at this

theorem ba_size (l : List UInt8) : (⟨l.toArray⟩ : ByteArray).size = l.length := by simp [ByteArray.size]
theorem own_drewN {w : World} {base size n : Nat} {e : TypeId} {v : Value} {xs : List Value} (h : w.ownsRow base e size v n xs) (k : Nat) : (w.drewN k).ownsRow base e size v n xs := h
theorem below_drewN {B : Nat} {a w : World} (h : Below B a w) (k : Nat) : Below B a (w.drewN k) := ⟨h.os, h.tape, h.output, h.size, h.block⟩
theorem own_below {w w' : World} {base size n : Nat} {e : TypeId} {v : Value} {xs : List Value} (h : w.ownsRow base e size v n xs) (hb : Below w.heap.size w w') : w'.ownsRow base e size v n xs := by
  refine ⟨h.1, ?_⟩
  rcases h.2 with h0 | ⟨g, cap, cur, hv, hg, hh, hn⟩
  · exact .inl h0
  · exact .inr ⟨g, cap, cur, hv, hg, (hb.block g (lt_of_block hh)).trans hh, hn⟩

/-- Block b is just the cells cs, marked t. -/
def Obl (w : World) (b : Nat) (t : TypeId) (cs : Array Value) : Prop := w.heap[b]? = some (.cells cs t (0, 0))
section
variable {w w' : World} {b : Nat} {t : TypeId} {cs : Array Value}
theorem Obl.lt (h : Obl w b t cs) : b < w.heap.size := lt_of_block h
theorem Obl.cell (h : Obl w b t cs) (i : Nat) : w.cell? ⟨b, i, none⟩ = cs[i]? := cell_of_row w b i cs t (0, 0) h
theorem Obl.free (h : Obl w b t cs) (i : Nat) : w.frozen? ⟨b, i, none⟩ = false := by
  unfold Obl at h
  simp [World.frozen?, h]
theorem Obl.make (w : World) (t : TypeId) (cs : Array Value) : Obl (w.alloc (.cells cs t)) w.heap.size t cs := heap_alloc_new w _
theorem Obl.alloc (h : Obl w b t cs) (o : Obj) : Obl (w.alloc o) b t cs := (Below.heap_alloc w o b h.lt).trans h
theorem Obl.drew (h : Obl w b t cs) : Obl w.drew b t cs := h
theorem Obl.put (h : Obl w b t cs) (i : Nat) (u : Value) : Obl (w.setCell ⟨b, i, none⟩ u) b t (cs.setIfInBounds i u) := by
  unfold Obl at h ⊢
  simp [World.setCell, Array.getElem?_modify, h]
theorem Obl.grown {row : Option Nat} (h : Obl w b t cs) (hg : w.grownBy w' row) (hb : some b ≠ row) : Obl w' b t cs := (hg.block b h.lt hb).trans h
theorem Obl.below {B : Nat} (h : Obl w b t cs) (hb : Below B w w') (hB : b < B) : Obl w' b t cs := (hb.block b hB).trans h
/-- A row of another kind of element lies elsewhere. -/
theorem Obl.apart {base n c : Nat} {e : TypeId} {A : Option Addr} {xs : List Value} {size : Nat} (h : Obl w b t cs) (hown : w.ownsRow base e size (.slice A n c) n xs) (hne : e ≠ t) : some b ≠ blk A := by
  rcases hown.2 with ⟨hv, _⟩ | ⟨g, cap, cur, hv, _, hh, _⟩
  · cases hv; simp [blk]
  · cases hv
    intro he
    simp only [blk, Option.map_some, Option.some.injEq] at he
    subst he
    unfold Obl at h
    rw [hh] at h
    injection h with h
    injection h with _ h
    exact hne h
end
theorem own_apart {w : World} {base n c n' c' : Nat} {e e' : TypeId} {A A' : Option Addr} {xs ys : List Value} {size size' : Nat} (h : w.ownsRow base e size (.slice A n c) n xs) (h' : w.ownsRow base e' size' (.slice A' n' c') n' ys) (hne : e ≠ e') : (Value.slice A n c).ownBlock = none ∨ (Value.slice A n c).ownBlock ≠ blk A' := by
  rcases h.2 with ⟨hv, _⟩ | ⟨g, cap, cur, hv, _, hh, _⟩
  · cases hv; exact .inl rfl
  · cases hv
    right
    rw [ownBlock_slice]
    exact Obl.apart (t := e) hh h' (fun x => hne x.symm)

/-- The reader at block b. -/
def Rdr (w : World) (base b st : Nat) (A : Option Addr) (n c : Nat) (A2 : Option Addr) (n2 c2 : Nat) (wd : List UInt8) (ws : List (List UInt8)) : Prop :=
  Obl w b 43 #[.int .i64 (st : Int), .slice A n c, .slice A2 n2 c2] ∧ base ≤ b ∧ w.ownsRow base 5 1 (.slice A n c) n (bv wd) ∧ w.ownsRow base 9 1 (.slice A2 n2 c2) n2 (sv ws)
def RdrE (w : World) (base b st : Nat) (wd : List UInt8) (ws : List (List UInt8)) : Prop := ∃ A n c A2 n2 c2, Rdr w base b st A n c A2 n2 c2 wd ws

section
variable {w w' : World} {base b st n c n2 c2 : Nat} {A A2 : Option Addr} {wd : List UInt8} {ws : List (List UInt8)}
theorem own_put_other {e : TypeId} {v : Value} {n i : Nat} {xs : List Value} (h : w.ownsRow base e 1 v n xs) (hne : v.ownBlock ≠ some b) (u : Value) : (w.setCell ⟨b, i, none⟩ u).ownsRow base e 1 v n xs := ownsRow_setCell_other h hne u
theorem Rdr.ne1 (h : Rdr w base b st A n c A2 n2 c2 wd ws) : (Value.slice A n c).ownBlock ≠ some b := by
  rw [ownBlock_slice]; exact fun e => Obl.apart h.1 h.2.2.1 (by decide) e.symm
theorem Rdr.ne2 (h : Rdr w base b st A n c A2 n2 c2 wd ws) : (Value.slice A2 n2 c2).ownBlock ≠ some b := by
  rw [ownBlock_slice]; exact fun e => Obl.apart h.1 h.2.2.2 (by decide) e.symm
/-- The state is set. -/
theorem Rdr.setState (h : Rdr w base b st A n c A2 n2 c2 wd ws) (st' : Nat) : Rdr (w.setCell ⟨b, 0, none⟩ (.int .i64 (st' : Int))) base b st' A n c A2 n2 c2 wd ws :=
  ⟨h.1.put 0 _, h.2.1, own_put_other h.2.2.1 h.ne1 _, own_put_other h.2.2.2 h.ne2 _⟩
/-- The word is another row of its own. -/
theorem Rdr.setWord (h : Rdr w base b st A n c A2 n2 c2 wd ws) (hg : w.grownBy w' (blk A)) {A' : Option Addr} {n' c' : Nat} {wd' : List UInt8} (hown : w'.ownsRow base 5 1 (.slice A' n' c') n' (bv wd')) :
    Rdr (w'.setCell ⟨b, 1, none⟩ (.slice A' n' c')) base b st A' n' c' A2 n2 c2 wd' ws := by
  have hO : Obl w' b 43 #[.int .i64 (st : Int), .slice A n c, .slice A2 n2 c2] := h.1.grown hg (h.1.apart h.2.2.1 (by decide))
  have h2 : w'.ownsRow base 9 1 (.slice A2 n2 c2) n2 (sv ws) := h.2.2.2.kept hg (own_apart h.2.2.2 h.2.2.1 (by decide))
  have h' : Rdr w' base b st A n c A2 n2 c2 wd ws → True := fun _ => trivial
  refine ⟨hO.put 1 _, h.2.1, own_put_other hown ?_ _, own_put_other h2 ?_ _⟩
  · rw [ownBlock_slice]; exact fun e => hO.apart hown (by decide) e.symm
  · rw [ownBlock_slice]; exact fun e => hO.apart h2 (by decide) e.symm
/-- The words are another row of its own. -/
theorem Rdr.setWords (h : Rdr w base b st A n c A2 n2 c2 wd ws) (hg : w.grownBy w' (blk A2)) {A' : Option Addr} {n' c' : Nat} {ws' : List (List UInt8)} (hown : w'.ownsRow base 9 1 (.slice A' n' c') n' (sv ws')) :
    Rdr (w'.setCell ⟨b, 2, none⟩ (.slice A' n' c')) base b st A n c A' n' c' wd ws' := by
  have hO : Obl w' b 43 #[.int .i64 (st : Int), .slice A n c, .slice A2 n2 c2] := h.1.grown hg (h.1.apart h.2.2.2 (by decide))
  have h1 : w'.ownsRow base 5 1 (.slice A n c) n (bv wd) := h.2.2.1.kept hg (own_apart h.2.2.1 h.2.2.2 (by decide))
  refine ⟨hO.put 2 _, h.2.1, own_put_other h1 ?_ _, own_put_other hown ?_ _⟩
  · rw [ownBlock_slice]; exact fun e => hO.apart h1 (by decide) e.symm
  · rw [ownBlock_slice]; exact fun e => hO.apart hown (by decide) e.symm
theorem Rdr.alloc (h : Rdr w base b st A n c A2 n2 c2 wd ws) (o : Obj) : Rdr (w.alloc o) base b st A n c A2 n2 c2 wd ws := ⟨h.1.alloc o, h.2.1, h.2.2.1.alloc o, h.2.2.2.alloc o⟩
theorem Rdr.drew (h : Rdr w base b st A n c A2 n2 c2 wd ws) : Rdr w.drew base b st A n c A2 n2 c2 wd ws := h
theorem Rdr.base_le (h : Rdr w base b st A n c A2 n2 c2 wd ws) : base ≤ w.heap.size := Nat.le_of_lt (Nat.lt_of_le_of_lt h.2.1 h.1.lt)
theorem own_cut0 {e : TypeId} {xs : List Value} (h : w.ownsRow base e 1 (.slice A n c) n xs) : w.ownsRow base e 1 (.slice A 0 c) 0 [] := by
  rcases h.2 with ⟨hv, h0⟩ | ⟨g, cap, cur, hv, hb, hh, hn, hm, hs, _⟩
  · cases hv; exact ⟨rfl, .inl ⟨rfl, rfl⟩⟩
  · cases hv
    exact ⟨rfl, .inr ⟨g, _, cur, rfl, hb, hh, by omega, hm, hs, by simp⟩⟩
end
end Go.Proofs.YtabnokcejoaknaaDoor
