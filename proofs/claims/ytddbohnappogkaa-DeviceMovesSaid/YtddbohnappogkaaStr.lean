/- Words for memory and strings that all texts of this seat share: rows of strings; a block that is known whole; strings letter by letter. Nothing of the program but the types' numbers. -/
import Derived.Test.YtddbohnappogkaaProg
import Derived.Test.YtddbohnappogkaaLib
import Derived.KernelRfl
import Derived.OneCell
import Derived.Laws.Rows
import Derived.Lib.Strings
import Derived.Lib.AppendStr
namespace Go.Proofs.Ytddbohnappogkaa
open Go.RowKit

theorem byteTy : ElemTy Try.prog 36 5 1 1 := by
  obtain ⟨i0, hi, hz0, hz1, hz2⟩ := info_parts (show (Try.prog.info? 5).map (fun i => (i.zero, i.size, i.bytes)) = some (some (.int .u8 0), 1, 1) by kernel_rfl)
  exact ⟨i0, _, Try.underlying36, hi, hz0, hz1, hz2, rfl, by omega⟩

/-- Strings as cells. -/
def sv (l : List (List UInt8)) : List Value := l.map fun s => Value.string ⟨s.toArray⟩
theorem sv_length (l : List (List UInt8)) : (sv l).length = l.length := by simp [sv]
theorem sv_append (a b : List (List UInt8)) : sv (a ++ b) = sv a ++ sv b := by simp [sv]
theorem sv_snoc (l : List (List UInt8)) (x : List UInt8) : sv l ++ [.string ⟨x.toArray⟩] = sv (l ++ [x]) := by rw [sv_append]; rfl
theorem sv_at {l : List (List UInt8)} {k : Nat} (h : k < l.length) : (sv l)[k]? = some (.string ⟨l[k].toArray⟩) := by simp [sv, h]
theorem sv_one (l : List (List UInt8)) : ∀ u ∈ sv l, u.oneCell' = true := by
  intro u hu
  simp only [sv, List.mem_map] at hu
  obtain ⟨b, _, rfl⟩ := hu
  rfl

/-- The slice of address A and n strings reads as l. -/
def Strs (w : World) (B : Nat) (A : Option Addr) (n : Nat) (l : List (List UInt8)) : Prop := l.length = n ∧ Row w B 1 A n (sv l)
section
variable {w w' : World} {B B' n : Nat} {A : Option Addr} {l : List (List UInt8)}
theorem Strs.len (h : Strs w B A n l) : l.length = n := h.1
theorem Strs.row (h : Strs w B A n l) : Row w B 1 A n (sv l) := h.2
theorem Strs.nil : Strs w B A 0 [] := ⟨rfl, Row.nil⟩
theorem Strs.mono (h : Strs w B A n l) (hB : B ≤ B') : Strs w B' A n l := ⟨h.1, h.2.mono hB⟩
theorem Strs.below (h : Strs w B A n l) (hb : Below B w w') : Strs w' B A n l := ⟨h.1, h.2.below hb⟩
theorem Strs.belowLe {C : Nat} (h : Strs w B A n l) (hb : Below C w w') (hC : B ≤ C) : Strs w' B A n l := h.below (hb.mono hC)
theorem Strs.drew (h : Strs w B A n l) : Strs w.drew B A n l := h
theorem Strs.drewN (h : Strs w B A n l) (k : Nat) : Strs (w.drewN k) B A n l := h
theorem Strs.of_own {base : Nat} {e : TypeId} {c : Nat} (h : w.ownsRow base e 1 (.slice A n c) n (sv l)) : Strs w w.heap.size A n l := ⟨by have := h.1; rw [sv_length] at this; omega, Row.of_own h⟩
/-- The k-th string, where it lies. -/
theorem Strs.at_ (h : Strs w B A n l) {k : Nat} (hk : k < n) : ∃ b o, ∃ hl : k < l.length, A = some ⟨b, o, none⟩ ∧ b < B ∧ w.cell? ⟨b, o + k, none⟩ = some (.string ⟨l[k].toArray⟩) := by
  have hl : k < l.length := by rw [h.1]; exact hk
  obtain ⟨b, o, e, hb, hc⟩ := h.2.rd.at_ (sv_at hl)
  exact ⟨b, o, hl, e, hb, hc⟩
end
theorem own_len {w : World} {base n : Nat} {e : TypeId} {v : Value} {xs : List Value} (h : w.ownsRow base e 1 v n xs) : xs.length = n := by have := h.1; omega
theorem own_bytes {w : World} {base n : Nat} {e : TypeId} {v : Value} {l : List UInt8} (h : w.ownsRow base e 1 v n (bv l)) : l.length = n := by have := own_len h; rwa [bv_length] at this
theorem own_strs {w : World} {base n : Nat} {e : TypeId} {v : Value} {l : List (List UInt8)} (h : w.ownsRow base e 1 v n (sv l)) : l.length = n := by have := own_len h; rwa [sv_length] at this

theorem own_cap63 {w : World} {base n c : Nat} {e : TypeId} {A : Option Addr} {size : Nat} {xs : List Value} (h : w.ownsRow base e size (.slice A n c) n xs) : c ≤ 9223372036854775807 := by
  rcases h.2 with ⟨h, _⟩ | ⟨g, cap, cur, h, _, _, _, hm, _⟩
  · cases h; omega
  · cases h; unfold maxLen at hm; omega
theorem ba_size (l : List UInt8) : (⟨l.toArray⟩ : ByteArray).size = l.length := by simp [ByteArray.size]
theorem own_drewN {w : World} {base size n : Nat} {e : TypeId} {v : Value} {xs : List Value} (h : w.ownsRow base e size v n xs) (k : Nat) : (w.drewN k).ownsRow base e size v n xs := h
theorem below_drewN {B : Nat} {a w : World} (h : Below B a w) (k : Nat) : Below B a (w.drewN k) := ⟨h.os, h.tape, h.output, h.size, h.block⟩
theorem own_below {w w' : World} {base size n : Nat} {e : TypeId} {v : Value} {xs : List Value} (h : w.ownsRow base e size v n xs) (hb : Below w.heap.size w w') : w'.ownsRow base e size v n xs := by
  refine ⟨h.1, ?_⟩
  rcases h.2 with h0 | ⟨g, cap, cur, hv, hg, hh, hn⟩
  · exact .inl h0
  · exact .inr ⟨g, cap, cur, hv, hg, (hb.block g (lt_of_block hh)).trans hh, hn⟩

/-- Block b is just the cells cs, marked t. -/
def Obl (w : World) (b : Nat) (t : TypeId) (cs : Array Value) : Prop := w.heap[b]? = some (.cells cs t (0, 0))
section
variable {w w' : World} {b : Nat} {t : TypeId} {cs : Array Value}
theorem Obl.lt (h : Obl w b t cs) : b < w.heap.size := lt_of_block h
theorem Obl.cell (h : Obl w b t cs) (i : Nat) : w.cell? ⟨b, i, none⟩ = cs[i]? := cell_of_row w b i cs t (0, 0) h
theorem Obl.free (h : Obl w b t cs) (i : Nat) : w.frozen? ⟨b, i, none⟩ = false := by
  unfold Obl at h
  simp [World.frozen?, h]
theorem Obl.make (w : World) (t : TypeId) (cs : Array Value) : Obl (w.alloc (.cells cs t)) w.heap.size t cs := heap_alloc_new w _
theorem Obl.alloc (h : Obl w b t cs) (o : Obj) : Obl (w.alloc o) b t cs := (Below.heap_alloc w o b h.lt).trans h
theorem Obl.drew (h : Obl w b t cs) : Obl w.drew b t cs := h
theorem Obl.put (h : Obl w b t cs) (i : Nat) (u : Value) : Obl (w.setCell ⟨b, i, none⟩ u) b t (cs.setIfInBounds i u) := by
  unfold Obl at h ⊢
  simp [World.setCell, Array.getElem?_modify, h]
theorem Obl.put_other {b' : Nat} (h : Obl w b t cs) (hne : b ≠ b') (i : Nat) (u : Value) : Obl (w.setCell ⟨b', i, none⟩ u) b t cs := by
  unfold Obl at h ⊢
  simp [World.setCell, Array.getElem?_modify, h, Ne.symm hne]
theorem Obl.grown {row : Option Nat} (h : Obl w b t cs) (hg : w.grownBy w' row) (hb : some b ≠ row) : Obl w' b t cs := (hg.block b h.lt hb).trans h
theorem Obl.below {B : Nat} (h : Obl w b t cs) (hb : Below B w w') (hB : b < B) : Obl w' b t cs := (hb.block b hB).trans h
/-- A row of another kind of element lies elsewhere. -/
theorem Obl.apart {base n c : Nat} {e : TypeId} {A : Option Addr} {xs : List Value} {size : Nat} (h : Obl w b t cs) (hown : w.ownsRow base e size (.slice A n c) n xs) (hne : e ≠ t) : some b ≠ blk A := by
  rcases hown.2 with ⟨hv, _⟩ | ⟨g, cap, cur, hv, _, hh, _⟩
  · cases hv; simp [blk]
  · cases hv
    intro he
    simp only [blk, Option.map_some, Option.some.injEq] at he
    subst he
    unfold Obl at h
    rw [hh] at h
    injection h with h
    injection h with _ h
    exact hne h
end
theorem own_apart {w : World} {base n c n' c' : Nat} {e e' : TypeId} {A A' : Option Addr} {xs ys : List Value} {size size' : Nat} (h : w.ownsRow base e size (.slice A n c) n xs) (h' : w.ownsRow base e' size' (.slice A' n' c') n' ys) (hne : e ≠ e') : (Value.slice A n c).ownBlock = none ∨ (Value.slice A n c).ownBlock ≠ blk A' := by
  rcases h.2 with ⟨hv, _⟩ | ⟨g, cap, cur, hv, _, hh, _⟩
  · cases hv; exact .inl rfl
  · cases hv
    right
    rw [ownBlock_slice]
    exact Obl.apart (t := e) hh h' (fun x => hne x.symm)

section
variable {w w' : World} {b base n c : Nat} {A : Option Addr}
theorem own_put_other {e : TypeId} {v : Value} {n i : Nat} {xs : List Value} (h : w.ownsRow base e 1 v n xs) (hne : v.ownBlock ≠ some b) (u : Value) : (w.setCell ⟨b, i, none⟩ u).ownsRow base e 1 v n xs := ownsRow_setCell_other h hne u
theorem own_cut0 {e : TypeId} {xs : List Value} (h : w.ownsRow base e 1 (.slice A n c) n xs) : w.ownsRow base e 1 (.slice A 0 c) 0 [] := by
  rcases h.2 with ⟨hv, h0⟩ | ⟨g, cap, cur, hv, hb, hh, hn, hm, hs, _⟩
  · cases hv; exact ⟨rfl, .inl ⟨rfl, rfl⟩⟩
  · cases hv
    exact ⟨rfl, .inr ⟨g, _, cur, rfl, hb, hh, by omega, hm, hs, by simp⟩⟩
end
theorem ba_empty (s : ByteArray) : s.toList.isEmpty = decide (s.size = 0) := by
  rw [Lib.toList_data, Lib.size_eq]
  cases s.data.toList <;> simp
theorem ret_bool {a b : Bool} (h : a = b) : Ending.returned (.bool a) = Ending.returned (.bool b) := by rw [h]
theorem str_at {s : ByteArray} {k : Nat} (h : k < s.size) : s.data.toList[k]? = some s[k] := by
  have : k < s.data.toList.length := by simpa using h
  rw [List.getElem?_eq_getElem this]; rfl
theorem take_snoc (s : ByteArray) (k : Nat) (h : k < s.size) : s.data.toList.take (k + 1) = s.data.toList.take k ++ [s[k]] := by
  rw [List.take_succ_eq_append_getElem (by simpa using h)]; rfl
theorem drop_cons (s : ByteArray) (k : Nat) (h : k < s.size) : s.data.toList.drop k = s[k] :: s.data.toList.drop (k + 1) := by
  have hl : k < s.data.toList.length := by simpa using h
  rw [List.drop_eq_getElem_cons hl]; rfl
theorem step_plain {P : Program} {ops : Array Oper} {o : Oper} {a : Act} {w : World} {K : Act → World → Prop} {Q : Exit → Act → World → Prop} {E : Prop} (hgd : o.guard = none) (h : o.wp P a w K Q) :
    if Region.wanted o (yielded ops a.tmps) = true then Oper.wp P o a w K Q else E := by
  rw [if_pos (by simp [Region.wanted, hgd])]; exact h
theorem u8_lt (c : UInt8) : (c.toNat : Int) < 256 := by have := c.toNat_lt; omega
theorem bv_snoc_u8 (l : List UInt8) (c : UInt8) : bv l ++ [.int .u8 (c.toNat : Int)] = bv (l ++ [c]) := by rw [bv_append]; rfl
theorem ne_nat {c : UInt8} {k : UInt8} (h : c ≠ k) : c.toNat ≠ k.toNat := fun e => h (UInt8.toNat_inj.1 e)
theorem own_list {w : World} {base : Nat} (cs : List Value) (t : TypeId) (hb : base ≤ w.heap.size) (hl : cs.length ≤ 1048576) : (w.alloc (.cells cs.toArray t)).ownsRow base t 1 (.slice (some ⟨w.heap.size, 0, none⟩) cs.length cs.length) cs.length cs :=
  ⟨by simp, .inr ⟨w.heap.size, cs.length, cs.toArray, rfl, hb, heap_alloc_new w _, Nat.le_refl _, by unfold maxLen; omega, by simp, by simp⟩⟩
theorem ba_append (a b : List UInt8) : (⟨a.toArray⟩ ++ ⟨b.toArray⟩ : ByteArray) = ⟨(a ++ b).toArray⟩ := by
  apply ByteArray.ext
  simp
/-- A row of new cells, in the order in which they were written out. -/
theorem Row.list (w : World) (cs : List Value) (t : TypeId) : Row (w.alloc (.cells cs.toArray t)) (w.heap.size + 1) 1 (some ⟨w.heap.size, 0, none⟩) cs.length cs := by
  refine ⟨by simp, by simp, fun _ => ⟨w.heap.size, 0, rfl, by omega, fun j u hu => ?_⟩⟩
  have h : Obl (w.alloc (.cells cs.toArray t)) w.heap.size t cs.toArray := Obl.make w t _
  rw [h.cell]
  simpa using hu
theorem wpList_append_str {ops : Array Oper} {rest : List Oper} {o : Oper} {a : Act} {w : World} {Q : Exit → Act → World → Prop} (hgd : o.guard = none) (sl x : Operand)
    (ho : o.op = .call { callee := .builtin .append, args := #[sl, x], argTypes := #[36, 9] }) {base n c : Nat} {A : Option Addr} {l : List UInt8} (hs : a.eval sl = .slice A n c)
    (hown : w.ownsRow base 5 1 (.slice A n c) n (bv l)) {s : ByteArray} (hx : a.eval x = .string s) (h63 : n + s.size ≤ 140737488355328) (hbase : base ≤ w.heap.size)
    (h : ∀ A' c' w', w'.ownsRow base 5 1 (.slice A' (n + s.size) c') (n + s.size) (bv (l ++ s.data.toList)) → w.grownBy w' (blk A) → wpList Try.prog ops Q rest (a.put o.dst (.slice A' (n + s.size) c')) w') :
    wpList Try.prog ops Q (o :: rest) a w := by
  obtain ⟨i0, hi, hz0, hz1, hz2⟩ := info_parts (show (Try.prog.info? 5).map (fun i => (i.zero, i.size, i.bytes)) = some (some (.int .u8 0), 1, 1) by kernel_rfl)
  refine Lib.wpList_append_own_string _ hgd sl x _ _ ho base 5 i0 Try.underlying36 Try.underlying9 hi hz0 hz1 hz2 _ n _ hs hown s hx (by unfold maxLen; omega) h63 hbase fun v' w' h1 h2 _ => ?_
  obtain ⟨A', c', rfl⟩ := own_shape h1
  rw [ownBlock_slice] at h2
  refine h A' c' w' ?_ h2
  rw [bv_append]
  exact h1
theorem grown_trans {w w' w'' : World} {row : Option Nat} (h : w.grownBy w' row) (k : w'.grownBy w'' row) : w.grownBy w'' row :=
  ⟨k.os.trans h.os, k.tape.trans h.tape, k.output.trans h.output, Nat.le_trans h.size k.size, fun i hi hne => (k.block i (Nat.lt_of_lt_of_le hi h.size) hne).trans (h.block i hi hne)⟩

/-- A cell of a row of its own is written. -/
theorem own_set {w : World} {base n c size i g : Nat} {e : TypeId} {xs : List Value} (h : w.ownsRow base e size (.slice (some ⟨g, 0, none⟩) n c) n xs) (u : Value) :
    (w.setCell ⟨g, i, none⟩ u).ownsRow base e size (.slice (some ⟨g, 0, none⟩) n c) n (xs.set i u) := by
  obtain ⟨h1, h2⟩ := h
  refine ⟨by rw [List.length_set]; exact h1, ?_⟩
  rcases h2 with ⟨hv, _⟩ | ⟨g', cap, cur, hv, hg, hh, hn, hm, hs, hx⟩
  · cases hv
  · injection hv with hv1 hv2 hv3
    simp only [Option.some.injEq, Addr.mk.injEq, and_true] at hv1
    subst hv1
    subst hv3
    refine .inr ⟨g, c, cur.setIfInBounds i u, rfl, hg, ?_, hn, hm, by simpa using hs, ?_⟩
    · simp [World.setCell, Array.getElem?_modify, hh]
    · rw [Array.toList_setIfInBounds, ← hx, List.take_set]
theorem own_free {w : World} {base n c size g : Nat} {e : TypeId} {xs : List Value} (h : w.ownsRow base e size (.slice (some ⟨g, 0, none⟩) n c) n xs) (i : Nat) : w.frozen? ⟨g, i, none⟩ = false := by
  rcases h.2 with ⟨hv, _⟩ | ⟨g', cap, cur, hv, hg, hh, _⟩
  · cases hv
  · injection hv with hv1
    simp only [Option.some.injEq, Addr.mk.injEq, and_true] at hv1
    subst hv1
    simp [World.frozen?, hh]
theorem own_cell {w : World} {base n c size g : Nat} {e : TypeId} {xs : List Value} (h : w.ownsRow base e size (.slice (some ⟨g, 0, none⟩) n c) n xs) {i : Nat} {u : Value} (hu : xs[i]? = some u) : w.cell? ⟨g, i, none⟩ = some u := by
  rcases h.2 with ⟨hv, _⟩ | ⟨g', cap, cur, hv, hg, hh, hn, hm, hs, hx⟩
  · cases hv
  · injection hv with hv1
    simp only [Option.some.injEq, Addr.mk.injEq, and_true] at hv1
    subst hv1
    rw [cell_of_row w g i cur e (0, 0) hh, ← Array.getElem?_toList]
    rw [← hx, List.getElem?_take] at hu
    split at hu
    · exact hu
    · cases hu
theorem own_addr {w : World} {base n c size : Nat} {e : TypeId} {A : Option Addr} {xs : List Value} (h : w.ownsRow base e size (.slice A n c) n xs) (hn : 0 < n) : ∃ g, A = some ⟨g, 0, none⟩ ∧ base ≤ g ∧ g < w.heap.size := by
  rcases h.2 with ⟨hv, h0⟩ | ⟨g, cap, cur, hv, hg, hh, _⟩
  · omega
  · injection hv with hv1
    exact ⟨g, hv1, hg, lt_of_block hh⟩

end Go.Proofs.Ytddbohnappogkaa
