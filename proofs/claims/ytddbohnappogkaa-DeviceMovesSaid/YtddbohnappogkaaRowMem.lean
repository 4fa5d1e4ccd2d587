/- Rows that are laid or loaded whole. Nothing of the program. -/
import Derived.Test.YtddbohnappogkaaAgg
import Derived.Laws.Tables
import Derived.Deep.MidRow
import Derived.WalkKit
namespace Go.Proofs.Ytddbohnappogkaa
open Go.RowKit

-- a row whose cells are all laid anew
section
variable {w w' : World} {g b : Nat} {t : TypeId} {cs old cells : Array Value}
theorem Obl.row_same (h : Obl w g t old) (cells : Array Value) : Obl (w.setRow g cells) g t cells := setRow_heap w g old cells t _ h
theorem setRow_other (w : World) (g : Nat) (cells : Array Value) {i : Nat} (hi : i ≠ g) : (w.setRow g cells).heap[i]? = w.heap[i]? := by
  simp [World.setRow, Array.getElem?_modify, Ne.symm hi]
theorem Obl.row_other (h : Obl w b t cs) (hne : b ≠ g) (cells : Array Value) : Obl (w.setRow g cells) b t cs := (setRow_other w g cells hne).trans h
theorem below_row {B : Nat} (h : Below B w w') (hg : B ≤ g) (cells : Array Value) : Below B w (w'.setRow g cells) :=
  ⟨h.os, h.tape, h.output, by simpa [World.setRow] using h.size, fun k hk => (setRow_other w' g cells (by omega)).trans (h.block k hk)⟩
end

section
variable {P : Program} {w : World} {a : Act} {o : Oper}
theorem exec_load_row {x : Operand} {ty : TypeId} (ho : o.op = .load ty x) {g : Nat} (hx : a.eval x = .pointer (some ⟨g, 0, none⟩)) {t : TypeId} {cs : Array Value} (h : Obl w g t cs) {d : TypeDesc}
    (hd : d.isRow = true) (hu : P.underlying ty = some d) (hi : (P.info? ty).map (·.size) = some cs.size) : (execOp a.eval o).run P w = .ok (.value (.agg cs)) w := by
  have hr := run_loadVar_mid (P := P) w g 0 ty cs.toList d (fun j v hv => by rw [Nat.zero_add, h.cell]; simpa using hv) hu hd (by simpa using hi)
  unfold execOp
  simp only [ho, hx, Instr.loadAt, Instr.sureAddr, Sem.run_bind, Sem.run_pure, Result.andThen_ok, hr, Array.toArray_toList]
theorem exec_build {t : TypeId} {parts : Array (Nat × Operand)} (ho : o.op = .build t parts) {vs : List (Nat × Value)} (hp : (parts.map fun (i, x) => (i, a.eval x)).toList = vs) {cells : Array Value} (hb : P.built t vs = some cells) :
    (execOp a.eval o).run P w = .ok (.value (.agg cells)) w := by
  have hr := run_build (P := P) w t (parts.map fun (i, x) => (i, a.eval x)) cells (by rw [hp]; exact hb)
  unfold execOp
  simp only [ho, Sem.run_bind, Sem.run_pure, Result.andThen_ok, hr]
end
theorem results_cells_2 {P : Program} {w : World} {fn : Func} {p q : Tmp} {ty uy : TypeId} (hr : fn.results = #[.cell p ty, .cell q uy]) (tmps : Array Value) {b b' : Nat} {t t' : TypeId} {cs cs' : Array Value} {d d' : TypeDesc}
    (hp : tmps.getD p undef = .pointer (some ⟨b, 0, none⟩)) (h : Obl w b t cs) (hu : P.underlying ty = some d) (hd : (match d with | .struct _ | .array _ _ => true | _ => false) = true) (hi : (P.info? ty).map (·.size) = some cs.size)
    (hq : tmps.getD q undef = .pointer (some ⟨b', 0, none⟩)) (h' : Obl w b' t' cs') (hu' : P.underlying uy = some d') (hd' : (match d' with | .struct _ | .array _ _ => true | _ => false) = true) (hi' : (P.info? uy).map (·.size) = some cs'.size) :
    (results fn tmps).run P w = .ok (.tuple #[.agg cs, .agg cs']) w := by
  have hp' : tmps[p]?.getD undef = .pointer (some ⟨b, 0, none⟩) := by simpa using hp
  have hq' : tmps[q]?.getD undef = .pointer (some ⟨b', 0, none⟩) := by simpa using hq
  simp [results, hr, hp', hq', asAddr, h.load hu hd hi, h'.load hu' hd' hi']
/-- A row of the call's own stays one, where its blocks stay. -/
theorem own_keep {w w' : World} {base size n : Nat} {e : TypeId} {v : Value} {xs : List Value} (h : w.ownsRow base e size v n xs) (hk : ∀ g, base ≤ g → g < w.heap.size → w'.heap[g]? = w.heap[g]?) : w'.ownsRow base e size v n xs := by
  refine ⟨h.1, ?_⟩
  rcases h.2 with h0 | ⟨g, cap, cur, hv, hg, hh, hn⟩
  · exact .inl h0
  · exact .inr ⟨g, cap, cur, hv, hg, (hk g hg (lt_of_block hh)).trans hh, hn⟩
theorem keep_below {w w' : World} {base : Nat} (hB : Below w.heap.size w w') : ∀ g, base ≤ g → g < w.heap.size → w'.heap[g]? = w.heap[g]? := fun g _ h2 => hB.block g h2
theorem own_weaken {w : World} {base base' size n : Nat} {e : TypeId} {v : Value} {xs : List Value} (h : w.ownsRow base e size v n xs) (hb : base' ≤ base) : w.ownsRow base' e size v n xs := by
  refine ⟨h.1, ?_⟩
  rcases h.2 with h0 | ⟨g, cap, cur, hv, hg, hh, hn⟩
  · exact .inl h0
  · exact .inr ⟨g, cap, cur, hv, by omega, hh, hn⟩
theorem below_none {w w' : World} (h : w.grownBy w' none) : Below w.heap.size w w' := ⟨h.os, h.tape, h.output, h.size, fun k hk => h.block k hk (by simp)⟩
theorem own_none {w : World} {base : Nat} {e : TypeId} {size : Nat} : w.ownsRow base e size (.slice none 0 0) 0 [] := ⟨by simp, .inl ⟨rfl, rfl⟩⟩
end Go.Proofs.Ytddbohnappogkaa
