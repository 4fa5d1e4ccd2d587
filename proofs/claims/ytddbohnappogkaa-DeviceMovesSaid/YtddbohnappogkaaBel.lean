/- A frame that leaves out one block. Nothing of the program. -/
import Derived.Test.YtddbohnappogkaaLib
import Derived.Test.YtddbohnappogkaaStr
namespace Go.Proofs.Ytddbohnappogkaa
open Go.RowKit

/-- The blocks below base are as they were, but for block b. -/
structure Bel (base b : Nat) (w w' : World) : Prop where
  os : w'.os = w.os
  tape : w'.tape = w.tape
  output : w'.output = w.output
  size : w.heap.size ≤ w'.heap.size
  block : ∀ k, k < base → k ≠ b → w'.heap[k]? = w.heap[k]?
section
variable {w w' w'' : World} {base b : Nat}
theorem Bel.of (h : Below base w w') : Bel base b w w' := ⟨h.os, h.tape, h.output, h.size, fun k hk _ => h.block k hk⟩
theorem Bel.trans (h : Bel base b w w') (h' : Bel base b w' w'') : Bel base b w w'' :=
  ⟨h'.os.trans h.os, h'.tape.trans h.tape, h'.output.trans h.output, Nat.le_trans h.size h'.size, fun k hk hne => (h'.block k hk hne).trans (h.block k hk hne)⟩
theorem Bel.put (h : Bel base b w w') (i : Nat) (u : Value) : Bel base b w (w'.setCell ⟨b, i, none⟩ u) :=
  ⟨h.os, h.tape, h.output, by simpa [World.setCell] using h.size, fun k hk hne => by
    rw [← h.block k hk hne]
    simp [World.setCell, Array.getElem?_modify, Ne.symm hne]⟩
theorem Bel.cell (h : Bel base b w w') {p : Addr} (hp : p.block < base) (hne : p.block ≠ b) : w'.cell? p = w.cell? p := by
  unfold World.cell?
  rw [h.block _ hp hne]
end
theorem Bel.obl {w w' : World} {base b g : Nat} {t : TypeId} {cs : Array Value} (h : Bel base b w w') (ho : Obl w g t cs) (hg : g < base) (hne : g ≠ b) : Obl w' g t cs := (h.block g hg hne).trans ho
theorem Bel.below {w w' : World} {base b C : Nat} (h : Bel base b w w') (h1 : C ≤ base) (h2 : C ≤ b) : Below C w w' := ⟨h.os, h.tape, h.output, h.size, fun k hk => h.block k (by omega) (by omega)⟩
theorem Bel.refl (base b : Nat) (w : World) : Bel base b w w := Bel.of (Below.refl _ _)
theorem Bel.mono {base base' b : Nat} {w w' : World} (h : Bel base b w w') (hb : base' ≤ base) : Bel base' b w w' := ⟨h.os, h.tape, h.output, h.size, fun k hk hne => h.block k (by omega) hne⟩
theorem Bel.then {b : Nat} {w w' w'' : World} (h : Bel w.heap.size b w w') (h' : Bel w'.heap.size b w' w'') : Bel w.heap.size b w w'' := h.trans (h'.mono h.size)
theorem Bel.obl' {w w' : World} {b g : Nat} {t : TypeId} {cs : Array Value} (h : Bel w.heap.size b w w') (ho : Obl w g t cs) (hne : g ≠ b) : Obl w' g t cs := (h.block g ho.lt hne).trans ho
end Go.Proofs.Ytddbohnappogkaa
