/- What makes inputs of the statements: dice and what is thrown with them: contracts that say only how great. -/
import Derived.Test.YtdglcpepgodcpaaDoorBel
import Derived.Test.YtdglcpepgodcpaaDoorIns
import Derived.Test.YtdglcpepgodcpaaDoorRowMem
namespace Go.Proofs.YtdglcpepgodcpaaDoor
open Go.RowKit


theorem Bytes.tail {w : World} {B b o n : Nat} {l : List UInt8} (h : Bytes w B (some ⟨b, o, none⟩) (n + 1) l) : Bytes w B (some ⟨b, o + 1, none⟩) n (l.drop 1) := by
  have hl := h.1
  refine ⟨by rw [List.length_drop]; omega, ⟨by rw [bv_length, List.length_drop]; omega, by simp, ?_⟩⟩
  have := h.2.rd.drop_ 1
  simpa [bv] using this
theorem tmod_range {x n : Int} (hx : 0 ≤ x) (hn : 0 < n) : 0 ≤ x.tmod n ∧ x.tmod n < n := ⟨Int.tmod_nonneg n hx, Int.tmod_lt_of_pos x hn⟩

/-- A list of numbers in a block of its own. -/
theorem Obl.num {w : World} {g : Nat} {t : TypeId} {L : List Int} (h : Obl w g t (nv .i64 L).toArray) {k : Nat} (hk : k < L.length) : w.cell? ⟨g, k, none⟩ = some (.int .i64 L[k]) := by
  rw [h.cell, List.getElem?_toArray, nv_at hk]
def wordL : List Int := [0, 1, 2, 3, 1, 0, 5, 16, -1, 200, 14, 9]
theorem Bytes.takeN {w : World} {B n : Nat} {A : Option Addr} {l : List UInt8} (h : Bytes w B A n l) {k : Nat} (hk : k ≤ n) : Bytes w B A k (l.take k) := by
  have hl := h.1
  refine ⟨by rw [List.length_take]; omega, ⟨by rw [bv_length, List.length_take]; omega, fun hA => ?_, ?_⟩⟩
  · have := h.2.2.1 hA
    omega
  · have := h.2.rd.take_ k
    simpa [bv] using this

theorem own_bel {w w' : World} {b base size n : Nat} {e : TypeId} {v : Value} {xs : List Value} (h : w.ownsRow base e size v n xs) (hb : Bel w.heap.size b w w') (hbb : b < base) : w'.ownsRow base e size v n xs := by
  refine ⟨h.1, ?_⟩
  rcases h.2 with h0 | ⟨g, cap, cur, hv, hg, hh, hn⟩
  · exact .inl h0
  · exact .inr ⟨g, cap, cur, hv, hg, (hb.block g (lt_of_block hh) (by omega)).trans hh, hn⟩
theorem Bel.setGe {base b : Nat} {w w' : World} (h : Bel base b w w') {g : Nat} (hg : base ≤ g) (i : Nat) (u : Value) : Bel base b w (w'.setCell ⟨g, i, none⟩ u) := h.trans (Bel.of ((Below.refl base w').setCell (p := ⟨g, i, none⟩) hg _))
theorem Bel.rowGe {base b : Nat} {w w' : World} (h : Bel base b w w') {g : Nat} (hg : base ≤ g) (cells : Array Value) : Bel base b w (w'.setRow g cells) := h.trans (Bel.of (below_row (Below.refl base w') hg cells))
end Go.Proofs.YtdglcpepgodcpaaDoor
