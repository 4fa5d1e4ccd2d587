/- Words for structs and arrays that lie in a block of their own, and for rows of numbers. Nothing of the program. -/
import Derived.Test.YtddbohnappogkaaStr
import Derived.Laws.ResultCell
import Derived.Laws.Rows
import Derived.ChangeAlike
import Derived.RegionTactic
namespace Go.Proofs.Ytddbohnappogkaa
open Go.RowKit

section
variable {P : Program} {w : World}
/-- A whole struct or array, out of its block. -/
theorem Obl.load {b : Nat} {t : TypeId} {cs : Array Value} (h : Obl w b t cs) {ty : TypeId} {d : TypeDesc} (hu : P.underlying ty = some d) (hd : (match d with | .struct _ | .array _ _ => true | _ => false) = true) (hi : (P.info? ty).map (·.size) = some cs.size) :
    (loadVar ty ⟨b, 0, none⟩).run P w = .ok (.agg cs) w := run_loadVar_row w b t ty cs (0, 0) d h hu hd hi
theorem results_cell_2 {fn : Func} {p u : Tmp} {ty : TypeId} (hr : fn.results = #[.cell p ty, .tmp u]) (tmps : Array Value) {b : Nat} {t : TypeId} {cs : Array Value} {d : TypeDesc}
    (hp : tmps.getD p undef = .pointer (some ⟨b, 0, none⟩)) (h : Obl w b t cs) (hu : P.underlying ty = some d) (hd : (match d with | .struct _ | .array _ _ => true | _ => false) = true) (hi : (P.info? ty).map (·.size) = some cs.size) :
    (results fn tmps).run P w = .ok (.tuple #[.agg cs, tmps.getD u undef]) w := by
  have hp' : tmps[p]?.getD undef = .pointer (some ⟨b, 0, none⟩) := by simpa using hp
  simp [results, hr, hp', asAddr, h.load hu hd hi]
theorem results_tcell_3 {fn : Func} {s p u : Tmp} {ty : TypeId} (hr : fn.results = #[.tmp s, .cell p ty, .tmp u]) (tmps : Array Value) {b : Nat} {t : TypeId} {cs : Array Value} {d : TypeDesc}
    (hp : tmps.getD p undef = .pointer (some ⟨b, 0, none⟩)) (h : Obl w b t cs) (hu : P.underlying ty = some d) (hd : (match d with | .struct _ | .array _ _ => true | _ => false) = true) (hi : (P.info? ty).map (·.size) = some cs.size) :
    (results fn tmps).run P w = .ok (.tuple #[tmps.getD s undef, .agg cs, tmps.getD u undef]) w := by
  have hp' : tmps[p]?.getD undef = .pointer (some ⟨b, 0, none⟩) := by simpa using hp
  simp [results, hr, hp', asAddr, h.load hu hd hi]
end

/-- Numbers of one kind as cells. -/
def nv (k : IntKind) (l : List Int) : List Value := l.map (Value.int k)
theorem nv_length (k : IntKind) (l : List Int) : (nv k l).length = l.length := by simp [nv]
theorem nv_append (k : IntKind) (a b : List Int) : nv k (a ++ b) = nv k a ++ nv k b := by simp [nv]
theorem nv_snoc (k : IntKind) (l : List Int) (x : Int) : nv k l ++ [.int k x] = nv k (l ++ [x]) := by rw [nv_append]; rfl
theorem nv_at {k : IntKind} {l : List Int} {i : Nat} (h : i < l.length) : (nv k l)[i]? = some (.int k l[i]) := by simp [nv, h]
theorem nv_one (k : IntKind) (l : List Int) : ∀ u ∈ nv k l, u.oneCell' = true := by
  intro u hu
  simp only [nv, List.mem_map] at hu
  obtain ⟨b, _, rfl⟩ := hu
  rfl
/-- The slice of address A and n numbers reads as l. -/
def Nums (k : IntKind) (w : World) (B : Nat) (A : Option Addr) (n : Nat) (l : List Int) : Prop := l.length = n ∧ Row w B 1 A n (nv k l)
section
variable {k : IntKind} {w w' : World} {B B' n : Nat} {A : Option Addr} {l : List Int}
theorem Nums.len (h : Nums k w B A n l) : l.length = n := h.1
theorem Nums.row (h : Nums k w B A n l) : Row w B 1 A n (nv k l) := h.2
theorem Nums.nil : Nums k w B A 0 [] := ⟨rfl, Row.nil⟩
theorem Nums.mono (h : Nums k w B A n l) (hB : B ≤ B') : Nums k w B' A n l := ⟨h.1, h.2.mono hB⟩
theorem Nums.below (h : Nums k w B A n l) (hb : Below B w w') : Nums k w' B A n l := ⟨h.1, h.2.below hb⟩
theorem Nums.belowLe {C : Nat} (h : Nums k w B A n l) (hb : Below C w w') (hC : B ≤ C) : Nums k w' B A n l := h.below (hb.mono hC)
theorem Nums.drew (h : Nums k w B A n l) : Nums k w.drew B A n l := h
theorem Nums.drewN (h : Nums k w B A n l) (q : Nat) : Nums k (w.drewN q) B A n l := h
theorem Nums.alloc (h : Nums k w B A n l) (hB : B ≤ w.heap.size) (o : Obj) : Nums k (w.alloc o) B A n l := ⟨h.1, h.2.alloc hB o⟩
theorem Nums.of_own {base : Nat} {e : TypeId} {c : Nat} (h : w.ownsRow base e 1 (.slice A n c) n (nv k l)) : Nums k w w.heap.size A n l := ⟨by have := h.1; rw [nv_length] at this; omega, Row.of_own h⟩
/-- The i-th number, where it lies. -/
theorem Nums.at_ (h : Nums k w B A n l) {i : Nat} (hi : i < n) : ∃ b o, ∃ hl : i < l.length, A = some ⟨b, o, none⟩ ∧ b < B ∧ w.cell? ⟨b, o + i, none⟩ = some (.int k l[i]) := by
  have hl : i < l.length := by rw [h.1]; exact hi
  obtain ⟨b, o, e, hb, hc⟩ := h.2.rd.at_ (nv_at hl)
  exact ⟨b, o, hl, e, hb, hc⟩
end
theorem own_nums {w : World} {base n : Nat} {e : TypeId} {k : IntKind} {v : Value} {l : List Int} (h : w.ownsRow base e 1 v n (nv k l)) : l.length = n := by have := own_len h; rwa [nv_length] at this
theorem nums_ne {l r : List Int} {k : Nat} (hl : k < l.length) (hr : k < r.length) (h : l[k] ≠ r[k]) : ¬ l = r := by
  rintro rfl; exact h rfl
theorem Below.drews {w : World} {B : Nat} (q : Nat) : Below B w (w.drewN q) := ⟨rfl, rfl, rfl, Nat.le_refl _, fun _ _ => rfl⟩
theorem Nums.takeN {k : IntKind} {w : World} {B n : Nat} {A : Option Addr} {l : List Int} (h : Nums k w B A n l) {m : Nat} (hm : m ≤ n) : Nums k w B A m (l.take m) := by
  have hl := h.1
  refine ⟨by rw [List.length_take]; omega, ⟨by rw [nv_length, List.length_take]; omega, fun hA => ?_, ?_⟩⟩
  · have := h.2.2.1 hA
    omega
  · have := h.2.rd.take_ m
    simpa [nv] using this
end Go.Proofs.Ytddbohnappogkaa
