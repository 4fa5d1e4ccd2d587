/- Layer 9: a name space does not depend on the order in which entries are added (NamesOrder): the walk. -/
import Derived.Test.YtejhnfeligifgaaDoorNxKeeps0
import Derived.Test.YtejhnfeligifgaaDoorRegionD
import Derived.Test.YtejhnfeligifgaaDoorMaps
import Derived.Deep.QuietTactic
import Derived.Deep.CutBlock
import Derived.BigQuiet
import Derived.StringKeys
namespace Go.Proofs.YtejhnfeligifgaaDoor
open Go.RowKit Go.Maps

theorem snocRec {α : Type} {P : List α → Prop} (nil : P []) (snoc : ∀ L k, P L → P (L ++ [k])) (L : List α) : P L := by
  have : ∀ M : List α, P M.reverse := fun M => by
    induction M with
    | nil => exact nil
    | cons k M ih => rw [List.reverse_cons]; exact snoc _ _ ih
  rw [← List.reverse_reverse L]
  exact this _
/-- The law's own paths. -/
def paths8 : List (List UInt8) := [[47, 97], [47, 98], [47, 97, 47, 98], [47, 97, 45, 98], [47, 48], [47, 122, 122], [47, 122], [47, 97, 47, 98, 47, 99]]
def entO (k : Nat) : Nx.Ent := ⟨paths8.getD k [], 3, [10 + (k : Int)]⟩
theorem entO_ok {k : Nat} (h : k < 8) : (entO k).Ok := by
  have : ∀ k : Fin 8, (entO k.1).Ok := by decide
  exact this ⟨k, h⟩
theorem entO_ne {i j : Nat} (hi : i < 8) (hj : j < 8) (h : i ≠ j) : (entO i).path ≠ (entO j).path := by
  have : ∀ i j : Fin 8, i.1 ≠ j.1 → (entO i.1).path ≠ (entO j.1).path := by decide
  exact this ⟨i, hi⟩ ⟨j, hj⟩ h
/-- The entries added in this order. -/
def adds (L : List Nat) : List Nx.Ent := L.foldl (fun E k => Nx.insert E (entO k)) []
theorem adds_snoc (L : List Nat) (k : Nat) : adds (L ++ [k]) = Nx.insert (adds L) (entO k) := by unfold adds; rw [List.foldl_append]; rfl
theorem mem_adds {L : List Nat} {x : Nx.Ent} : x ∈ adds L ↔ ∃ k ∈ L, x = entO k := by
  induction L using snocRec with
  | nil => unfold adds; simp
  | snoc L k ih =>
    rw [adds_snoc, Nx.mem_insert, ih]
    constructor
    · rintro (h | ⟨j, hj, h⟩)
      · exact ⟨k, by simp, h⟩
      · exact ⟨j, by simp [hj], h⟩
    · rintro ⟨j, hj, h⟩
      rcases List.mem_append.1 hj with hj | hj
      · exact .inr ⟨j, hj, h⟩
      · simp only [List.mem_singleton] at hj
        subst hj
        exact .inl h
theorem adds_length (L : List Nat) : (adds L).length = L.length := by
  induction L using snocRec with
  | nil => rfl
  | snoc L k ih => rw [adds_snoc, Nx.insert_length, ih, List.length_append]; rfl
theorem adds_none {L : List Nat} {k : Nat} (h8 : ∀ j ∈ L, j < 8) (hk : k < 8) (h : k ∉ L) : Nx.find (adds L) (entO k).path = none := Nx.find_end fun i hi he => by
  obtain ⟨j, hj, hx⟩ := mem_adds.1 (List.getElem_mem hi)
  rw [hx] at he
  exact entO_ne (h8 j hj) hk (fun e => h (e ▸ hj)) he
theorem adds_space {L : List Nat} (h8 : ∀ j ∈ L, j < 8) (hn : L.Nodup) : Nx.Space (adds L) := by
  induction L using snocRec with
  | nil => exact space_nil
  | snoc L k ih =>
    rw [adds_snoc]
    have hn' := List.nodup_append.1 hn
    exact Nx.insert_space (ih (fun j hj => h8 j (by simp [hj])) hn'.1) (entO_ok (h8 k (by simp))) (adds_none (fun j hj => h8 j (by simp [hj])) (h8 k (by simp)) (fun hk => hn'.2.2 k hk k (by simp) rfl))
theorem adds_rev {L : List Nat} (h8 : ∀ j ∈ L, j < 8) (hn : L.Nodup) : adds L.reverse = adds L :=
  Nx.asc_ext (Nx.asc_of_space (adds_space (fun j hj => h8 j (List.mem_reverse.1 hj)) (List.pairwise_reverse.2 (hn.imp fun h e => h e.symm)))) (Nx.asc_of_space (adds_space h8 hn)) fun x => by
    rw [mem_adds, mem_adds]
    simp
/-- The k-th path, where it lies. -/
theorem cell8 {w : World} {g : Nat} {t : TypeId} (h : Obl w g t (sv paths8).toArray) {k : Nat} (hk : k < 8) : w.cell? ⟨g, k, none⟩ = some (.string ⟨(entO k).path.toArray⟩) := by
  have hl : k < paths8.length := hk
  unfold entO
  rw [h.cell, List.getElem?_toArray, sv_at hl, List.getD_eq_getElem?_getD, List.getElem?_eq_getElem hl]
  rfl
/-- The 256 entries of the third name space, the first i of them. -/
def entM (k : Nat) : Nx.Ent := ⟨[47, UInt8.ofNat (97 + k / 16), UInt8.ofNat (97 + k % 16)], 3, [5]⟩
def manyE (i : Nat) : List Nx.Ent := (List.range i).map entM
theorem manyE_length (i : Nat) : (manyE i).length = i := by simp [manyE]
theorem manyE_snoc (i : Nat) : manyE i ++ [entM i] = manyE (i + 1) := by simp [manyE, List.range_succ]
theorem manyE_at {n i : Nat} (h : i < (manyE n).length) : (manyE n)[i] = entM i := by simp [manyE]
theorem entM_ok {k : Nat} (h : k < 256) : (entM k).Ok := by
  have : ∀ k : Fin 256, (entM k.1).Ok := by decide +kernel
  exact this ⟨k, h⟩
theorem entM_lt {k : Nat} (h : k < 255) : Nx.Lt (entM k).path (entM (k + 1)).path := by
  have : ∀ k : Fin 255, Nx.Lt (entM k.1).path (entM (k.1 + 1)).path := by decide +kernel
  exact this ⟨k, h⟩
theorem manyE_space : Nx.Space (manyE 256) := by
  refine ⟨fun i h => ?_, fun i h => ?_⟩
  · rw [manyE_at h]; rw [manyE_length] at h; exact entM_ok h
  · have h' := h
    rw [manyE_length] at h
    rw [manyE_at (by omega), manyE_at h']
    exact entM_lt (by omega)
theorem manyE_none : Nx.find (manyE 256) [47, 122, 122, 122] = none := Nx.find_end fun i h he => by
  rw [manyE_at h] at he
  have := congrArg List.length he
  simp [entM] at this
theorem manyE_some {k : Nat} (h : k < 256) : Nx.find (manyE 256) (entM k).path = some (entM k) := Nx.find_mem (Nx.asc_of_space manyE_space) (by
  unfold manyE
  exact List.mem_map.2 ⟨k, List.mem_range.2 h, rfl⟩)
theorem many_renErr {k : Nat} (h : k < 256) : Nx.renErr (manyE 256) (entM k).path [47, 122, 122, 122] = 0 := by
  unfold Nx.renErr
  rw [manyE_some h, manyE_none, show (some (entM k)).isSome = true from rfl, if_pos rfl, if_pos (by decide)]
  rfl
theorem many_addErr (s : Sl) (hn : s.n = 256) : (Ob.dir s).addErr (manyE 256) ⟨[47, 122, 122, 122], 3, [6]⟩ = 9 := by
  unfold Ob.addErr
  rw [if_pos ⟨dir_names (by omega) manyE_space, by decide⟩, manyE_none, if_neg (by decide), if_pos (by show 256 ≤ s.n; omega)]
end Go.Proofs.YtejhnfeligifgaaDoor
