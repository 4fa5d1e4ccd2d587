/- Layer 9: a row of entries in another order, as the library's sort leaves it. | Layer 9: slices.SortFunc of entries by their paths: a contract. -/
import Derived.Test.YtejhnfeligifgaaDoorNxMath
import Derived.Test.YtejhnfeligifgaaDoorNmAdd
import Derived.Shelf.GgSortFunc.InsertionK
import Derived.Test.YtejhnfeligifgaaDoorSort
import Derived.Test.YtejhnfeligifgaaDoorShelf
import Derived.Test.YtejhnfeligifgaaDoorSame
import Derived.Shelf.SlSortCmp.WholeK
namespace Go.Proofs.YtejhnfeligifgaaDoor
open Go.RowKit

/-- An entry in memory, and what it holds. -/
structure Pr where
  nm : Nm
  ent : Nx.Ent
instance : Inhabited Pr := ⟨⟨⟨[], 0, ⟨none, 0, 0⟩⟩, ⟨[], 0, []⟩⟩⟩
def prc (z : Pr) : List Value := nmc z.nm
def prs (l : List Nm) (F : List Nx.Ent) : List Pr := l.zipWith Pr.mk F
theorem prs_length {l : List Nm} {F : List Nx.Ent} (h : F.length = l.length) : (prs l F).length = l.length := by unfold prs; simp [h]
theorem prs_nm {l : List Nm} {F : List Nx.Ent} (h : F.length = l.length) : (prs l F).map (·.nm) = l := by
  unfold prs
  rw [List.map_zipWith]
  induction l generalizing F with
  | nil => simp
  | cons x l ih =>
    cases F with
    | nil => simp at h
    | cons y F => simp only [List.zipWith_cons_cons, List.cons.injEq, true_and]; exact ih (by simpa using h)
theorem prs_ent {l : List Nm} {F : List Nx.Ent} (h : F.length = l.length) : (prs l F).map (·.ent) = F := by
  unfold prs
  rw [List.map_zipWith]
  induction l generalizing F with
  | nil => cases F with
    | nil => rfl
    | cons y F => simp at h
  | cons x l ih =>
    cases F with
    | nil => simp at h
    | cons y F => simp only [List.zipWith_cons_cons, List.cons.injEq, true_and]; exact ih (by simpa using h)
theorem prs_mem {l : List Nm} {F : List Nx.Ent} {z : Pr} (h : z ∈ prs l F) : ∃ (k : Nat) (h1 : k < l.length) (h2 : k < F.length), l[k] = z.nm ∧ F[k] = z.ent := by
  unfold prs at h
  obtain ⟨k, hk, rfl⟩ := List.getElem_of_mem h
  rw [List.length_zipWith] at hk
  exact ⟨k, by omega, by omega, by rw [List.getElem_zipWith], by rw [List.getElem_zipWith]⟩
theorem flat_cells (d : Array Pr) : (Go.Sort.flatK prc 3 d).toList = nmv (d.toList.map (·.nm)) := by
  apply List.ext_getElem?
  intro t
  by_cases ht : t < d.size * 3
  · have hk : t / 3 < (d.toList.map (·.nm)).length := by rw [List.length_map, Array.length_toList]; omega
    have hk2 : t / 3 < d.size := by omega
    obtain ⟨h0, h1, h2⟩ := nmv_at hk
    have hg : (Go.Sort.flatK prc 3 d).toList[t]? = some ((prc d[t / 3]!)[t % 3]!) := by
      rw [← Go.Sort.get_flatK prc 3 d t ht, Array.getElem?_toList, Array.getElem!_eq_getD, Array.getD_eq_getD_getElem?]
      rw [Array.getElem?_eq_getElem (by simp; omega)]
      rfl
    have he : (d.toList.map (·.nm))[t / 3] = d[t / 3]!.nm := by
      rw [List.getElem_map, getElem!_pos d (t / 3) hk2]
      rfl
    rw [hg]
    rw [he] at h0 h1 h2
    have h3 : t % 3 < 3 := Nat.mod_lt _ (by omega)
    have e3 : t = t / 3 * 3 + t % 3 := by omega
    generalize t / 3 = k at *
    generalize t % 3 = r at *
    subst e3
    obtain rfl | rfl | rfl : r = 0 ∨ r = 1 ∨ r = 2 := by omega
    · rw [Nat.add_zero, h0]; rfl
    · rw [h1]; rfl
    · rw [h2]; rfl
  · rw [List.getElem?_eq_none (by rw [Array.length_toList, Go.Sort.size_flatK]; omega), List.getElem?_eq_none (by rw [nmv_length, List.length_map, Array.length_toList]; omega)]
theorem flat_at {d : Array Pr} {t : Nat} (h : t < d.size * 3) : (nmv (d.toList.map (·.nm)))[t]? = some (Go.Sort.flatK prc 3 d)[t]! := by
  rw [← flat_cells, Array.getElem?_toList, Array.getElem!_eq_getD, Array.getD_eq_getD_getElem?, Array.getElem?_eq_getElem (by simp; omega)]
  rfl
/-- The row, as the sort reads it. -/
theorem holds_row {w : World} {base g n c : Nat} {l : List Nm} {F : List Nx.Ent} (h : NmOutE w base (some ⟨g, 0, none⟩) n c l F) : Go.Sort.HoldsK prc 3 w g 0 (prs l F).toArray := by
  have hl := own_nmv h.own.1
  have hF := h.has.1
  rcases h.own.1.2 with ⟨he, _⟩ | ⟨g', cap, cur, he, hbg, hg, hnc, hcm, hcs, hct⟩
  · cases he
  simp only [Value.slice.injEq, Option.some.injEq, Addr.mk.injEq, and_true] at he
  obtain ⟨rfl, _, rfl⟩ := he
  unfold Go.Sort.HoldsK Go.Sort.Holds
  intro j hj
  rw [Go.Sort.size_flatK] at hj
  have h1 := flat_at hj
  have hsz : (prs l F).toArray.size = n := by rw [List.size_toArray, prs_length hF, hl]
  rw [List.toList_toArray, prs_nm hF, ← hct, List.getElem?_take_of_lt (by omega), Array.getElem?_toList] at h1
  refine ⟨?_, by simp [World.frozen?, hg]⟩
  simp only [World.cell?, hg, Nat.zero_add]
  rw [h1]; rfl
/-- The world behind the sort: the row and nothing else. -/
theorem sort_heap {w : World} {g : Nat} {cur : Array Value} {t : TypeId} {d : Array Pr} (m : Nat) (os : Array Obj) (hg : w.heap[g]? = some (.cells cur t (0, 0))) :
    (Go.Proofs.sortWorldK prc 3 w g 0 m d os).heap[g]? = some (.cells (Go.Sort.putCells id 0 (Go.Sort.flatK prc 3 d) cur) t (0, 0)) := by
  have hlt : g < w.heap.size := by
    rcases Nat.lt_or_ge g w.heap.size with h | h
    · exact h
    · rw [Array.getElem?_eq_none h] at hg; cases hg
  unfold Go.Proofs.sortWorldK Go.Sort.grow Go.Sort.putRowK Go.Sort.putRow Go.Sort.mapBlock Go.Sort.ahead
  simp only
  rw [Array.getElem?_append_left (by simpa using hlt), Array.getElem?_modify, if_pos rfl, hg]
  rfl
theorem sort_grown {w : World} {g : Nat} {d : Array Pr} (m : Nat) (os : Array Obj) : w.grownBy (Go.Proofs.sortWorldK prc 3 w g 0 m d os) (some g) := by
  refine ⟨rfl, rfl, rfl, ?_, fun k hk hne => ?_⟩
  · unfold Go.Proofs.sortWorldK Go.Sort.grow Go.Sort.putRowK Go.Sort.putRow Go.Sort.mapBlock Go.Sort.ahead
    simp
  · unfold Go.Proofs.sortWorldK Go.Sort.grow Go.Sort.putRowK Go.Sort.putRow Go.Sort.mapBlock Go.Sort.ahead
    simp only
    rw [Array.getElem?_append_left (by simpa using hk), Array.getElem?_modify, if_neg (fun e => hne (by rw [e]))]
theorem put_take {F cur : Array Value} {n : Nat} (hF : F.size = n) (hn : n ≤ cur.size) : (Go.Sort.putCells id 0 F cur).toList.take n = F.toList := by
  apply List.ext_getElem?
  intro t
  by_cases ht : t < n
  · rw [List.getElem?_take_of_lt ht, Array.getElem?_toList, Array.getElem?_toList]
    unfold Go.Sort.putCells
    rw [Array.getElem?_mapIdx, Array.getElem?_eq_getElem (show t < cur.size by omega), Option.map_some, if_pos (by omega), Array.getElem?_eq_getElem (show t < F.size by omega), Nat.sub_zero, getElem!_pos F t (by omega)]
    rfl
  · rw [List.getElem?_take_eq_none (by omega), List.getElem?_eq_none (by rw [Array.length_toList]; omega)]
/-- Entries in another order. -/
theorem sorted_out {w : World} {base g n c : Nat} {l : List Nm} {F : List Nx.Ent} (h : NmOutE w base (some ⟨g, 0, none⟩) n c l F) {d : Array Pr} (m : Nat) (os : Array Obj) (hs : d.size = n) (hp : ∀ z ∈ d.toList, z ∈ prs l F) :
    NmOutE (Go.Proofs.sortWorldK prc 3 w g 0 m d os) base (some ⟨g, 0, none⟩) n c (d.toList.map (·.nm)) (d.toList.map (·.ent)) := by
  have hl := own_nmv h.own.1
  have hF := h.has.1
  have hgr := sort_grown (w := w) (g := g) (d := d) m os
  have hkeep : ∀ (x : Nm) (I : List Int), w.ownsRow base 22 1 (.slice x.ids.A x.ids.n x.ids.c) x.ids.n (nv .u64 I) → (Go.Proofs.sortWorldK prc 3 w g 0 m d os).ownsRow base 22 1 (.slice x.ids.A x.ids.n x.ids.c) x.ids.n (nv .u64 I) :=
    fun x I hI => hI.kept hgr (own_apart hI h.own.1 (by decide))
  have hz : ∀ z ∈ d.toList, (z.nm.path = z.ent.path ∧ z.nm.kind = z.ent.kind ∧ w.ownsRow base 22 1 (.slice z.nm.ids.A z.nm.ids.n z.nm.ids.c) z.nm.ids.n (nv .u64 z.ent.ids)) ∧ z.nm ∈ l := fun z hz => by
    obtain ⟨k, h1, h2, e1, e2⟩ := prs_mem (hp z hz)
    have := h.has.2 k h1 h2
    rw [e1, e2] at this
    exact ⟨this, by rw [← e1]; exact List.getElem_mem h1⟩
  refine ⟨⟨?_, fun x hx => ?_⟩, fun x hx => ?_, Nat.le_trans h.base_le hgr.size, by rw [List.length_map, List.length_map], fun k h1 h2 => ?_⟩
  · rcases h.own.1.2 with ⟨he, _⟩ | ⟨g', cap, cur, he, hbg, hg, hnc, hcm, hcs, hct⟩
    · cases he
    simp only [Value.slice.injEq, Option.some.injEq, Addr.mk.injEq, and_true] at he
    obtain ⟨rfl, _, rfl⟩ := he
    refine ⟨by rw [nmv_length, List.length_map, Array.length_toList, hs], .inr ⟨g, c, _, rfl, hbg, sort_heap m os hg, hnc, hcm, by unfold Go.Sort.putCells; rw [Array.size_mapIdx, hcs], ?_⟩⟩
    rw [← flat_cells]
    exact put_take (by rw [Go.Sort.size_flatK, hs]) (by rw [hcs]; exact Nat.mul_le_mul_right _ hnc)
  · obtain ⟨z, hz1, rfl⟩ := List.mem_map.1 hx
    exact ⟨_, hkeep _ _ (hz z hz1).1.2.2⟩
  · obtain ⟨z, hz1, rfl⟩ := List.mem_map.1 hx
    exact h.short _ (hz z hz1).2
  · rw [List.length_map] at h1
    have := (hz _ (List.getElem_mem h1)).1
    rw [List.getElem_map, List.getElem_map]
    exact ⟨this.1, this.2.1, hkeep _ _ this.2.2⟩
namespace Nx
/-- In order, and of different paths: ascending. -/
theorem asc_sorted {F : List Ent} (h : ∀ i j (hi : i < F.length) (hj : j < F.length), i < j → ¬ Lt F[j].path F[i].path) (hd : F.Pairwise fun a b => a.path ≠ b.path) : Asc F := by
  unfold Asc
  rw [List.pairwise_iff_getElem] at hd ⊢
  exact fun i j hi hj hij => lt_total (h i j hi hj hij) (fun e => hd i j hi hj hij e.symm)
/-- One entry under another path, where it lies. -/
theorem mem_set {E : List Ent} (hA : Asc E) {i : Nat} (hi : i < E.length) {p : List UInt8} {x : Ent} : x ∈ E.set i (E[i].as p) ↔ x ∈ moved E E[i] p := by
  rw [mem_moved]
  constructor
  · intro h
    obtain ⟨k, hk, rfl⟩ := List.getElem_of_mem h
    rw [List.length_set] at hk
    rw [List.getElem_set]
    split
    · exact .inl rfl
    · rename_i hne
      refine .inr ⟨List.getElem_mem hk, ?_⟩
      rcases Nat.lt_or_gt_of_ne hne with h1 | h1
      · exact fun e => lt_ne (asc_at hA hk h1) e.symm
      · exact lt_ne (asc_at hA hi h1)
  · rintro (rfl | ⟨hx, hne⟩)
    · exact List.mem_iff_getElem.2 ⟨i, by rw [List.length_set]; exact hi, List.getElem_set_self ..⟩
    · obtain ⟨k, hk, rfl⟩ := List.getElem_of_mem hx
      have hki : i ≠ k := fun e => hne (by subst e; rfl)
      exact List.mem_iff_getElem.2 ⟨k, by rw [List.length_set]; exact hk, List.getElem_set_ne hki ..⟩
theorem set_apart {E : List Ent} (hA : Asc E) {i : Nat} (hi : i < E.length) {p : List UInt8} (hp : find E p = none) : (E.set i (E[i].as p)).Pairwise fun a b => a.path ≠ b.path := by
  have hne := find_none hp
  rw [List.pairwise_iff_getElem]
  intro a b ha hb hab
  rw [List.length_set] at ha hb
  rw [List.getElem_set, List.getElem_set]
  split
  · split
    · omega
    · exact fun e => hne _ (List.getElem_mem hb) e.symm
  · split
    · exact fun e => hne _ (List.getElem_mem ha) e
    · exact lt_ne (asc_at hA hb hab)
end Nx
end Go.Proofs.YtejhnfeligifgaaDoor
namespace Go.Proofs.YtejhnfeligifgaaDoor
open Go.RowKit

def prcmp (x y : Pr) : Int := Lib.compareBytes x.nm.path y.nm.path
theorem pr_lt (x y : Pr) : Go.Proofs.ltOf prcmp x y = decide (Nx.Lt x.nm.path y.nm.path) := by
  unfold Go.Proofs.ltOf prcmp
  exact decide_eq_decide.2 (Nx.cmp_lt _ _)
theorem pr_swo : Go.Sort.SWO (Go.Proofs.ltOf prcmp) where
  irrefl x := by rw [pr_lt]; exact decide_eq_false (Nx.lt_irrefl _)
  trans x y z h1 h2 := by
    rw [pr_lt] at *
    exact decide_eq_true (Nx.lt_trans (of_decide_eq_true h1) (of_decide_eq_true h2))
  ntrans x y z h1 h2 := by
    rw [pr_lt] at *
    refine decide_eq_false (fun h => ?_)
    have a := of_decide_eq_false h1
    have b := of_decide_eq_false h2
    by_cases e : x.nm.path = y.nm.path
    · rw [e] at h; exact b h
    · exact b (Nx.lt_trans (Nx.lt_total a e) h)
set_option maxRecDepth 100000 in
set_option maxHeartbeats 4000000 in
theorem nxCmp2_any (x y : Nm) (W : World) : Calls Tryd.prog 58 #[.agg (nc x), .agg (nc y)] W fun e w' => e = .returned (.int .i64 (Lib.compareBytes x.path y.path)) ∧ ∃ q os', w' = Go.Sort.grow (W.drewN q) os' := by
  obtain ⟨w1, hw, O1, O2, hb⟩ := start_two W 51 (nc x) (nc y)
  have HG : Hid (w1 = Go.Sort.grow (W.drewN 0) #[.cells (nc x) 51 (0, 0), .cells (nc y) 51 (0, 0)]) := hide (by
    rw [← hw, Go.Sort.alloc_eq_grow, Go.Sort.alloc_eq_grow, Go.Sort.grow_grow]; rfl)
  have k0 : w1.cell? ⟨W.heap.size, 0, none⟩ = some (.string ⟨x.path.toArray⟩) := O1.cell 0
  have k1 : w1.cell? ⟨W.heap.size + 1, 0, none⟩ = some (.string ⟨y.path.toArray⟩) := O2.cell 0
  obtain ⟨r, hr⟩ : ∃ r, Lib.compareBytes x.path y.path = r := ⟨_, rfl⟩
  have HC : Hid (∀ w, Calls Tryd.prog 59 #[.string ⟨x.path.toArray⟩, .string ⟨y.path.toArray⟩] w fun e w' => e = .returned (.int .i64 r) ∧ w' = w) := hide (fun w => by rw [← hr]; exact Tryd.strings_Compare ⟨x.path.toArray⟩ ⟨y.path.toArray⟩ w)
  rw [hr]
  clear hb O1 O2 hr
  go_enter Tryd.func58, Tryd.ntmps58
  go_wp2_with fail
  refine (HC.out _).mono ?_
  rintro e w2 ⟨rfl, q2⟩
  rw [q2]
  clear q2 w2 HC
  go_wp2_with fail
  go_ret
  exact ⟨rfl, 0, _, HG.out⟩
/-- In order, the same entries. -/
def SortIs (base g n c : Nat) (F : List Nx.Ent) (w : World) (e : Ending) (w' : World) : Prop := e = .returned (.tuple #[]) ∧ ∃ l' F', NmOutE w' base (some ⟨g, 0, none⟩) n c l' F' ∧ (∀ i j (hi : i < F'.length) (hj : j < F'.length), i < j → ¬ Nx.Lt F'[j].path F'[i].path) ∧ F'.Perm F ∧ w.grownBy w' (some g)
theorem nxSort_any (base g n c : Nat) (l : List Nm) (F : List Nx.Ent) (w : World) (h : NmOutE w base (some ⟨g, 0, none⟩) n c l F) (hn : n ≤ 1000) (hg : g < w.heap.size) :
    Calls Tryd.prog 57 #[.slice (some ⟨g, 0, none⟩) n c, .func (.func 58) #[] #[]] w (SortIs base g n c F w) := by
  have hl := own_nmv h.own.1
  have hF := h.has.1
  have eg : ∀ args w, (callFunc 58 args).run Tryd.prog w = .ok (.enter 58 args) w := enters_of Tryd.func58 (by kernel_rfl) rfl
  have hs : (prs l F).toArray.size = n := by rw [List.size_toArray, prs_length hF, hl]
  have hcon := AnyQ.slices_SortFunc Tryd.laysSort 3 Tryd.isAgg51 Tryd.sizeOf51 prc (fun _ => rfl) (fun x v hv => by
    simp only [prc, nmc, List.mem_cons, List.not_mem_nil, or_false] at hv
    rcases hv with rfl | rfl | rfl <;> rfl) prcmp pr_swo 58 #[] g 0 c (prs l F).toArray w eg (fun _ _ _ _ x y => nxCmp2_any x.nm y.nm _) (holds_row h) hg (by rw [hs]; omega)
  rw [hs] at hcon
  refine hcon.mono ?_
  rintro e w' ⟨rfl, d', m, os, hp, hsd, rfl⟩
  obtain ⟨hp1, _, hp3⟩ := hp
  rw [hs] at hp1
  have hp4 : d'.toList.Perm (prs l F) := by
    have a : d'.extract 0 n = d' := by rw [← hp1]; exact Array.extract_size
    have b : (prs l F).toArray.extract 0 n = (prs l F).toArray := by rw [← hs]; exact Array.extract_size
    rw [a, b] at hp3
    exact hp3
  have hout := sorted_out h m os hp1 (fun z hz => hp4.mem_iff.1 hz)
  refine ⟨rfl, _, _, hout, fun i j hi hj hij => ?_, ?_, sort_grown m os⟩
  · rw [List.length_map, Array.length_toList] at hi hj
    have h1 := hsd i j (Nat.zero_le _) hij (by omega)
    rw [pr_lt, getElem!_pos d' i hi, getElem!_pos d' j hj] at h1
    have hz : ∀ k (hk : k < d'.size), d'[k].nm.path = d'[k].ent.path := fun k hk => by
      have := (hout.has.2 k (by rw [List.length_map, Array.length_toList]; exact hk) (by rw [List.length_map, Array.length_toList]; exact hk)).1
      rw [List.getElem_map, List.getElem_map] at this
      exact this
    rw [List.getElem_map, List.getElem_map]
    have h2 := of_decide_eq_false h1
    rw [hz i hi, hz j hj] at h2
    exact h2
  · have := hp4.map (·.ent)
    rwa [prs_ent hF] at this
end Go.Proofs.YtejhnfeligifgaaDoor
