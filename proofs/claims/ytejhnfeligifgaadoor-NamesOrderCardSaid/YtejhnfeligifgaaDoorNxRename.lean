/- Layer 9: the reference's Rename: a contract. | Layer 9: package names' Rename: a contract. -/
import Derived.Test.YtejhnfeligifgaaDoorNmAdd
import Derived.Test.YtejhnfeligifgaaDoorNxMath
import Derived.Test.YtejhnfeligifgaaDoorNxSort
import Derived.Test.YtejhnfeligifgaaDoorNxLaw
namespace Go.Proofs.YtejhnfeligifgaaDoor
open Go.RowKit

/-- The error of Rename. -/
def Ob.renErr (o : Ob) (E : List Nx.Ent) (p q : List UInt8) : Int := if o.Names E then (if (Nx.find E p).isSome then (if Nx.Path q then (if (Nx.find E q).isSome then 7 else 0) else 1) else 6) else 1
/-- The entries with that of p under q. -/
def Nx.renamed (E : List Nx.Ent) (p q : List UInt8) : List Nx.Ent := match Nx.find E p with | some e => Nx.moved E e q | none => []
/-- The name space with other entries, or nothing and the error. -/
def ObIs (o : Ob) (r : Int) (F : List Nx.Ent) (w : World) (e : Ending) (w' : World) : Prop :=
  (r = 0 ∧ ∃ A n c l, e = .returned (.tuple #[.agg (oc { o with names := ⟨A, n, c⟩ }), .int .i64 0]) ∧ NmOutE w' w.heap.size A n c l F ∧ Below w.heap.size w w') ∨
  (r ≠ 0 ∧ e = .returned (.tuple #[.agg (oc Ob.zero), .int .i64 r]) ∧ Below w.heap.size w w')
theorem ObIs.no {o : Ob} {F : List Nx.Ent} {w w' : World} {r s : Int} (h : r = s) (hr : s ≠ 0) (hb : Below w.heap.size w w') : ObIs o r F w (.returned (.tuple #[.agg (oc Ob.zero), .int .i64 s])) w' := .inr ⟨by rw [h]; exact hr, by rw [h], hb⟩
/-- Entries in a row of the call's own (above u), their identifiers elsewhere (below B). -/
structure RestIs (w : World) (u B : Nat) (A : Option Addr) (n c : Nat) (L : List Nm) (F : List Nx.Ent) : Prop where
  own : w.ownsRow u 51 3 (.slice A n c) n (nmv L)
  len : F.length = L.length
  short : Short L
  base : B ≤ u
  base_le : u ≤ w.heap.size
  has : ∀ (k : Nat) (h : k < L.length) (h' : k < F.length), L[k].path = F[k].path ∧ L[k].kind = F[k].kind ∧ Nums .u64 w B L[k].ids.A L[k].ids.n F[k].ids
section
variable {w w' : World} {u B n c : Nat} {A : Option Addr} {L : List Nm} {F : List Nx.Ent}
theorem RestIs.ents (h : RestIs w u B A n c L F) : Ents w w.heap.size A n L F := by
  have hl := own_nmv h.own
  have hB : B ≤ w.heap.size := Nat.le_trans h.base h.base_le
  refine ⟨⟨hl, Row.of_own h.own, fun x hx => ?_⟩, by rw [h.len, hl], fun k h1 h2 => ⟨(h.has k h1 h2).1, (h.has k h1 h2).2.1, (h.has k h1 h2).2.2.mono hB⟩⟩
  obtain ⟨k, hk, rfl⟩ := List.getElem_of_mem hx
  exact ⟨_, (h.has k hk (by rw [h.len]; exact hk)).2.2.mono hB⟩
theorem RestIs.keep (h : RestIs w u B A n c L F) (hk : ∀ g, u ≤ g → g < w.heap.size → w'.heap[g]? = w.heap[g]?) (hb : Below B w w') : RestIs w' u B A n c L F :=
  ⟨own_keep h.own hk, h.len, h.short, h.base, Nat.le_trans h.base_le hb.size, fun k h1 h2 => ⟨(h.has k h1 h2).1, (h.has k h1 h2).2.1, (h.has k h1 h2).2.2.below hb⟩⟩
theorem RestIs.later (h : RestIs w u B A n c L F) (hb : Below w.heap.size w w') : RestIs w' u B A n c L F := h.keep (keep_below hb) (hb.mono (Nat.le_trans h.base h.base_le))
theorem RestIs.more {n3 c3 : Nat} {A3 : Option Addr} {x : Nm} {z : Nx.Ent} (h : RestIs w u B A n c L F) (hx : x.path.length ≤ 1000 ∧ x.ids.n ≤ 1000) (hz : x.path = z.path ∧ x.kind = z.kind ∧ Nums .u64 w B x.ids.A x.ids.n z.ids)
    (hown : w'.ownsRow u 51 3 (.slice A3 n3 c3) n3 (nmv (L ++ [x]))) (hb : Below B w w') : RestIs w' u B A3 n3 c3 (L ++ [x]) (F ++ [z]) := by
  refine ⟨hown, by simp [h.len], fun y hy => ?_, h.base, Nat.le_trans h.base_le hb.size, fun k h1 h2 => ?_⟩
  · rcases List.mem_append.1 hy with hy | hy
    · exact h.short y hy
    · simp only [List.mem_singleton] at hy
      subst hy
      exact hx
  · by_cases hk : k < L.length
    · rw [List.getElem_append_left hk, List.getElem_append_left (by have := h.len; omega)]
      obtain ⟨a, b, d⟩ := h.has k hk (by have := h.len; omega)
      exact ⟨a, b, d.below hb⟩
    · have : k = L.length := by simp at h1; omega
      subst this
      rw [List.getElem_append_right (by omega), List.getElem_append_right (by have := h.len; omega)]
      simp only [h.len, Nat.sub_self, List.getElem_cons_zero]
      exact ⟨hz.1, hz.2.1, hz.2.2.below hb⟩
end
theorem Nx.but_take {E : List Nx.Ent} {p : List UInt8} {k : Nat} (h : k < E.length) : Nx.but (E.take (k + 1)) p = if E[k].path = p then Nx.but (E.take k) p else Nx.but (E.take k) p ++ [E[k]] := by
  unfold Nx.but
  rw [List.take_succ_eq_append_getElem h, List.filter_append]
  split
  · rename_i he
    rw [List.filter_cons_of_neg (by simpa using he)]; simp
  · rename_i he
    rw [List.filter_cons_of_pos (by simpa using he)]; simp
set_option maxRecDepth 100000 in
set_option maxHeartbeats 16000000 in
theorem refRen_any (o : Ob) (p q : ByteArray) (l : List Nm) (E : List Nx.Ent) (W : World) (hl0 : Ents W W.heap.size o.names.A o.names.n l E) (hs : Short l) (hn : o.names.n ≤ 1000) (hp : p.size ≤ 9223372036854775807) (hq : q.size ≤ 9223372036854775807) :
    Calls Tryd.prog 25 #[.agg (oc o), .string p, .string q] W (ObIs o (o.renErr E p.data.toList q.data.toList) (Nx.renamed E p.data.toList q.data.toList) W) := by
  obtain ⟨w1, hw, O, OR, hb, hs1⟩ : ∃ w1, (W.alloc (.cells (oc o) 41)).alloc (.cells #[.int .u64 0, .int .i64 0, .int .i64 0, .int .i64 0, .int .u64 0, .slice none 0 0, .slice none 0 0, .slice none 0 0, .int .i64 0, .int .i64 0, .int .i64 0, .int .i64 0, .int .i64 0, .int .i64 0, .int .i64 0, .int .i64 0, .int .i64 0, .int .i64 0,
      .slice none 0 0, .slice none 0 0, .int .i64 0, .int .i64 0, .int .i64 0, .slice none 0 0, .slice none 0 0, .int .i64 0, .int .u64 0, .int .i64 0, .int .i64 0, .slice none 0 0, .slice none 0 0, .slice none 0 0, .int .i64 0, .int .i64 0, .int .i64 0, .slice none 0 0] 41) = w1 ∧
      Obl w1 W.heap.size 41 (oc o) ∧ Obl w1 (W.heap.size + 1) 41 (oc Ob.zero) ∧ Below W.heap.size W w1 ∧ w1.heap.size = W.heap.size + 2 := by
    refine ⟨_, rfl, (Obl.make W _ _).alloc _, ?_, ((Below.refl _ _).alloc (Nat.le_refl _) _).alloc (by simp) _, by simp⟩
    have := Obl.make (W.alloc (.cells (oc o) 41)) 41 (oc Ob.zero)
    rw [World.size_alloc] at this
    exact this
  have HB := hide hb
  have HEN := hide hl0
  have HS := hide hs
  have HPQ := hide (And.intro hp hq)
  obtain ⟨F, hF⟩ : ∃ F, Nx.renamed E p.data.toList q.data.toList = F := ⟨_, rfl⟩
  rw [hF]
  have HF0 := hide hF
  clear hb hl0 hs hp hq hF
  go_enter Tryd.func25, Tryd.ntmps25
  go_wp2_with (first | (refine load_ob rfl _ rfl rfl O ?_) | fail)
  refine (refNames_any o l E _ ((HEN.out.below HB.out).mono HB.out.size) HS.out).mono ?_
  rintro e w2 ⟨rfl, hb2⟩
  obtain ⟨bv, hbv⟩ : ∃ bv, decide (o.Names E) = bv := ⟨_, rfl⟩
  rw [hbv]
  have HBV := hide hbv
  clear hbv
  replace O := O.below hb2 O.lt
  replace OR := OR.below hb2 OR.lt
  replace HB := hide (HB.out.trans (hb2.mono HB.out.size))
  clear hb2 hw hs1
  cases bv with
  | false =>
    have HF := hide (show o.renErr E p.data.toList q.data.toList = 1 from if_neg (of_decide_eq_false HBV.out))
    go_wp2_with (first | (refine store_ob rfl _ _ rfl rfl (c := Ob.zero) rfl OR rfl ?_) | fail)
    refine bodyPost_ret (ret_ob2 rfl _ rfl (OR.row_same (oc Ob.zero))) rfl ?_
    exact ObIs.no HF.out (by decide) (below_row HB.out (by omega) _)
  | true =>
    have HNM := hide (of_decide_eq_true HBV.out)
    have HE2 := hide (show o.renErr E p.data.toList q.data.toList = (if (Nx.find E p.data.toList).isSome then (if Nx.Path q.data.toList then (if (Nx.find E q.data.toList).isSome then 7 else 0) else 1) else 6) from if_pos HNM.out)
    have HFD := hide (fun s => show o.found E s = Nx.find E s from if_pos HNM.out)
    clear HBV
    have hw2 : W.heap.size + 2 ≤ w2.heap.size := by have := OR.lt; omega
    go_wp2_with (first | (refine load_ob rfl _ rfl rfl O ?_) | fail)
    refine (refFind_any o p l E _ ((HEN.out.below HB.out).mono HB.out.size) HS.out hn).mono ?_
    rintro e w3 ⟨hf3, hb3⟩
    rw [HFD.out] at hf3
    replace O := O.below hb3 O.lt
    replace OR := OR.below hb3 OR.lt
    replace HB := hide (HB.out.trans (hb3.mono HB.out.size))
    have hsz3 := hb3.size
    rcases hf3 with ⟨y, z, hfz, rfl, hyp, hyk, hown⟩ | ⟨hfz, rfl⟩
    rotate_left
    · have HF := hide (show o.renErr E p.data.toList q.data.toList = 6 from by rw [HE2.out, hfz]; rfl)
      obtain ⟨w4, hw4, g, hg, w5, hw5, OZ, ON, hb5, hs5⟩ := start_nm w3 ⟨[], 0, ⟨none, 0, 0⟩⟩
      have hgO : W.heap.size + 1 < g := by have := OR.lt; omega
      replace OR := OR.below hb5 (by omega)
      replace HB := hide (HB.out.trans (hb5.mono (by omega)))
      clear hb3 hb5 ON HE2 HFD hfz hsz3 O
      go_wp2_with (first | (refine store_nm rfl _ _ rfl rfl (c := ⟨[], 0, ⟨none, 0, 0⟩⟩) rfl OZ rfl ?_; rw [hw5]) | (refine store_ob rfl _ _ rfl rfl (c := Ob.zero) rfl OR rfl ?_) | fail)
      refine bodyPost_ret (ret_ob2 rfl _ rfl (OR.row_same (oc Ob.zero))) rfl ?_
      exact ObIs.no HF.out (by decide) (below_row HB.out (by omega) _)
    have HOW := hide (own_weaken (base' := W.heap.size + 2) hown hw2)
    obtain ⟨w4, hw4, g, hg, w5, hw5, OZ, ON, hb5, hs5⟩ := start_nm w3 y
    have hgO : W.heap.size + 1 < g := by have := OR.lt; omega
    replace O := O.below hb5 (by omega)
    replace OR := OR.below hb5 (by omega)
    replace HB := hide (HB.out.trans (hb5.mono (by omega)))
    have HOW5 := hide (own_keep HOW.out (keep_below (hg.symm ▸ hb5)))
    have HFZ := hide hfz
    have HY := hide (And.intro hyp hyk)
    have HE3 := hide (show o.renErr E p.data.toList q.data.toList = (if Nx.Path q.data.toList then (if (Nx.find E q.data.toList).isSome then 7 else 0) else 1) from by rw [HE2.out, hfz]; rfl)
    have hgs : g < w5.heap.size := by omega
    clear hb3 hb5 HE2 hown HOW hfz hyp hyk hsz3 hs5
    go_wp2_with (first | (refine store_nm rfl _ _ rfl rfl (c := y) rfl OZ rfl ?_; rw [hw5]) | fail)
    clear OZ hw4 hw5 hg
    refine (refPath_any q _ HPQ.out.2).mono ?_
    rintro e w6 ⟨rfl, q6⟩
    rw [q6]
    clear q6 w6
    by_cases hqp : Nx.Path q.data.toList
    rotate_left
    · rw [decide_eq_false hqp]
      have HF := hide (show o.renErr E p.data.toList q.data.toList = 1 from by rw [HE3.out, if_neg hqp])
      clear HE3 hqp
      go_wp2_with (first | (refine store_ob rfl _ _ rfl rfl (c := Ob.zero) rfl OR rfl ?_) | fail)
      refine bodyPost_ret (ret_ob2 rfl _ rfl (OR.row_same (oc Ob.zero))) rfl ?_
      exact ObIs.no HF.out (by decide) (below_row HB.out (by omega) _)
    rw [decide_eq_true hqp]
    have HQP := hide hqp
    have HE4 := hide (HE3.out.trans (if_pos hqp))
    clear HE3 hqp
    go_wp2_with (first | (refine load_ob rfl _ rfl rfl O ?_) | fail)
    refine (refFind_any o q l E _ ((HEN.out.below HB.out).mono HB.out.size) HS.out hn).mono ?_
    rintro e w6 hf6
    rw [HFD.out] at hf6
    obtain ⟨y2, rfl, hb6⟩ := hf6.yes
    clear hf6
    replace O := O.below hb6 O.lt
    replace OR := OR.below hb6 OR.lt
    replace ON := ON.below hb6 ON.lt
    replace HB := hide (HB.out.trans (hb6.mono HB.out.size))
    replace HOW5 := hide (own_keep HOW5.out (keep_below hb6))
    obtain ⟨w7, hw7, g2, hg2, w8, hw8, OZ, ON2, hb8, hs8⟩ := start_nm w6 y2
    have hg2O : g < g2 := by have := ON.lt; omega
    replace O := O.below hb8 (by omega)
    replace OR := OR.below hb8 (by omega)
    replace ON := ON.below hb8 hg2O
    replace HB := hide (HB.out.trans (hb8.mono (by omega)))
    replace HOW5 := hide (own_keep HOW5.out (keep_below (hg2.symm ▸ hb8)))
    clear hb6 hb8 ON2 hs8 HFD
    obtain ⟨v, hv⟩ : ∃ v, (Nx.find E q.data.toList).isSome = v := ⟨_, rfl⟩
    rw [hv]
    have HV := hide hv
    clear hv
    cases v with
    | true =>
      have HF := hide (show o.renErr E p.data.toList q.data.toList = 7 from by rw [HE4.out, HV.out]; rfl)
      clear HE4 HV
      go_wp2_with (first | (refine store_nm rfl _ _ rfl rfl (c := y2) rfl OZ rfl ?_; rw [hw8]) | (refine store_ob rfl _ _ rfl rfl (c := Ob.zero) rfl OR rfl ?_) | fail)
      refine bodyPost_ret (ret_ob2 rfl _ rfl (OR.row_same (oc Ob.zero))) rfl ?_
      exact ObIs.no HF.out (by decide) (below_row HB.out (by omega) _)
    | false =>
      have HF := hide (show o.renErr E p.data.toList q.data.toList = 0 from by rw [HE4.out, HV.out]; rfl)
      have HNF : Hid (Nx.find E q.data.toList = none) := hide (by simpa using HV.out)
      clear HE4 HV
      obtain ⟨n, hnn⟩ : ∃ n, o.names.n = n := ⟨_, rfl⟩
      have HN := hide hnn
      have HE1 : Hid (E.length = n) := hide (HEN.out.len.trans hnn)
      have hn' : (n : Int) ≤ 1000 := by omega
      have hn0 : 0 < n := by
        obtain ⟨_, hx⟩ := Nx.find_path HFZ.out
        have := List.length_pos_of_mem hx
        have := HE1.out
        omega
      have hL0 := HEN.out.nms
      rw [hnn] at hL0
      obtain ⟨b1, f1, _, hA, _⟩ := hL0.at_ (i := 0) hn0
      have HA := hide hA
      have k35 : w8.cell? ⟨W.heap.size, 35, none⟩ = some (.slice (some ⟨b1, f1, none⟩) n o.names.c) := (O.cell 35).trans (by show some (Value.slice o.names.A o.names.n o.names.c) = _; rw [hnn, hA])
      obtain ⟨u, hu⟩ : ∃ u, w8.heap.size = u := ⟨_, rfl⟩
      have hgu : g < u := by have := ON.lt; omega
      have M0 : Hid (RestIs w8 u W.heap.size none 0 0 [] []) := hide ⟨own_nil, rfl, (by intro y hy; simp at hy), by omega, by omega, fun k h => by simp at h⟩
      have HOU : Hid (w8.ownsRow (W.heap.size + 2) 22 1 (.slice y.ids.A y.ids.n y.ids.c) y.ids.n (nv .u64 z.ids)) := HOW5
      clear hL0 hA hnn hn HOW5
      go_wp2_with (first | (refine store_nm rfl _ _ rfl rfl (c := y2) rfl OZ rfl ?_; rw [hw8]) | fail)
      clear OZ hw7 hw8 hg2
      go_loopw [12, 43] (fun s12 s43 wr => ∃ (k m c' : Nat) (A' : Option Addr) (L : List Nm), s43 = .int .i64 (k : Int) ∧ s12 = .slice A' m c' ∧ k ≤ n ∧ m ≤ k ∧ Hid (RestIs wr u W.heap.size A' m c' L (Nx.but (E.take k) p.data.toList)) ∧ Obl wr W.heap.size 41 (oc o) ∧ Obl wr (W.heap.size + 1) 41 (oc Ob.zero) ∧ Obl wr g 51 (nc y) ∧ Hid (wr.ownsRow (W.heap.size + 2) 22 1 (.slice y.ids.A y.ids.n y.ids.c) y.ids.n (nv .u64 z.ids)) ∧ Hid (Below W.heap.size W wr)) (fun _ s43 _ => n - (intOf s43).toNat)
      case atStart => exact ⟨0, 0, 0, none, [], rfl, rfl, by omega, by omega, M0, O, OR, ON, HOU, HB⟩
      case round =>
        clear M0 O OR ON HB k35 HOU hu
        obtain ⟨k, m, c', A', L, rfl, rfl, hk, hmk, M, O, OR, ON, HOW, HB⟩ := hrel
        by_cases hlt : k < n
        · have hlt' : (k : Int) < (n : Int) := by omega
          have hLr := HEN.out.nms.below HB.out
          rw [HN.out, HA.out] at hLr
          obtain ⟨b1', f1', hkl, hA, hb1, c0, c1, c2, _, _⟩ := hLr.at_ hlt
          simp only [Option.some.injEq, Addr.mk.injEq, and_true] at hA
          obtain ⟨rfl, rfl⟩ := hA
          have hx := hide (HS.out _ (List.getElem_mem hkl))
          have hEr := HEN.out.below HB.out
          rw [HN.out, HA.out] at hEr
          obtain ⟨_, hkE, _, hIE⟩ := hEr.ent hlt
          have HPT := hide (hEr.2.2 k hkl hkE)
          have HBT := hide (Nx.but_take (p := p.data.toList) hkE)
          clear hIE hEr
          generalize l[k] = x at *
          generalize E[k] = ez at *
          obtain ⟨w3, hw3, gk, hgk, w4, hw4, OZ, OX, hb4, hs4⟩ := start_nm wr x
          have hgg : g < gk := by have := ON.lt; omega
          have hug : u ≤ gk := by have := M.out.base_le; omega
          replace O := O.below hb4 (by omega)
          replace OR := OR.below hb4 (by omega)
          replace ON := ON.below hb4 hgg
          replace M := hide (M.out.later (hgk.symm ▸ hb4))
          replace HOW := hide (own_keep HOW.out (keep_below (hgk.symm ▸ hb4)))
          have HXP := hide (show x.path = ez.path ∧ x.kind = ez.kind ∧ Nums .u64 w4 W.heap.size x.ids.A x.ids.n ez.ids from ⟨HPT.out.1, HPT.out.2.1, HPT.out.2.2.below (hb4.mono (by omega))⟩)
          replace HB := hide (HB.out.trans (hb4.mono (by omega)))
          have c4 : w4.cell? ⟨gk, 0, none⟩ = some (.string ⟨x.path.toArray⟩) := OX.cell 0
          obtain ⟨sx, hsx⟩ : ∃ sx : ByteArray, (⟨x.path.toArray⟩ : ByteArray) = sx := ⟨_, rfl⟩
          rw [hsx] at c4
          have HSX := hide hsx
          clear hLr hb4 hs4 hsx HPT
          obtain ⟨eb, heb⟩ : ∃ eb : Bool, (sx.toList == p.toList) = eb := ⟨_, rfl⟩
          have hne : (sx.toList != p.toList) = !eb := by rw [← heb]; rfl
          have HEB := hide (show eb = true ↔ ez.path = p.data.toList by
            rw [← heb, ← HSX.out, Lib.toList_data, Lib.toList_data, HXP.out.1]
            simp)
          cases eb with
          | true =>
            have HT := hide (HBT.out.trans (if_pos (HEB.out.1 rfl)))
            clear HEB HBT HSX
            go_wp2_with (first | (refine wpList_val (by rfl) (exec_load_nmid rfl rfl c0 c1 c2) ?_) | (refine store_nm rfl _ _ rfl rfl (c := x) rfl OZ rfl ?_; rw [hw4]) | fail)
            go_roundw
            case rel => exact ⟨k + 1, m, c', A', L, by go_num, rfl, by omega, by omega, hide (by rw [HT.out]; exact M.out), O, OR, ON, HOW, HB⟩
            case measure => simp [intOf]; omega
          | false =>
            have HT := hide (HBT.out.trans (if_neg (fun h => by have := HEB.out.2 h; cases this)))
            clear HEB HBT HSX
            have hrow := M.out.own.alloc (.cells #[.string ⟨x.path.toArray⟩, .int .i64 x.kind, .slice x.ids.A x.ids.n x.ids.c] 51)
            have hthree : Row _ _ 3 _ 1 [.string ⟨x.path.toArray⟩, .int .i64 x.kind, .slice x.ids.A x.ids.n x.ids.c] := Row.three w4 x 51
            have hbs : u ≤ (w4.alloc (.cells #[.string ⟨x.path.toArray⟩, .int .i64 x.kind, .slice x.ids.A x.ids.n x.ids.c] 51)).heap.size := by have := M.out.base_le; simp; omega
            have hba : Below w4.heap.size w4 (w4.alloc (.cells #[.string ⟨x.path.toArray⟩, .int .i64 x.kind, .slice x.ids.A x.ids.n x.ids.c] 51)) := (Below.refl _ _).alloc (Nat.le_refl _) _
            have Ma := hide (M.out.later hba)
            have HOa := hide (own_keep HOW.out (keep_below hba))
            have Oa := O.below hba O.lt
            have ORa := OR.below hba OR.lt
            have ONa := ON.below hba ON.lt
            have HBa := hide (HB.out.trans (hba.mono HB.out.size))
            have HXa := hide (show x.path = ez.path ∧ x.kind = ez.kind ∧ Nums .u64 _ W.heap.size x.ids.A x.ids.n ez.ids from ⟨HXP.out.1, HXP.out.2.1, HXP.out.2.2.below (hba.mono HB.out.size)⟩)
            obtain ⟨wc, hwc⟩ : ∃ wc, w4.alloc (.cells #[.string ⟨x.path.toArray⟩, .int .i64 x.kind, .slice x.ids.A x.ids.n x.ids.c] 51) = wc := ⟨_, rfl⟩
            rw [hwc] at hrow hthree hbs Ma HOa Oa ORa ONa HBa HXa
            have HXS := hx
            clear hba M HOW O OR ON HB HXP hx
            have hm' : (m : Int) ≤ 1000 := by omega
            go_wp2_with (first | (refine wpList_val (by rfl) (exec_load_nmid rfl rfl c0 c1 c2) ?_) | (refine store_nm rfl _ _ rfl rfl (c := x) rfl OZ rfl ?_; rw [hw4]) | (refine load_nm rfl _ rfl rfl OX ?_; rw [show nc x = #[.string ⟨x.path.toArray⟩, .int .i64 x.kind, .slice x.ids.A x.ids.n x.ids.c] from rfl]) | (at_builtin; refine wpList_append_rd rfl _ _ _ rfl nmTy (base := u) rfl hrow rfl hthree (by simp [Value.oneCell']) (by unfold maxLen; omega) (by omega) hbs ?_; intro A3 c3 wb hown3 hg3 _; rw [nmv_snoc L x] at hown3; have hbb := (Below.refl u wc).grown hg3 hbs (fun k hk => (hrow.lt k (by rw [ownBlock_slice]; exact hk)).1); have HBb := hide (HBa.out.trans (hbb.mono (by omega))); have Mb := hide (Ma.out.more HXS.out HXa.out hown3 (hbb.mono (by omega))); have Od := Oa.below hbb (by omega); have ORb := ORa.below hbb (by omega); have ONb := ONa.below hbb hgu; have HOb := hide (HOa.out.kept hg3 (own_apart HOa.out (own_weaken hrow (show W.heap.size + 2 ≤ u by omega)) (by decide))); clear hown3 hg3 hrow hthree hbb) | fail)
            go_roundw
            case rel => exact ⟨k + 1, m + 1, c3, A3, _, by go_num, rfl, by omega, by omega, hide (by rw [HT.out]; exact Mb.out), Od, ORb, ONb, HOb, HBb⟩
            case measure => simp [intOf]; omega
        · obtain rfl : k = n := by omega
          have HT := hide (show E.take k = E from List.take_of_length_le (by have := HE1.out; omega))
          have M1 := hide M.out
          rw [HT.out] at M1
          have HZ := hide (Nx.find_path HFZ.out)
          have HSP := hide HNM.out.2.2.2.1
          have HFF : Hid (Nx.insertL (Nx.but E p.data.toList) (z.as q.data.toList) = F) := hide (by
            rw [← HF0.out]
            unfold Nx.renamed
            rw [HFZ.out]
            simp only
            unfold Nx.moved
            rw [HZ.out.1]
            exact Nx.insertL_eq (Nx.but_asc (Nx.asc_of_space HSP.out) _) (Nx.find_none (by
              have := Nx.moved_none (e := z) HSP.out HNF.out
              rw [HZ.out.1] at this
              exact this)))
          have HYS : Hid (q.data.toList.length ≤ 1000 ∧ y.ids.n ≤ 1000 ∧ y.kind = z.kind) := hide (by
            refine ⟨by have := HQP.out.1.2; omega, ?_, HY.out.2⟩
            obtain ⟨i, hi, he⟩ := List.getElem_of_mem HZ.out.2
            have h1 := (HSP.out.1 i hi).1
            rw [he] at h1
            have h2 : z.ids.length = y.ids.n := by have := HOW.out.1; rw [nv_length] at this; omega
            omega)
          have z0 := ON.free 0
          have k0 : wr.cell? ⟨g, 0, none⟩ = some (.string ⟨y.path.toArray⟩) := ON.cell 0
          have ON1 : Obl (wr.setCell ⟨g, 0, none⟩ (.string q)) g 51 (nc ⟨q.data.toList, y.kind, y.ids⟩) := by
            have := ON.put 0 (.string q)
            exact this
          have hap := ON.apart HOW.out (by decide)
          have HOW1 := hide (own_put_other (i := 0) HOW.out (by rw [ownBlock_slice]; exact fun e => hap e.symm) (.string q))
          have O1 := O.put_other (b' := g) (by omega) 0 (.string q)
          have OR1 := OR.put_other (b' := g) (by omega) 0 (.string q)
          have hbg : Below W.heap.size wr (wr.setCell ⟨g, 0, none⟩ (.string q)) := (Below.refl _ _).setCell (p := ⟨g, 0, none⟩) (by show W.heap.size ≤ g; omega) _
          have M2 := hide (M1.out.keep (keep_put (m := g) hgu 0 (.string q)) hbg)
          have HB1 := hide (HB.out.trans hbg)
          have hgl := ON.lt
          obtain ⟨w9, hw9⟩ : ∃ w9, wr.setCell ⟨g, 0, none⟩ (.string q) = w9 := ⟨_, rfl⟩
          rw [hw9] at ON1 HOW1 O1 OR1 M2 HB1
          clear M M1 O OR HB HT HNM HFZ HF0 hap hbg HOW
          clear ON
          go_wp2_with (first | (refine load_nm rfl _ rfl rfl ON1 ?_) | fail)
          clear hw9 z0 k0
          refine (refInsert_any A' m c' L (Nx.but E p.data.toList) ⟨q.data.toList, y.kind, y.ids⟩ z.ids _ M2.out.ents M2.out.short (by omega) ⟨HYS.out.1, HYS.out.2.1⟩ (Nums.of_own HOW1.out)).mono ?_
          rintro e w10 ⟨A7, n7, c7, l7, rfl, hn7, hM, hb7⟩
          rw [show (⟨q.data.toList, y.kind, z.ids⟩ : Nx.Ent) = z.as q.data.toList from by rw [HYS.out.2.2]; rfl, HFF.out] at hM
          have O7 := O1.below hb7 O1.lt
          have OR7 := OR1.below hb7 OR1.lt
          have HB7 := hide (HB1.out.trans (hb7.mono HB1.out.size))
          have hs7 := O1.lt
          have hs8 := OR1.lt
          have k7 : w10.cell? ⟨W.heap.size, 35, none⟩ = some (.slice o.names.A o.names.n o.names.c) := O7.cell 35
          have z7 := O7.free 35
          have O8 : Obl (w10.setCell ⟨W.heap.size, 35, none⟩ (.slice A7 n7 c7)) W.heap.size 41 (oc { o with names := ⟨A7, n7, c7⟩ }) := O7.put 35 _
          have OR8 := OR7.put_other (b' := W.heap.size) (by omega) 35 (.slice A7 n7 c7)
          have HB8 := hide (HB7.out.setCell (p := ⟨W.heap.size, 35, none⟩) (Nat.le_refl _) (.slice A7 n7 c7))
          have HM8 := hide ((hM.keep (keep_put (m := W.heap.size) (by omega) 35 (.slice A7 n7 c7)) (by simp [World.setCell])).weaken (base' := W.heap.size + 2) (by omega))
          obtain ⟨w11, hw11⟩ : ∃ w11, w10.setCell ⟨W.heap.size, 35, none⟩ (.slice A7 n7 c7) = w11 := ⟨_, rfl⟩
          rw [hw11] at O8 OR8 HB8 HM8
          clear hM hb7 O7 OR7 HB7 O1 OR1 HB1 M2 ON1
          go_wp2_with (first | (refine load_ob rfl _ rfl rfl O8 ?_) | (refine store_ob rfl _ _ rfl rfl (c := { o with names := ⟨A7, n7, c7⟩ }) rfl OR8 rfl ?_) | fail)
          refine bodyPost_ret (ret_ob2 rfl _ rfl (OR8.row_same (oc { o with names := ⟨A7, n7, c7⟩ }))) rfl ?_
          exact .inl ⟨HF.out, A7, n7, c7, l7, rfl, (HM8.out.keep (keep_row (m := W.heap.size + 1) (by omega) _) (by simp [World.setRow])).weaken (by omega), below_row HB8.out (by omega) _⟩
end Go.Proofs.YtejhnfeligifgaaDoor
namespace Go.Proofs.YtejhnfeligifgaaDoor
open Go.RowKit

theorem nmv_set {l : List Nm} {i : Nat} (hi : i < l.length) (q : List UInt8) : (nmv l).set (i * 3) (.string ⟨q.toArray⟩) = nmv (l.set i ⟨q, l[i].kind, l[i].ids⟩) := by
  induction l generalizing i with
  | nil => simp at hi
  | cons x l ih =>
    rw [nmv_cons]
    cases i with
    | zero => rfl
    | succ i =>
      have h3 : (nmc x).length = 3 := rfl
      rw [List.set_append_right _ _ (by rw [h3]; omega), h3, show (i + 1) * 3 - 3 = i * 3 by omega, ih (by simpa using hi), List.set_cons_succ, nmv_cons]
      simp only [List.getElem_cons_succ]
/-- An entry under another path, where it lies. -/
theorem NmOutE.setPath {w : World} {base g n c i : Nat} {l : List Nm} {F : List Nx.Ent} (h : NmOutE w base (some ⟨g, 0, none⟩) n c l F) (hl : i < l.length) (hF : i < F.length) (q : List UInt8) (hq : q.length ≤ 1000) :
    NmOutE (w.setCell ⟨g, i * 3, none⟩ (.string ⟨q.toArray⟩)) base (some ⟨g, 0, none⟩) n c (l.set i ⟨q, l[i].kind, l[i].ids⟩) (F.set i (F[i].as q)) := by
  have hln := own_nmv h.own.1
  have hkeep : ∀ (x : Nm) (I : List Int), w.ownsRow base 22 1 (.slice x.ids.A x.ids.n x.ids.c) x.ids.n (nv .u64 I) → (w.setCell ⟨g, i * 3, none⟩ (.string ⟨q.toArray⟩)).ownsRow base 22 1 (.slice x.ids.A x.ids.n x.ids.c) x.ids.n (nv .u64 I) := fun x I hI => by
    refine own_put_other hI ?_ _
    rcases own_apart hI h.own.1 (by decide) with h1 | h1
    · rw [h1]; intro e; cases e
    · exact h1
  have hmem : ∀ x ∈ l.set i ⟨q, l[i].kind, l[i].ids⟩, x = ⟨q, l[i].kind, l[i].ids⟩ ∨ x ∈ l := fun x hx => by
    rcases List.mem_or_eq_of_mem_set hx with h1 | h1
    · exact .inr h1
    · exact .inl h1
  have hlm := List.getElem_mem hl
  refine ⟨⟨?_, fun x hx => ?_⟩, fun x hx => ?_, Nat.le_trans h.base_le (by simp [World.setCell]), by rw [List.length_set, List.length_set]; exact h.has.1, fun k h1 h2 => ?_⟩
  · rcases h.own.1.2 with ⟨he, _⟩ | ⟨g', cap, cur, he, hbg, hg, hnc, hcm, hcs, hct⟩
    · cases he
    simp only [Value.slice.injEq, Option.some.injEq, Addr.mk.injEq, and_true] at he
    obtain ⟨rfl, _, rfl⟩ := he
    refine ⟨by rw [nmv_length, List.length_set, hln], .inr ⟨g, c, cur.setIfInBounds (i * 3) (.string ⟨q.toArray⟩), rfl, hbg, ?_, hnc, hcm, by rw [Array.size_setIfInBounds]; exact hcs, ?_⟩⟩
    · exact (show Obl w g _ cur from hg).put (i * 3) _
    · rw [Array.toList_setIfInBounds, List.take_set, hct, nmv_set hl]
  · rcases hmem x hx with rfl | hx
    · obtain ⟨I, hI⟩ := h.own.2 _ hlm
      exact ⟨I, hkeep ⟨q, l[i].kind, l[i].ids⟩ I hI⟩
    · obtain ⟨I, hI⟩ := h.own.2 x hx
      exact ⟨I, hkeep _ _ hI⟩
  · rcases hmem x hx with rfl | hx
    · exact ⟨hq, (h.short _ hlm).2⟩
    · exact h.short x hx
  · rw [List.length_set] at h1 h2
    obtain ⟨a, b, d⟩ := h.has.2 k h1 h2
    by_cases hk : i = k
    · subst hk
      rw [List.getElem_set_self, List.getElem_set_self]
      exact ⟨rfl, b, hkeep ⟨q, l[i].kind, l[i].ids⟩ _ d⟩
    · rw [List.getElem_set_ne hk, List.getElem_set_ne hk]
      exact ⟨a, b, hkeep _ _ d⟩
theorem own_unfrozen {w : World} {base g n c size : Nat} {e : TypeId} {xs : List Value} (h : w.ownsRow base e size (.slice (some ⟨g, 0, none⟩) n c) n xs) (j : Nat) : w.frozen? ⟨g, j, none⟩ = false := by
  rcases h.2 with ⟨he, _⟩ | ⟨g', cap, cur, he, hbg, hg, _⟩
  · cases he
  simp only [Value.slice.injEq, Option.some.injEq, Addr.mk.injEq, and_true] at he
  obtain ⟨rfl, _, rfl⟩ := he
  simp [World.frozen?, hg]
theorem str_back (q : ByteArray) : (⟨q.data.toList.toArray⟩ : ByteArray) = q := by cases q; rfl
set_option maxRecDepth 100000 in
set_option maxHeartbeats 16000000 in
theorem nxRen_any (o : Ob) (p q : ByteArray) (l : List Nm) (E : List Nx.Ent) (W : World) (hl0 : Ents W W.heap.size o.names.A o.names.n l E) (hs : Short l) (HM0 : Mx W) (hq : q.size ≤ 9223372036854775807) :
    Calls Tryd.prog 24 #[.agg (oc o), .string p, .string q] W (DirIs (o.renErr E p.data.toList q.data.toList) (Nx.renamed E p.data.toList q.data.toList) W) := by
  obtain ⟨w1, hw, O, OR, hb, hs1⟩ : ∃ w1, (W.alloc (.cells (oc o) 41)).alloc (.cells #[.int .u64 0, .int .i64 0, .int .i64 0, .int .i64 0, .int .u64 0, .slice none 0 0, .slice none 0 0, .slice none 0 0, .int .i64 0, .int .i64 0, .int .i64 0, .int .i64 0, .int .i64 0, .int .i64 0, .int .i64 0, .int .i64 0, .int .i64 0, .int .i64 0,
      .slice none 0 0, .slice none 0 0, .int .i64 0, .int .i64 0, .int .i64 0, .slice none 0 0, .slice none 0 0, .int .i64 0, .int .u64 0, .int .i64 0, .int .i64 0, .slice none 0 0, .slice none 0 0, .slice none 0 0, .int .i64 0, .int .i64 0, .int .i64 0, .slice none 0 0] 41) = w1 ∧
      Obl w1 W.heap.size 41 (oc o) ∧ Obl w1 (W.heap.size + 1) 41 (oc Ob.zero) ∧ Below W.heap.size W w1 ∧ w1.heap.size = W.heap.size + 2 := by
    refine ⟨_, rfl, (Obl.make W _ _).alloc _, ?_, ((Below.refl _ _).alloc (Nat.le_refl _) _).alloc (by simp) _, by simp⟩
    have := Obl.make (W.alloc (.cells (oc o) 41)) 41 (oc Ob.zero)
    rw [World.size_alloc] at this
    exact this
  have HB := hide hb
  have HEN := hide hl0
  have HS := hide hs
  have HM := hide HM0
  have HQ0 := hide hq
  obtain ⟨F, hF⟩ : ∃ F, Nx.renamed E p.data.toList q.data.toList = F := ⟨_, rfl⟩
  rw [hF]
  have HF0 := hide hF
  clear hb hl0 hs HM0 hq hF
  go_enter Tryd.func24, Tryd.ntmps24
  go_wp2_with (first | (refine load_ob rfl _ rfl rfl O ?_) | fail)
  refine (nxNames_any o l E _ ((HEN.out.below HB.out).mono HB.out.size) HS.out (HM.out.below HB.out)).mono ?_
  rintro e w2 ⟨rfl, hb2⟩
  obtain ⟨bv, hbv⟩ : ∃ bv, decide (o.Names E) = bv := ⟨_, rfl⟩
  rw [hbv]
  have HBV := hide hbv
  clear hbv
  replace O := O.below hb2 O.lt
  replace OR := OR.below hb2 OR.lt
  replace HB := hide (HB.out.trans (hb2.mono HB.out.size))
  clear hb2 hw hs1
  cases bv with
  | false =>
    have HF := hide (show o.renErr E p.data.toList q.data.toList = 1 from if_neg (of_decide_eq_false HBV.out))
    go_wp2_with (first | (refine store_ob rfl _ _ rfl rfl (c := Ob.zero) rfl OR rfl ?_) | fail)
    refine bodyPost_ret (ret_ob2 rfl _ rfl (OR.row_same (oc Ob.zero))) rfl ?_
    exact DirIs.no HF.out (by decide) (below_row HB.out (by omega) _)
  | true =>
    have HNM := hide (of_decide_eq_true HBV.out)
    have HE2 := hide (show o.renErr E p.data.toList q.data.toList = (if (Nx.find E p.data.toList).isSome then (if Nx.Path q.data.toList then (if (Nx.find E q.data.toList).isSome then 7 else 0) else 1) else 6) from if_pos HNM.out)
    have hn := HNM.out.2.2.1
    have HSP := hide HNM.out.2.2.2.1
    have HAS := hide (Nx.asc_of_space HSP.out)
    clear HBV HNM
    have k35 : w2.cell? ⟨W.heap.size, 35, none⟩ = some (.slice o.names.A o.names.n o.names.c) := O.cell 35
    go_wp2_with fail
    refine (nxPos_any o.names.A o.names.n o.names.c l E p _ ((HEN.out.below HB.out).mono HB.out.size) HAS.out (by omega)).mono ?_
    rintro e w3 ⟨i, hp, rfl, hb3⟩
    have HP := hide hp
    replace O := O.below hb3 O.lt
    replace OR := OR.below hb3 OR.lt
    replace HB := hide (HB.out.trans (hb3.mono HB.out.size))
    clear hp hb3 k35
    cases hfz : Nx.find E p.data.toList with
    | none =>
      have HF := hide (show o.renErr E p.data.toList q.data.toList = 6 from by rw [HE2.out, hfz]; rfl)
      rw [show (none : Option Nx.Ent).isSome = false from rfl]
      clear HE2 hfz
      go_wp2_with (first | (refine store_ob rfl _ _ rfl rfl (c := Ob.zero) rfl OR rfl ?_) | fail)
      refine bodyPost_ret (ret_ob2 rfl _ rfl (OR.row_same (oc Ob.zero))) rfl ?_
      exact DirIs.no HF.out (by decide) (below_row HB.out (by omega) _)
    | some z =>
      rw [show (some z).isSome = true from rfl]
      have HE3 := hide (show o.renErr E p.data.toList q.data.toList = (if Nx.Path q.data.toList then (if (Nx.find E q.data.toList).isSome then 7 else 0) else 1) from by rw [HE2.out, hfz]; rfl)
      have HFZ := hide hfz
      clear HE2 hfz
      go_wp2_with fail
      refine (nxPath_any q _ (HM.out.below HB.out) HQ0.out).mono ?_
      rintro e w4 ⟨rfl, hb4⟩
      replace O := O.below hb4 O.lt
      replace OR := OR.below hb4 OR.lt
      replace HB := hide (HB.out.trans (hb4.mono HB.out.size))
      clear hb4
      by_cases hqp : Nx.Path q.data.toList
      rotate_left
      · rw [decide_eq_false hqp]
        have HF := hide (show o.renErr E p.data.toList q.data.toList = 1 from by rw [HE3.out, if_neg hqp])
        clear HE3 hqp
        go_wp2_with (first | (refine store_ob rfl _ _ rfl rfl (c := Ob.zero) rfl OR rfl ?_) | fail)
        refine bodyPost_ret (ret_ob2 rfl _ rfl (OR.row_same (oc Ob.zero))) rfl ?_
        exact DirIs.no HF.out (by decide) (below_row HB.out (by omega) _)
      rw [decide_eq_true hqp]
      have HQP := hide hqp
      have HE4 := hide (HE3.out.trans (if_pos hqp))
      clear HE3 hqp
      have k35 : w4.cell? ⟨W.heap.size, 35, none⟩ = some (.slice o.names.A o.names.n o.names.c) := O.cell 35
      go_wp2_with fail
      refine (nxPos_any o.names.A o.names.n o.names.c l E q _ ((HEN.out.below HB.out).mono HB.out.size) HAS.out (by omega)).mono ?_
      rintro e w5 ⟨i2, _, rfl, hb5⟩
      replace O := O.below hb5 O.lt
      replace OR := OR.below hb5 OR.lt
      replace HB := hide (HB.out.trans (hb5.mono HB.out.size))
      clear hb5 k35
      obtain ⟨v, hv⟩ : ∃ v, (Nx.find E q.data.toList).isSome = v := ⟨_, rfl⟩
      rw [hv]
      have HV := hide hv
      clear hv
      cases v with
      | true =>
        have HF := hide (show o.renErr E p.data.toList q.data.toList = 7 from by rw [HE4.out, HV.out]; rfl)
        clear HE4 HV
        go_wp2_with (first | (refine store_ob rfl _ _ rfl rfl (c := Ob.zero) rfl OR rfl ?_) | fail)
        refine bodyPost_ret (ret_ob2 rfl _ rfl (OR.row_same (oc Ob.zero))) rfl ?_
        exact DirIs.no HF.out (by decide) (below_row HB.out (by omega) _)
      | false =>
        have HF := hide (show o.renErr E p.data.toList q.data.toList = 0 from by rw [HE4.out, HV.out]; rfl)
        have HNF : Hid (Nx.find E q.data.toList = none) := hide (by simpa using HV.out)
        clear HE4 HV
        have k35 : w5.cell? ⟨W.heap.size, 35, none⟩ = some (.slice o.names.A o.names.n o.names.c) := O.cell 35
        go_wp2_with fail
        refine (nxNew_any _).mono ?_
        rintro e w6 ⟨rfl, hb6⟩
        replace O := O.below hb6 O.lt
        replace OR := OR.below hb6 OR.lt
        replace HB := hide (HB.out.trans (hb6.mono HB.out.size))
        obtain ⟨w7, hw7, m, hm, w8, hw8, OZ, OM, hb8, hs8⟩ := laid_ob (Ob.dir ⟨none, 0, 0⟩) w6
        have hmW : W.heap.size + 1 < m := by have := OR.lt; omega
        replace O := O.below hb8 (by omega)
        replace OR := OR.below hb8 (by omega)
        replace HB := hide (HB.out.trans (hb8.mono (by omega)))
        clear hb6 hb8 k35
        have k35 : w8.cell? ⟨W.heap.size, 35, none⟩ = some (.slice o.names.A o.names.n o.names.c) := O.cell 35
        go_wp2_with (first | (refine store_ob rfl _ _ rfl rfl (c := Ob.dir ⟨none, 0, 0⟩) rfl OZ rfl ?_; rw [hw8]) | fail)
        clear OZ hw7 hw8 hm
        refine (nxAllCopied_any o.names.A o.names.n o.names.c l E _ ((HEN.out.below HB.out).mono HB.out.size) HS.out (by omega)).mono ?_
        rintro e w9 ⟨A1, c1, l1, rfl, M1, hb9⟩
        obtain ⟨hiE, hez⟩ := HP.out.there HAS.out HFZ.out
        have hin : i < o.names.n := by have := HEN.out.len; omega
        have hl1 := own_nmv M1.own.1
        have hil : i < l1.length := by omega
        obtain ⟨gA, rfl⟩ : ∃ gA, A1 = some ⟨gA, 0, none⟩ := by
          rcases M1.own.1.2 with ⟨he, h0⟩ | ⟨g', cap, cur, he, _⟩
          · simp only [Value.slice.injEq] at he; omega
          · simp only [Value.slice.injEq] at he; exact ⟨g', he.1⟩
        have hgm : m < gA := by have := (M1.own.1.lt gA rfl).1; omega
        have hgl := (M1.own.1.lt gA rfl).2
        replace OR := OR.below hb9 (by omega)
        replace OM := OM.below hb9 (by omega)
        replace HB := hide (HB.out.trans (hb9.mono HB.out.size))
        have hsz9 := hb9.size
        clear O k35 hb9
        -- the list into the new name space
        have k1 : w9.cell? ⟨m, 35, none⟩ = some (.slice none 0 0) := OM.cell 35
        have z1 := OM.free 35
        have OM1 : Obl (w9.setCell ⟨m, 35, none⟩ (.slice (some ⟨gA, 0, none⟩) o.names.n c1)) m 41 (oc (Ob.dir ⟨some ⟨gA, 0, none⟩, o.names.n, c1⟩)) := OM.put 35 _
        have OR1 := OR.put_other (b' := m) (by omega) 35 (.slice (some ⟨gA, 0, none⟩) o.names.n c1)
        have HB1 := hide (HB.out.setCell (p := ⟨m, 35, none⟩) (by show W.heap.size ≤ m; omega) (.slice (some ⟨gA, 0, none⟩) o.names.n c1))
        have M2 := hide ((M1.keep (keep_put (m := m) (by omega) 35 (.slice (some ⟨gA, 0, none⟩) o.names.n c1)) (by simp [World.setCell])).weaken (base' := m + 1) (by omega))
        obtain ⟨w10, hw10⟩ : ∃ w10, w9.setCell ⟨m, 35, none⟩ (.slice (some ⟨gA, 0, none⟩) o.names.n c1) = w10 := ⟨_, rfl⟩
        rw [hw10] at OM1 OR1 HB1 M2
        clear M1 OR HB
        have k2 : w10.cell? ⟨m, 35, none⟩ = some (.slice (some ⟨gA, 0, none⟩) o.names.n c1) := OM1.cell 35
        have hin' : (i : Int) < (o.names.n : Int) := by omega
        have hn' : (o.names.n : Int) ≤ 256 := by omega
        obtain ⟨bb, fb, hbl, hA, _, d0, _⟩ := M2.out.own.nms.at_ hin
        simp only [Option.some.injEq, Addr.mk.injEq, and_true] at hA
        obtain ⟨rfl, rfl⟩ := hA
        rw [Nat.zero_add] at d0
        have zA := own_unfrozen M2.out.own.1 (i * 3)
        have hq1 : q.data.toList.length ≤ 1000 := by have := HQP.out.1.2; omega
        have M3 := hide (show NmOutE (w10.setCell ⟨gA, i * 3, none⟩ (.string q)) (m + 1) (some ⟨gA, 0, none⟩) o.names.n c1 _ _ from by
          have := M2.out.setPath hil hiE q.data.toList hq1
          rwa [str_back] at this)
        have OM2 := OM1.put_other (b' := gA) (by omega) (i * 3) (.string q)
        have OR2 := OR1.put_other (b' := gA) (by omega) (i * 3) (.string q)
        have HB2 := hide (HB1.out.setCell (p := ⟨gA, i * 3, none⟩) (by show W.heap.size ≤ gA; omega) (.string q))
        have hl11 : gA < (w10.setCell ⟨gA, i * 3, none⟩ (.string q)).heap.size := by rw [← hw10]; simp [World.setCell]; exact hgl
        obtain ⟨w11, hw11⟩ : ∃ w11, w10.setCell ⟨gA, i * 3, none⟩ (.string q) = w11 := ⟨_, rfl⟩
        rw [hw11] at M3 OM2 OR2 HB2 hl11
        have k3 : w11.cell? ⟨m, 35, none⟩ = some (.slice (some ⟨gA, 0, none⟩) o.names.n c1) := OM2.cell 35
        generalize l1.set i ⟨q.data.toList, l1[i].kind, l1[i].ids⟩ = l3 at *
        generalize l1[i] = y1 at *
        clear M2 OM OM1 OR1 HB1
        go_wp2_with fail
        refine (nxSort_any (m + 1) gA o.names.n c1 l3 _ _ M3.out (by omega) hl11).mono ?_
        rintro e w12 ⟨rfl, l', F', M4, hso, hperm, hg4⟩
        have HFF : Hid (F' = F) := hide (by
          rw [← HF0.out]
          unfold Nx.renamed
          rw [HFZ.out]
          simp only
          rw [← hez]
          exact Nx.asc_ext (Nx.asc_sorted hso ((hperm.pairwise_iff (fun h => Ne.symm h)).2 (Nx.set_apart HAS.out hiE HNF.out))) (Nx.asc_of_space (Nx.moved_space HSP.out (List.getElem_mem hiE) HQP.out HNF.out)) (fun x => hperm.mem_iff.trans (Nx.mem_set HAS.out hiE)))
        have HM4 := hide M4
        rw [HFF.out] at HM4
        have OM4 := OM2.grown hg4 (fun e => by injection e; omega)
        have OR4 := OR2.grown hg4 (fun e => by injection e; omega)
        have HB4 := hide (HB2.out.grown hg4 (by have := HB2.out.size; omega) (fun k hk => by injection hk; omega))
        clear M4 hso hperm hg4 HFF M3 OM2 OR2 HB2 k1 k2 k3 d0 zA z1 hw10 hw11 hez
        go_wp2_with (first | (refine load_ob rfl _ rfl rfl OM4 ?_) | (refine store_ob rfl _ _ rfl rfl (c := Ob.dir ⟨some ⟨gA, 0, none⟩, o.names.n, c1⟩) rfl OR4 rfl ?_) | fail)
        refine bodyPost_ret (ret_ob2 rfl _ rfl (OR4.row_same (oc (Ob.dir ⟨some ⟨gA, 0, none⟩, o.names.n, c1⟩)))) rfl ?_
        exact .inl ⟨HF.out, _, _, _, l', rfl, (HM4.out.keep (keep_row (m := W.heap.size + 1) (by omega) _) (by simp [World.setRow])).weaken (by omega), below_row HB4.out (by omega) _⟩
end Go.Proofs.YtejhnfeligifgaaDoor
