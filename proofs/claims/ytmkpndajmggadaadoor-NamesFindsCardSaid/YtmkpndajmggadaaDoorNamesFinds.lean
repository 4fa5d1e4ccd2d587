/- Layer 9: paths, name spaces and entries as the reference has them (NamesFinds): the walk. -/
import Derived.Test.YtmkpndajmggadaaDoorNxKeeps0
import Derived.Test.YtmkpndajmggadaaDoorObObj
import Derived.Test.YtmkpndajmggadaaDoorKeepOb
import Derived.Test.YtmkpndajmggadaaDoorObCame
namespace Go.Proofs.YtmkpndajmggadaaDoor
open Go.RowKit

/-- An object of few and short entries, apart from block d. -/
def NamedE (w : World) (d : Nat) (x : Ob) (l : List Nm) (E : List Nx.Ent) : Prop := Short l ∧ x.names.n ≤ 1000 ∧ (Ents w d x.names.A x.names.n l E ∨ NmOutE w (d + 1) x.names.A x.names.n x.names.c l E)
def Named (w : World) (d : Nat) (x : Ob) : Prop := ∃ l E, NamedE w d x l E
theorem OwnNms.outE {w : World} {base n c : Nat} {A : Option Addr} {l : List Nm} (h : OwnNms w base A n c l) (hs : Short l) (hb : base ≤ w.heap.size) : ∃ F, NmOutE w base A n c l F := by
  have hall : ∀ m, m ≤ l.length → ∃ E : List Nx.Ent, E.length = m ∧ ∀ (k : Nat) (h : k < l.length) (h' : k < E.length), l[k].path = E[k].path ∧ l[k].kind = E[k].kind ∧ w.ownsRow base 22 1 (.slice l[k].ids.A l[k].ids.n l[k].ids.c) l[k].ids.n (nv .u64 E[k].ids) := by
    intro m
    induction m with
    | zero => exact fun _ => ⟨[], rfl, fun k h1 h2 => by simp at h2⟩
    | succ m ih =>
      intro hm
      obtain ⟨E, hE, hk⟩ := ih (by omega)
      obtain ⟨I, hI⟩ := h.2 _ (List.getElem_mem (show m < l.length by omega))
      refine ⟨E ++ [⟨l[m].path, l[m].kind, I⟩], by simp [hE], fun k h1 h2 => ?_⟩
      by_cases hkm : k < m
      · rw [List.getElem_append_left (by omega)]
        exact hk k h1 (by omega)
      · have : k = m := by simp [hE] at h2; omega
        subst this
        rw [List.getElem_append_right (by omega)]
        simp only [hE, Nat.sub_self, List.getElem_cons_zero]
        exact ⟨trivial, trivial, hI⟩
  obtain ⟨E, hE, hk⟩ := hall l.length (Nat.le_refl _)
  exact ⟨E, h, hs, hb, hE, hk⟩
section
variable {w w' W : World} {d gs : Nat} {x a b c : Ob}
theorem NamedE.below {l : List Nm} {E : List Nx.Ent} (h : NamedE w d x l E) (hb : Below w.heap.size w w') (hd : d ≤ w.heap.size) : NamedE w' d x l E :=
  ⟨h.1, h.2.1, h.2.2.imp (fun h => h.below (hb.mono hd)) (fun h => h.later hb)⟩
theorem NamedE.bel {l : List Nm} {E : List Nx.Ent} (h : NamedE w d x l E) (hB : Bel w.heap.size d w w') (hd : d ≤ w.heap.size) : NamedE w' d x l E :=
  ⟨h.1, h.2.1, h.2.2.imp (fun h => h.below (hB.below hd (Nat.le_refl _))) (fun h => h.keep (keep_bel hB (Nat.lt_succ_self _)) hB.size)⟩
theorem NamedE.all {l : List Nm} {E : List Nx.Ent} (h : NamedE w d x l E) (hd : d ≤ w.heap.size) : Ents w w.heap.size x.names.A x.names.n l E := h.2.2.elim (fun h => h.mono hd) (fun h => h.ents)
theorem Named.below (h : Named w d x) (hb : Below w.heap.size w w') (hd : d ≤ w.heap.size) : Named w' d x := h.imp fun _ h => h.imp fun _ h => h.below hb hd
theorem Named.bel (h : Named w d x) (hB : Bel w.heap.size d w w') (hd : d ≤ w.heap.size) : Named w' d x := h.imp fun _ h => h.imp fun _ h => h.bel hB hd
/-- Three objects in block gs, the dice in block d. -/
structure FindsAt (W w : World) (d gs : Nat) (a b c : Ob) : Prop where
  ob : Obl w gs 41 (ocl a ++ (ocl b ++ ocl c)).toArray
  able : ∀ x ∈ [a, b, c], Named w d x
  dice : Dice w d d
  bel : Below W.heap.size W w
  apart : d < gs ∧ W.heap.size < d
theorem FindsAt.below (h : FindsAt W w d gs a b c) (hb : Below w.heap.size w w') : FindsAt W w' d gs a b c :=
  ⟨h.ob.below hb h.ob.lt, fun x hx => (h.able x hx).below hb (Nat.le_of_lt h.dice.lt), h.dice.below hb, h.bel.trans (hb.mono h.bel.size), h.apart⟩
theorem FindsAt.bels (h : FindsAt W w d gs a b c) (hB : Bel w.heap.size d w w') (hD : Dice w' d d) : FindsAt W w' d gs a b c :=
  ⟨hB.obl' h.ob (by have := h.apart; omega), fun x hx => (h.able x hx).bel hB (Nat.le_of_lt h.dice.lt), hD, h.bel.trans (hB.below h.bel.size (Nat.le_of_lt h.apart.2)), h.apart⟩
end
/-- What is found is short. -/
theorem found_short {x : Ob} {E : List Nx.Ent} {p : List UInt8} : ((x.found E p).getD Nx.ent0).ids.length ≤ 1000 := by
  unfold Ob.found
  split
  · rename_i h
    exact ids_short h.2.2.2.1
  · exact Nat.zero_le _
/-- Both packages' Find at one object. -/
theorem both_find {W : World} {x : Ob} {l : List Nm} {E : List Nx.Ent} (p : ByteArray) (h : Ents W W.heap.size x.names.A x.names.n l E) (hs : Short l) (hn : x.names.n ≤ 1000) (HM : Mx W) :
    Calls Tryd.prog 14 #[.agg (oc x), .string p] W (FoundIs (x.found E p.data.toList) W) ∧ Calls Tryd.prog 15 #[.agg (oc x), .string p] W (FoundIs (x.found E p.data.toList) W) :=
  ⟨(nxFind_any x p l E W h hs HM).mono fun _ _ h => h.found, (refFind_any x p l E W h hs hn).mono fun _ _ h => h.found⟩
theorem known_cell {w : World} {g : Nat} {t : TypeId} (h : Obl w g t (sv pathsL).toArray) {k : Nat} (hk : k < 8) : ∃ s : ByteArray, w.cell? ⟨g, k, none⟩ = some (.string s) := by
  have hl : k < pathsL.length := hk
  exact ⟨_, by rw [h.cell, List.getElem?_toArray, sv_at hl]⟩
set_option maxRecDepth 100000 in
set_option maxHeartbeats 16000000 in
theorem namesFinds_any (o : Ob) (l : List Nm) (strs : List (List UInt8)) (S : Option Addr) (q r : Nat) (bs : List UInt8) (p : ByteArray) (W : World) (hl : Nms W W.heap.size o.names.A o.names.n l) (hS : Strs W W.heap.size o.strs.A o.strs.n strs) (hf : Fits o l strs)
    (h : Bytes W W.heap.size S q bs) (hq : q ≤ r ∧ r ≤ 9223372036854775807) (hp : p.size ≤ 9223372036854775807) (HM0 : Mx W) :
    Calls Tryd.prog 3 #[.agg (oc o), .slice S q r, .string p] W (BoolPost true W) := by
  obtain ⟨w0, hw, O, hb, hs⟩ : ∃ w0, W.alloc (.cells (oc o) 41) = w0 ∧ Obl w0 W.heap.size 41 (oc o) ∧ Below W.heap.size W w0 ∧ w0.heap.size = W.heap.size + 1 :=
    ⟨_, rfl, Obl.make W _ _, (Below.refl _ _).alloc (Nat.le_refl _) _, by simp⟩
  have HN := hide hl
  have HST := hide hS
  have HF := hide hf
  have HBY := hide h
  have HQ := hide hq
  have HPS := hide hp
  have HM := hide HM0
  have HB := hide hb
  clear hl hS hf h hq hb hs HM0
  go_enter Tryd.func3, Tryd.ntmps3
  go_wp2_with fail
  refine (nxSane_any _ (HM.out.below HB.out)).mono ?_
  rintro e w1 ⟨rfl, hb1⟩
  replace O := O.below hb1 O.lt
  replace HB := hide (HB.out.trans (hb1.mono HB.out.size))
  clear hb1 hw
  go_wp2_with (first | (refine load_ob rfl _ rfl rfl O ?_) | fail)
  refine (keepob_kept o l strs _ ((HN.out.below HB.out).mono HB.out.size) ((HST.out.below HB.out).mono HB.out.size) HF.out).mono ?_
  rintro e w2 ⟨bv, rfl, hkept, hb2⟩
  replace O := O.below hb2 O.lt
  replace HB := hide (HB.out.trans (hb2.mono HB.out.size))
  clear hb2 HST HF
  cases bv with
  | false =>
    clear hkept
    go_wp2_with fail
    go_ret
    exact ⟨rfl, HB.out⟩
  | true =>
    have HKE := hide (hkept rfl)
    clear hkept
    by_cases h3 : p.size ≤ 300
    rotate_left
    · have h3' : (300 : Int) < (p.size : Int) := by omega
      go_wp2_with fail
      go_ret
      exact ⟨rfl, HB.out⟩
    have h3' : (p.size : Int) ≤ 300 := by omega
    have hW2 := O.lt
    go_wp2_with fail
    refine (new_dice W.heap.size S q r bs _ (HBY.out.belowLe HB.out (Nat.le_refl _)) HB.out.size HQ.out).mono ?_
    rintro e w3 ⟨rfl, hD, hb3, hs3⟩
    replace O := O.below hb3 O.lt
    replace HB := hide (HB.out.trans (hb3.mono HB.out.size))
    have HD := hide hD
    obtain ⟨d, hd⟩ : ∃ d, w2.heap.size = d := ⟨_, rfl⟩
    have hdW : W.heap.size < d := by omega
    rw [hd] at HD ⊢
    clear hb3 hD HBY hW2 hd hs3
    go_wp2_with fail
    refine region_D (by kernel_rfl) w3.drew.heap.size d [] ?_
    replace O : Obl w3.drew W.heap.size 41 (oc o) := O
    replace HD : Hid (Dice w3.drew d d) := HD
    replace HB : Hid (Below W.heap.size W w3.drew) := hide ⟨HB.out.os, HB.out.tape, HB.out.output, HB.out.size, HB.out.block⟩
    generalize w3.drew = u0 at *
    have hd0 := HD.out.lt
    have hOW := O.lt
    refine takeDX 1 rfl (by kernel_rfl) (fun _ _ _ h => h) (by rfl) (by intro w'; go_simp; try with_reducible rfl) ?_
    refine takeDX 3 rfl (by kernel_rfl) (fun _ _ _ h => h) (by rfl) (by intro w'; go_simp; try with_reducible rfl) ?_
    refine takeDX 7 rfl (by kernel_rfl) (fun _ _ _ h => h) (by rfl) (by intro w'; go_simp; try with_reducible rfl) ?_
    refine takeD 0 [0] rfl (by kernel_rfl) (fun _ _ _ h => h) (by rfl) (by intro w' hq; exact exec_load_ob rfl rfl (hq.obl' O (by omega))) ?_
    refine onlyD 2 rfl (by kernel_rfl) (by rfl) ?_
    intro K hK
    go_simp
    refine (names_thrown d d _ HD.out).mono ?_
    rintro e u1 ⟨A2, n2, c2, l2, E2, rfl, hn2, M2, _, _, hD1, hB1⟩
    obtain ⟨o2, ho2⟩ : ∃ o2 : Ob, ({ Ob.zero with id := 1, kind := 10, names := ⟨A2, n2, c2⟩ } : Ob) = o2 := ⟨_, rfl⟩
    rw [ho2]
    have hs1 : u0.heap.size ≤ u1.heap.size := hB1.size
    have HB1 := hide (HB.out.trans (hB1.below HB.out.size (by omega)))
    refine hK _ _ (fun _ => hB1) ?_
    clear hK K hB1 HB HD O
    refine onlyD 4 rfl (by kernel_rfl) (by rfl) ?_
    intro K hK
    go_simp
    refine (object_dice d d _ hD1).mono ?_
    rintro e u2 ⟨o3, rfl, hO3, hD3, hB3⟩
    have hs2 : u1.heap.size ≤ u2.heap.size := hB3.size
    have HB3 := hide (HB1.out.trans (hB3.below HB1.out.size (by omega)))
    have N2 : Named u2 d o2 := by
      rw [← ho2]
      exact ⟨l2, E2, M2.short, by show n2 ≤ 1000; omega, .inr ((M2.keep (keep_bel hB3 (by omega)) hB3.size).weaken (by omega))⟩
    have N3 : Named u2 d o3 := by
      obtain ⟨N, hN, hsh, hlen⟩ := hO3.names
      have hN' : OwnNms u2 (d + 1) o3.names.A o3.names.n o3.names.c N := ⟨own_weaken hN.1 (by omega), fun x hx => (hN.2 x hx).imp fun _ h => own_weaken h (by omega)⟩
      obtain ⟨F, hF⟩ := hN'.outE hsh (by omega)
      have hn3 : o3.names.n ≤ 1000 := by have := own_nmv hN.1; omega
      exact ⟨N, F, hsh, hn3, .inr hF⟩
    have N1 : Named u2 d o := by
      obtain ⟨E, hE⟩ := HN.out.ents
      exact ⟨l, E, fun x hx => by have := HKE.out.each x hx; omega, by have := HKE.out.names; omega, .inl ((hE.below HB3.out).mono (Nat.le_of_lt hdW))⟩
    refine hK _ _ (fun _ => hB3.mono (by omega)) ?_
    clear hK K hB3 HB1 M2 hO3 hD1
    refine onlyD 5 rfl (by kernel_rfl) (by rfl) ?_
    intro K hK
    refine wp_yield (exec_slice3 rfl rfl rfl rfl) ?_
    refine hK _ _ (fun _ => Bel.of ((Below.refl _ _).alloc (by omega) _)) ?_
    clear hK K
    have HT : Hid (FindsAt W (u2.alloc (.cells (ocl o ++ (ocl o2 ++ ocl o3)).toArray 41)) d u2.heap.size o o2 o3) := by
      have hbA := (Below.refl u2.heap.size u2).alloc (Nat.le_refl _) (.cells (ocl o ++ (ocl o2 ++ ocl o3)).toArray 41)
      refine hide ⟨Obl.make u2 _ _, fun x hx => ?_, hD3.below hbA, HB3.out.alloc HB3.out.size _, by omega, hdW⟩
      simp only [List.mem_cons, List.not_mem_nil, or_false] at hx
      rcases hx with rfl | rfl | rfl
      · exact N1.below hbA (by omega)
      · exact N2.below hbA (by omega)
      · exact N3.below hbA (by omega)
    generalize u2.alloc (.cells (ocl o ++ (ocl o2 ++ ocl o3)).toArray 41) = u4 at *
    generalize u2.heap.size = gs at *
    clear HB3 hs1 hs2 hd0 hOW N1 N2 N3 hD3 HN HKE
    refine takeDX 6 rfl (by kernel_rfl) (fun _ _ _ h => h) (by rfl) (by intro w'; go_simp; try with_reducible rfl) ?_
    refine doneD (by kernel_rfl) ?_
    go_simp
    go_wp2_with fail
    go_loopw [35] (fun s wr => ∃ k : Nat, s = .int .i64 (k : Int) ∧ k ≤ 3 ∧ Hid (FindsAt W wr d gs o o2 o3)) (fun s _ => 3 - (intOf s).toNat)
    case atStart => exact ⟨0, rfl, by omega, HT⟩
    case round =>
      clear HT
      obtain ⟨k, rfl, hk, T⟩ := hrel
      by_cases hlt : k < 3
      · have hlt' : (k : Int) < 3 := by omega
        obtain ⟨x, hx⟩ : ∃ x, [o, o2, o3][k]? = some x := ⟨[o, o2, o3][k], List.getElem?_eq_getElem hlt⟩
        obtain ⟨lx, Ex, hnx⟩ := T.out.able x (List.mem_of_getElem? hx)
        have OT := T.out.ob
        have hdl := T.out.dice.lt
        obtain ⟨w5, hw5, m, hm, w6, hw6, OZ, OM, hb6, hs6⟩ := laid_ob x wr
        have NX := hide (hnx.below hb6 (Nat.le_of_lt hdl))
        replace T := hide (T.out.below hb6)
        have hdm : d < m := by omega
        clear hb6 hnx hs6
        go_wp2_with (first | (refine wpList_val (by rfl) (exec_load_three rfl rfl OT hx) ?_) | (refine store_ob rfl _ _ rfl rfl (c := x) rfl OZ rfl ?_; rw [hw6]) | fail)
        clear OZ hw5 hw6 OT hx hm
        refine (paths_any _).mono ?_
        rintro e w7 ⟨gp, rfl, hgp, hO, hb7⟩
        have hdl := T.out.dice.lt
        have hgpd : d < gp := by omega
        replace NX := hide (NX.out.below hb7 (Nat.le_of_lt hdl))
        replace T := hide (T.out.below hb7)
        replace OM := OM.below hb7 OM.lt
        clear hb7 hgp
        go_wp2_with fail
        refine (next_dice d d 8 _ T.out.dice (by omega) (by omega)).mono ?_
        rintro e w8 ⟨v, rfl, hv, hD8, hB8⟩
        have hdl := T.out.dice.lt
        replace NX := hide (NX.out.bel hB8 (Nat.le_of_lt hdl))
        replace T := hide (T.out.bels hB8 hD8)
        replace OM := hB8.obl' OM (by omega)
        replace hO := hB8.obl' hO (by omega)
        obtain ⟨v', rfl⟩ := Int.eq_ofNat_of_zero_le hv.1
        have hv8 : v' < 8 := by omega
        have hv8' : (v' : Int) < 8 := by omega
        obtain ⟨sv, hcv⟩ := known_cell hO hv8
        have hba : Below w8.heap.size w8 (w8.alloc (.cells #[.string p, .string sv] 9)) := (Below.refl _ _).alloc (Nat.le_refl _) _
        have OQ := Obl.make w8 9 #[.string p, .string sv]
        have hdl := T.out.dice.lt
        replace NX := hide (NX.out.below hba (Nat.le_of_lt hdl))
        replace T := hide (T.out.below hba)
        replace OM := OM.below hba OM.lt
        obtain ⟨gq, hgq⟩ : ∃ gq, w8.heap.size = gq := ⟨_, rfl⟩
        obtain ⟨w9, hw9⟩ : ∃ w9, w8.alloc (.cells #[.string p, .string sv] 9) = w9 := ⟨_, rfl⟩
        rw [hgq] at OQ
        rw [hw9] at OQ NX T OM
        clear hD8 hB8 hv hO hba
        go_wp2_with fail
        clear hcv hgq hw9
        go_loopw [47] (fun s wr => ∃ j : Nat, s = .int .i64 (j : Int) ∧ j ≤ 2 ∧ Hid (FindsAt W wr d gs o o2 o3) ∧ Hid (NamedE wr d x lx Ex) ∧ Obl wr m 41 (oc x) ∧ Obl wr gq 9 #[.string p, .string sv]) (fun s _ => 2 - (intOf s).toNat)
        case atStart => exact ⟨0, rfl, by omega, T, NX, OM, OQ⟩
        case round =>
          clear T NX OM OQ
          obtain ⟨j, rfl, hj, T, NX, OM, OQ⟩ := hrel
          by_cases hj2 : j < 2
          · have hj2' : (j : Int) < 2 := by omega
            obtain ⟨sp, hcp⟩ : ∃ sp, wr.cell? ⟨gq, j, none⟩ = some (.string sp) := by
              obtain rfl | rfl : j = 0 ∨ j = 1 := by omega
              · exact ⟨p, OQ.cell 0⟩
              · exact ⟨sv, OQ.cell 1⟩
            go_wp2_with (first | (refine load_ob rfl _ rfl rfl OM ?_) | fail)
            clear hcp
            obtain ⟨rf, hrf⟩ : ∃ rf, x.found Ex sp.data.toList = rf := ⟨_, rfl⟩
            have HID : Hid ((rf.getD Nx.ent0).ids.length ≤ 1000) := hide (by rw [← hrf]; exact found_short)
            have HRF := hide hrf
            obtain ⟨vb, hvb⟩ : ∃ vb, rf.isSome = vb := ⟨_, rfl⟩
            have HVB := hide hvb
            have hdl := T.out.dice.lt
            have HF := (both_find sp (NX.out.all (Nat.le_of_lt hdl)) NX.out.1 NX.out.2.1 (HM.out.below T.out.bel)).1
            rw [hrf] at HF
            refine HF.mono ?_
            clear HF hrf
            rintro e x12 ⟨y12, rfl, hy12, hb12⟩
            rw [hvb]
            obtain ⟨v12, hv12, g12, hg12, u12, hu12, OZ, ON, hb12', hs12⟩ := start_nm x12 y12
            have N12 := hide (hy12.laid hg12 ON hb12')
            have hxe := hg12.symm ▸ hb12'
            replace NX := hide ((NX.out.below hb12 (Nat.le_of_lt hdl)).below hxe (by have := hb12.size; omega))
            replace T := hide ((T.out.below hb12).below hxe)
            replace OM := (OM.below hb12 OM.lt).below hxe (by have := OM.lt; have := hb12.size; omega)
            replace OQ := (OQ.below hb12 OQ.lt).below hxe (by have := OQ.lt; have := hb12.size; omega)
            clear hy12 ON hb12 hb12' hxe hs12 hvb
            go_wp2_with (first | (refine store_nm rfl _ _ rfl rfl (c := y12) rfl OZ rfl ?_; rw [hu12]) | (refine load_ob rfl _ rfl rfl OM ?_) | fail)
            clear OZ hv12 hu12 hg12
            have hdl := T.out.dice.lt
            have HF := (both_find sp (NX.out.all (Nat.le_of_lt hdl)) NX.out.1 NX.out.2.1 (HM.out.below T.out.bel)).2
            rw [HRF.out] at HF
            refine HF.mono ?_
            clear HF
            rintro e x14 ⟨y14, rfl, hy14, hb14⟩
            rw [HVB.out]
            obtain ⟨v14, hv14, g14, hg14, u14, hu14, OZ, ON, hb14', hs14⟩ := start_nm x14 y14
            have N14 := hide (hy14.laid hg14 ON hb14')
            have hxe := hg14.symm ▸ hb14'
            replace N12 := hide ((N12.out.below hb14).below hxe)
            replace NX := hide ((NX.out.below hb14 (Nat.le_of_lt hdl)).below hxe (by have := hb14.size; omega))
            replace T := hide ((T.out.below hb14).below hxe)
            replace OM := (OM.below hb14 OM.lt).below hxe (by have := OM.lt; have := hb14.size; omega)
            replace OQ := (OQ.below hb14 OQ.lt).below hxe (by have := OQ.lt; have := hb14.size; omega)
            clear hy14 ON hb14 hb14' hxe hs14
            have o12 := N12.out.ob
            have o14 := N14.out.ob
            have HSM := hide (entSame N12.out.holds N14.out.holds HID.out)
            have vne : (vb != vb) = false := by simp
            go_wp2_with (first | (refine store_nm rfl _ _ rfl rfl (c := y14) rfl OZ rfl ?_; rw [hu14]) | (refine wpList_val (by rfl) (exec_load_nm rfl rfl o12) ?_) | (refine wpList_val (by rfl) (exec_load_nm rfl rfl o14) ?_) | fail)
            go_at_call 16
            refine HSM.out.mono ?_
            rintro e w16 ⟨rfl, hb16⟩
            have hdl := T.out.dice.lt
            replace NX := hide (NX.out.below hb16 (Nat.le_of_lt hdl))
            replace T := hide (T.out.below hb16)
            replace OM := OM.below hb16 OM.lt
            replace OQ := OQ.below hb16 OQ.lt
            clear OZ hv14 hu14 hg14 o12 o14 HSM N12 N14 hb16 HID HRF HVB
            go_wp2_with fail
            go_roundw
            case rel => exact ⟨j + 1, by go_num, by omega, T, NX, OM, OQ⟩
            case measure => simp [intOf]; omega
          · obtain rfl : j = 2 := by omega
            go_wp2_with fail
            refine region_B (by kernel_rfl) wr.heap.size ?_
            have OM' : Obl wr.drew m 41 (oc x) := OM
            have hOMl := OM.lt
            have hdl := T.out.dice.lt
            have hdr : Below wr.heap.size wr wr.drew := ⟨rfl, rfl, rfl, Nat.le_refl _, fun _ _ => rfl⟩
            replace T := hide (T.out.below hdr)
            replace NX := hide (NX.out.below hdr (Nat.le_of_lt hdl))
            clear OM OQ hdr
            refine takeB 0 rfl (by kernel_rfl) (fun _ _ _ h => h) (by rfl) (by intro w' hg; exact exec_load_ob rfl rfl (OM'.below hg hOMl)) ?_
            refine takeB 2 rfl (by kernel_rfl) (fun _ _ _ h => h) (by rfl) (by intro w' hg; exact exec_load_ob rfl rfl (OM'.below hg hOMl)) ?_
            refine onlyB 1 rfl (by kernel_rfl) (by rfl) ?_
            intro K hK
            go_simp
            refine (nxNames_any x lx Ex _ (NX.out.all (Nat.le_of_lt T.out.dice.lt)) NX.out.1 (HM.out.below T.out.bel)).mono ?_
            rintro e w17 ⟨rfl, hb17⟩
            refine hK _ _ hb17 ?_
            clear hK K
            replace NX := hide (NX.out.below hb17 (Nat.le_of_lt T.out.dice.lt))
            replace T := hide (T.out.below hb17)
            have hs17 := hb17.size
            clear hb17
            refine onlyB 3 rfl (by kernel_rfl) (by rfl) ?_
            intro K hK
            go_simp
            refine (refNames_any x lx Ex _ (NX.out.all (Nat.le_of_lt T.out.dice.lt)) NX.out.1).mono ?_
            rintro e w18 ⟨rfl, hb18⟩
            refine hK _ _ (hb18.mono hs17) ?_
            clear hK K
            replace T := hide (T.out.below hb18)
            clear hb18 hs17 NX OM'
            obtain ⟨vn, hvn⟩ : ∃ vn, decide (x.Names Ex) = vn := ⟨_, rfl⟩
            rw [hvn]
            clear hvn
            refine takeB 4 rfl (by kernel_rfl) (fun _ _ _ h => h) (by rfl) (by intro w' hg; go_simp; try with_reducible rfl) ?_
            refine doneB (by kernel_rfl) ?_
            have vne : (vn != vn) = false := by simp
            go_simp
            go_wp2_with fail
            go_roundw
            case rel => exact ⟨k + 1, by go_num, by omega, T⟩
            case measure => simp [intOf]; omega
      · obtain rfl : k = 3 := by omega
        have hpp := hide (show p.size ≤ 9223372036854775807 from HPS.out)
        go_wp2_with fail
        refine (nxPath_any p _ (HM.out.below T.out.bel) hpp.out).mono ?_
        rintro e w20 ⟨rfl, hb20⟩
        replace T := hide (T.out.below hb20)
        clear hb20
        obtain ⟨vp, hvp⟩ : ∃ vp, decide (Nx.Path p.data.toList) = vp := ⟨_, rfl⟩
        rw [hvp]
        have HVP := hide hvp
        clear hvp
        go_wp2_with fail
        refine (refPath_any p _ hpp.out).mono ?_
        rintro e w21 ⟨rfl, q21⟩
        rw [q21, HVP.out]
        clear q21 w21
        go_wp2_with fail
        go_ret
        exact ⟨ret_bool (by simp), T.out.bel⟩
end Go.Proofs.YtmkpndajmggadaaDoor
