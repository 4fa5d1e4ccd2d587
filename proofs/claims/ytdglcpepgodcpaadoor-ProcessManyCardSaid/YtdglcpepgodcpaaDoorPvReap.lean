/- Layer 16, package process: Reap: a contract over plain values. (Written by tools/mkpvfork.py.) -/
import Derived.Test.YtdglcpepgodcpaaDoorPvWord
import Derived.Test.YtdglcpepgodcpaaDoorPvIdx
import Derived.Test.YtdglcpepgodcpaaDoorRegionD
namespace Go.Proofs.YtdglcpepgodcpaaDoor
open Go.RowKit

theorem kids_of {o c : Ob} {k : Ko} {s : Sl} {L : List Int} (hp : k.Proc) (he : Ko.of o k.cont = k) : Ko.of (({ o.reproc c with children := s } : Ob).obj o.id) ({ k.cont with children := L } : Cont).only = { k with children := L } := by
  have h1 : Ko.of (({ o.reproc c with children := s } : Ob).obj o.id) ({ k.cont with children := L } : Cont).only = { (Ko.of o k.cont).onlyp with children := L } := rfl
  rw [h1, he, hp.only]
set_option maxRecDepth 100000 in
set_option maxHeartbeats 32000000 in
theorem pvReap_any {o p : Ob} {k l : Ko} (W : World) (h : IsKo W W.heap.size o k) (hf : k.Fit) (h2 : IsKo W W.heap.size p l) (hf2 : l.Fit) (hL : LaidO W) : Calls Tryd.prog 8 #[.agg (oc o), .agg (oc p)] W (KoNumOwn (kReap k l) W) := by
  obtain ⟨w1, hw, O, P, Z, hb, hs⟩ := start_ooz W o p
  have HB := hide hb
  have HH : Hid (IsKo w1 w1.heap.size o k) := hide (h.later hb)
  have HG : Hid (IsKo w1 w1.heap.size p l) := hide (h2.later hb)
  have HL := hide (hL.below hb)
  have HI := hide (h.procIn hf)
  have HJ := hide (h2.procIn hf2)
  have HSH := hide hf.lists
  have HP := hide h.proc_iff
  have HQ := hide h2.proc_iff
  have HID := hide h.id
  have HEQ := hide h.eq
  have HKL := hide h.kidsLen
  have HIDL := hide h2.id
  have HPAL := hide h2.parent
  have HSL := hide h2.state
  have HSTL := hide h2.status
  clear h hf h2 hf2 hL hb hs
  go_enter Tryd.func8, Tryd.ntmps8
  go_wp2_with (first | (refine wpList_val (by rfl) (exec_load_ob rfl rfl O) ?_) | fail)
  refine (pvValid_any o k.cont _ HH.out.held.p HI.out HL.out).mono ?_
  rintro e w2 ⟨rfl, hb⟩
  replace O := O.below hb O.lt
  replace P := P.below hb P.lt
  replace Z := Z.below hb Z.lt
  replace HB := hide (HB.out.trans (hb.mono HB.out.size))
  replace HH := hide (HH.out.later hb)
  replace HG := hide (HG.out.later hb)
  replace HL := hide (HL.out.below hb)
  clear hb
  by_cases hp : o.Proc k.cont
  case neg =>
    rw [decide_eq_false hp]
    have HR : Hid (kReap k l = (Ko.zero, 0, 1)) := hide (if_pos fun h => hp (HP.out.2 h.1))
    clear hp
    go_wp2_with (first | (refine wpList_val (by rfl) (exec_build (t := 42) (vs := []) rfl (by rfl) built_zero) ?_) | (refine store_ob rfl _ _ rfl rfl (c := Ob.zero) rfl Z rfl ?_) | fail)
    refine bodyPost_ret (pv_ret3 rfl _ (by rfl) (Z.row_same _)) rfl ?_
    exact KoNumOwn.of HR.out rfl (IsKo.zero _ _) (below_row HB.out (Nat.le_add_right _ 2) _) (Owns.zero _ _)
  rw [decide_eq_true hp]
  have HPR := hide (HP.out.1 hp)
  clear hp
  go_wp2_with (first | (refine wpList_val (by rfl) (exec_load_ob rfl rfl P) ?_) | fail)
  refine (pvValid_any p l.cont _ HG.out.held.p HJ.out HL.out).mono ?_
  rintro e w3 ⟨rfl, hb⟩
  replace O := O.below hb O.lt
  replace P := P.below hb P.lt
  replace Z := Z.below hb Z.lt
  replace HB := hide (HB.out.trans (hb.mono HB.out.size))
  replace HH := hide (HH.out.later hb)
  replace HG := hide (HG.out.later hb)
  replace HL := hide (HL.out.below hb)
  clear hb
  by_cases hp : p.Proc l.cont
  case neg =>
    rw [decide_eq_false hp]
    have HR : Hid (kReap k l = (Ko.zero, 0, 1)) := hide (if_pos fun h => hp (HQ.out.2 h.2))
    clear hp
    go_wp2_with (first | (refine wpList_val (by rfl) (exec_build (t := 42) (vs := []) rfl (by rfl) built_zero) ?_) | (refine store_ob rfl _ _ rfl rfl (c := Ob.zero) rfl Z rfl ?_) | fail)
    refine bodyPost_ret (pv_ret3 rfl _ (by rfl) (Z.row_same _)) rfl ?_
    exact KoNumOwn.of HR.out rfl (IsKo.zero _ _) (below_row HB.out (Nat.le_add_right _ 2) _) (Owns.zero _ _)
  rw [decide_eq_true hp]
  have HN := hide (show ¬ ¬ (k.Proc ∧ l.Proc) from fun h => h ⟨HPR.out, HQ.out.1 hp⟩)
  clear hp HI HJ HP HQ
  have k0 : w3.cell? ⟨W.heap.size, 0, none⟩ = some (.int .u64 o.id) := O.cell 0
  have k5 : w3.cell? ⟨W.heap.size, 5, none⟩ = some (.slice o.children.A o.children.n o.children.c) := O.cell 5
  have j0 : w3.cell? ⟨W.heap.size + 1, 0, none⟩ = some (.int .u64 p.id) := P.cell 0
  have j3 : w3.cell? ⟨W.heap.size + 1, 3, none⟩ = some (.int .i64 p.state) := P.cell 3
  have j4 : w3.cell? ⟨W.heap.size + 1, 4, none⟩ = some (.int .u64 p.parent) := P.cell 4
  have h63 : o.children.n ≤ 9223372036854775807 := by have := HH.out.caps.kids; omega
  go_wp2_with fail
  refine (index64_at o.children.A o.children.n o.children.c k.children p.id _ HH.out.held.children h63).mono ?_
  rintro e w4 ⟨⟨at_, rfl, hat⟩, rfl⟩
  rcases hat with ⟨hat, rfl⟩ | ⟨i, hi, rfl, hx, _⟩
  case inl =>
    have HR : Hid (kReap k l = (Ko.zero, 0, 14)) := hide (by unfold kReap; rw [if_neg HN.out, if_pos (.inl (by rw [HIDL.out]; exact hat))])
    clear hat
    go_wp2_with (first | (refine wpList_val (by rfl) (exec_build (t := 42) (vs := []) rfl (by rfl) built_zero) ?_) | (refine store_ob rfl _ _ rfl rfl (c := Ob.zero) rfl Z rfl ?_) | fail)
    refine bodyPost_ret (pv_ret3 rfl _ (by rfl) (Z.row_same _)) rfl ?_
    exact KoNumOwn.of HR.out rfl (IsKo.zero _ _) (below_row HB.out (Nat.le_add_right _ 2) _) (Owns.zero _ _)
  have HIN := hide (show ¬ l.id ∉ k.children from fun h => h (by rw [HIDL.out, ← hx]; exact List.getElem_mem hi))
  have HER := hide (erase_filter HPR.out.kids.2.2 hi hx)
  have hin : i < o.children.n := by rw [← HKL.out]; exact hi
  have hi0 : ¬ (i : Int) < 0 := by omega
  clear hx hi
  by_cases h4 : p.parent = o.id
  case neg =>
    have HR : Hid (kReap k l = (Ko.zero, 0, 14)) := hide (by unfold kReap; rw [if_neg HN.out, if_pos (.inr (by rw [HPAL.out, HID.out]; exact h4))])
    have e4 : (p.parent != o.id) = true := by simpa using h4
    clear h4
    go_wp2_with (first | (refine wpList_val (by rfl) (exec_build (t := 42) (vs := []) rfl (by rfl) built_zero) ?_) | (refine store_ob rfl _ _ rfl rfl (c := Ob.zero) rfl Z rfl ?_) | fail)
    refine bodyPost_ret (pv_ret3 rfl _ (by rfl) (Z.row_same _)) rfl ?_
    exact KoNumOwn.of HR.out rfl (IsKo.zero _ _) (below_row HB.out (Nat.le_add_right _ 2) _) (Owns.zero _ _)
  have HN4 := hide (show ¬ (l.id ∉ k.children ∨ l.parent ≠ k.id) from fun h => h.elim HIN.out fun h => h (by rw [HPAL.out, HID.out]; exact h4))
  have e4 : (p.parent != o.id) = false := by simpa using h4
  clear h4
  by_cases h3 : p.state = 3
  case neg =>
    have HR : Hid (kReap k l = (Ko.zero, 0, 12)) := hide (by unfold kReap; rw [if_neg HN.out, if_neg HN4.out, if_pos (by rw [HSL.out]; exact h3)])
    have e3 : (p.state != 3) = true := by simpa using h3
    clear h3
    go_wp2_with (first | (refine wpList_val (by rfl) (exec_build (t := 42) (vs := []) rfl (by rfl) built_zero) ?_) | (refine store_ob rfl _ _ rfl rfl (c := Ob.zero) rfl Z rfl ?_) | fail)
    refine bodyPost_ret (pv_ret3 rfl _ (by rfl) (Z.row_same _)) rfl ?_
    exact KoNumOwn.of HR.out rfl (IsKo.zero _ _) (below_row HB.out (Nat.le_add_right _ 2) _) (Owns.zero _ _)
  have HR : Hid (kReap k l = (k.without l.id, l.status, 0)) := hide (by unfold kReap; rw [if_neg HN.out, if_neg HN4.out, if_neg (by rw [HSL.out]; exact fun h => h h3)])
  rw [h3] at j3
  clear h3
  go_upto_region 8 with (fail)
  obtain ⟨s, hsz⟩ : ∃ s, w4.drew.heap.size = s := ⟨_, rfl⟩
  refine region_B (by kernel_rfl) s ?_
  replace O : Obl w4.drew W.heap.size 42 (oc o) := O
  replace P : Obl w4.drew (W.heap.size + 1) 42 (oc p) := P
  replace Z : Obl w4.drew (W.heap.size + 2) 42 (oc Ob.zero) := Z
  replace HB : Hid (Below W.heap.size W w4.drew) := hide (below_drewN HB.out 1)
  replace HH : Hid (IsKo w4.drew w4.drew.heap.size o k) := hide (HH.out.later (below_drewN (Below.refl _ _) 1))
  have HX : Hid (Below s w4.drew w4.drew) := hide (Below.refl _ _)
  have hO := O.lt
  have hP := P.lt
  have hZ := Z.lt
  rw [hsz] at HH hO hP hZ
  have HSZ := hide hsz
  clear hsz HL HG k0 k5 j0 j3 j4 e4 HKL
  generalize w4.drew = u0 at *
  refine takeB 0 rfl (by kernel_rfl) (fun _ _ _ h => h) (by rfl) (by intro w' hg; go_simp; try with_reducible rfl) ?_
  refine takeB 1 rfl (by kernel_rfl) (fun _ _ _ h => h) (by rfl) (by intro w' hg; have kk : w'.cell? ⟨W.heap.size, 0, none⟩ = some (.int .u64 o.id) := (O.below hg hO).cell 0; go_simp; try with_reducible rfl) ?_
  refine takeB 2 rfl (by kernel_rfl) (fun _ _ _ h => h) (by rfl) (by intro w' hg; go_simp; try with_reducible rfl) ?_
  refine takeB 3 rfl (by kernel_rfl) (fun _ _ _ h => h) (by rfl) (by intro w' hg; exact exec_load_proc rfl rfl (O.below hg hO)) ?_
  refine twoB 4 6 rfl rfl (by kernel_rfl) (by rfl) (by rfl) ?_ ?_
  · intro K hK
    go_simp
    refine (pvCopied_any o k.cont u0 ((HH.out.held.p.below HX.out).mono (HSZ.out ▸ HX.out.size)) HSH.out).mono ?_
    rintro e v1 ⟨c, rfl, hst, hb⟩
    refine hK _ _ (hb.mono (HSZ.out ▸ HX.out.size)) ?_
    clear hK K
    have HOW : Hid (Owns v1 s c k.cont) := hide (hst.now.weaken (HSZ.out ▸ HX.out.size))
    clear hst
    replace HX := hide (HX.out.trans (hb.mono (HSZ.out ▸ HX.out.size)))
    clear hb
    go_simp
    refine twoB 5 6 rfl rfl (by kernel_rfl) (by rfl) (by rfl) ?_ ?_
    · intro K hK
      go_simp
      refine (pvObject_any (o.reproc c) o.id _).mono ?_
      rintro e v2 ⟨rfl, hb⟩
      refine hK _ _ (hb.mono (HSZ.out ▸ HX.out.size)) ?_
      clear hK K
      replace HOW := hide (HOW.out.later hb)
      replace HX := hide (HX.out.trans (hb.mono (HSZ.out ▸ HX.out.size)))
      clear hb
      go_simp
      refine onlyB 6 rfl (by kernel_rfl) (by rfl) ?_
      intro K hK
      go_simp
      generalize hnw : World.alloc v2 _ = v3
      have HZ : Obl v3 v2.heap.size 42 (oc Ob.zero) := hnw ▸ (Obl.make v2 42 (oc Ob.zero))
      have hb : Below v2.heap.size v2 v3 := hnw ▸ ((Below.refl _ _).alloc (Nat.le_refl _) _)
      have hgz : s ≤ v2.heap.size := (HSZ.out ▸ HX.out.size)
      refine hK _ _ (hb.mono (HSZ.out ▸ HX.out.size)) ?_
      clear hK K
      replace HOW := hide (HOW.out.later hb)
      replace HX := hide (HX.out.trans (hb.mono (HSZ.out ▸ HX.out.size)))
      clear hb hnw
      obtain ⟨z, hzz⟩ : ∃ z, v2.heap.size = z := ⟨_, rfl⟩
      rw [hzz] at HZ hgz ⊢
      clear hzz
      go_simp
      refine onlyB 7 rfl (by kernel_rfl) (by rfl) ?_
      intro K hK
      refine pv_store rfl rfl (c := ((o.reproc c).obj o.id)) rfl HZ rfl ?_
      have hb := below_row (Below.refl s v3) hgz (oc ((o.reproc c).obj o.id))
      replace HOW := hide (HOW.out.row (cs' := oc ((o.reproc c).obj o.id)) HZ)
      replace HZ := HZ.row_same (oc ((o.reproc c).obj o.id))
      refine hK _ _ hb ?_
      clear hK K
      replace HX := hide (HX.out.trans hb)
      clear hb
      generalize v3.setRow z (oc ((o.reproc c).obj o.id)) = v4 at *
      refine doneB (by kernel_rfl) ?_
      go_simp
      have HBv := hide (HB.out.trans (HX.out.mono (HSZ.out ▸ HB.out.size)))
      have Pv := P.below HX.out hP
      have Zv := Z.below HX.out hZ
      have hcl : k.children.length = c.children.n := by have := HOW.out.children.1; rw [nv_length] at this; simp only [Ko.cont] at this; omega
      have hic : i < c.children.n := by rw [← hcl, HH.out.kidsLen]; exact hin
      obtain ⟨g, hA, hsg, hgv⟩ := own_addr HOW.out.children (by omega)
      have hch := HOW.out.children
      rw [hA] at hch
      have kz5 : v4.cell? ⟨z, 5, none⟩ = some (.slice (some ⟨g, 0, none⟩) c.children.n c.children.c) := by rw [← hA]; exact HZ.cell 5
      have hzg : z ≠ g := fun e => Obl.apart HZ hch (by decide) (by rw [e]; rfl)
      have HAC := hide (own_apart HOW.out.code hch (by decide))
      have HAS := hide (own_apart HOW.out.strs hch (by decide))
      have HAP := hide (own_apart HOW.out.pages hch (by decide))
      have HAT := hide (own_apart HOW.out.table hch (by decide))
      have HCH := hide hch
      clear O P Z HB HH hch hA hcl
      go_wp2_with fail
      refine (pvDelete_any (i := i) _ HCH.out hic).mono ?_
      rintro e w5 ⟨rfl, hown, hb, hk, hsz5⟩
      have HO5 := hide hown
      have HZ5 : Obl w5 z 42 (oc ((o.reproc c).obj o.id)) := (hk z hzg).trans HZ
      have HOC := hide (own_keep_ne HOW.out.code (fun h => HAC.out.elim (fun h0 => by rw [h0] at h; cases h) fun h1 => h1 h) hk)
      have HOS := hide (own_keep_ne HOW.out.strs (fun h => HAS.out.elim (fun h0 => by rw [h0] at h; cases h) fun h1 => h1 h) hk)
      have HOP := hide (own_keep_ne HOW.out.pages (fun h => HAP.out.elim (fun h0 => by rw [h0] at h; cases h) fun h1 => h1 h) hk)
      have HOT := hide (own_keep_ne HOW.out.table (fun h => HAT.out.elim (fun h0 => by rw [h0] at h; cases h) fun h1 => h1 h) hk)
      have hb5 : Below s v4 w5 := hb.mono hsg
      have hz5 := HZ5.cell 5
      have hf5 := HZ5.free 5
      have z5 : w5.cell? ⟨z, 5, none⟩ = some (.slice c.children.A c.children.n c.children.c) := hz5
      have X1 := Pv.below hb5 hP
      have X2 := Zv.below hb5 hZ
      have hWs : W.heap.size ≤ s := Nat.le_of_lt hO
      have HBw := hide (HBv.out.trans (hb5.mono hWs))
      have hsw : s ≤ w5.heap.size := Nat.le_trans (HSZ.out ▸ HX.out.size) hb5.size
      clear hown hb hk hsz5 hz5 kz5 HCH HAC HAS HAP HAT HOW HZ hb5 Pv Zv HBv HX HSZ
      go_upto_region 10 with (fail)
      have HZ6 := HZ5.put 5 (.slice (some ⟨g, 0, none⟩) (c.children.n - 1) c.children.c)
      rw [oc_children] at HZ6
      replace HBw := hide (HBw.out.setCell (p := ⟨z, 5, none⟩) (show W.heap.size ≤ z from by omega) (.slice (some ⟨g, 0, none⟩) (c.children.n - 1) c.children.c))
      replace HO5 := hide (own_put_ob (i := 5) HO5.out HZ5 (by decide) (.slice (some ⟨g, 0, none⟩) (c.children.n - 1) c.children.c))
      replace HOC := hide (own_put_ob (i := 5) HOC.out HZ5 (by decide) (.slice (some ⟨g, 0, none⟩) (c.children.n - 1) c.children.c))
      replace HOS := hide (own_put_ob (i := 5) HOS.out HZ5 (by decide) (.slice (some ⟨g, 0, none⟩) (c.children.n - 1) c.children.c))
      replace HOP := hide (own_put_ob (i := 5) HOP.out HZ5 (by decide) (.slice (some ⟨g, 0, none⟩) (c.children.n - 1) c.children.c))
      replace HOT := hide (own_put_ob (i := 5) HOT.out HZ5 (by decide) (.slice (some ⟨g, 0, none⟩) (c.children.n - 1) c.children.c))
      replace X1 := X1.put_other (b' := z) (by omega) 5 (.slice (some ⟨g, 0, none⟩) (c.children.n - 1) c.children.c)
      replace X2 := X2.put_other (b' := z) (by omega) 5 (.slice (some ⟨g, 0, none⟩) (c.children.n - 1) c.children.c)
      clear z5 hf5 HZ5
      generalize w5.setCell ⟨z, 5, none⟩ (.slice (some ⟨g, 0, none⟩) (c.children.n - 1) c.children.c) = w6 at *
      obtain ⟨y6, hy6⟩ : ∃ y, ({ o.reproc c with children := ⟨some ⟨g, 0, none⟩, c.children.n - 1, c.children.c⟩ } : Ob).obj o.id = y := ⟨_, rfl⟩
      replace HZ6 : Obl w6.drew z 42 (oc y6) := hy6 ▸ HZ6
      have HY6 := hide hy6
      clear hy6
      replace X1 : Obl w6.drew (W.heap.size + 1) 42 (oc p) := X1
      replace X2 : Obl w6.drew (W.heap.size + 2) 42 (oc Ob.zero) := X2
      replace HBw : Hid (Below W.heap.size W w6.drew) := hide (below_drewN HBw.out 1)
      replace HO5 : Hid (w6.drew.ownsRow s 24 1 (.slice (some ⟨g, 0, none⟩) (c.children.n - 1) c.children.c) (c.children.n - 1) (nv .u64 (k.children.eraseIdx i))) := HO5
      replace HOC : Hid (w6.drew.ownsRow s 72 4 (.slice c.code.A c.code.n c.code.c) c.code.n (iv k.cont.code)) := HOC
      replace HOS : Hid (w6.drew.ownsRow s 9 1 (.slice c.strs.A c.strs.n c.strs.c) c.strs.n (sv k.cont.strs)) := HOS
      replace HOP : Hid (w6.drew.ownsRow s 77 2 (.slice c.pages.A c.pages.n c.pages.c) c.pages.n (rv k.cont.pages)) := HOP
      replace HOT : Hid (w6.drew.ownsRow s 86 4 (.slice c.table.A c.table.n c.table.c) c.table.n (stv k.cont.table)) := HOT
      obtain ⟨b9, hb9⟩ : ∃ b, w6.drew.heap.size = b := ⟨_, rfl⟩
      refine region_D (by kernel_rfl) b9 (W.heap.size + 2) [] ?_
      have hzb := HZ6.lt
      have hxb := X1.lt
      rw [hb9] at hzb hxb
      clear hb9
      generalize w6.drew = u6 at *
      refine takeD 0 [0, 4, 5, 6] rfl (by kernel_rfl) (fun _ _ _ h => h) (by rfl) (by intro w' hg; exact exec_load_ob rfl rfl (show Obl w' z 42 (oc y6) from (hg.block z hzb (by omega)).trans HZ6)) ?_
      refine takeDX 1 rfl (by kernel_rfl) (fun _ _ _ h => h) (by rfl) (by intro w'; go_simp; try with_reducible rfl) ?_
      refine takeDX 2 rfl (by kernel_rfl) (fun _ _ _ h => h) (by rfl) (by intro w'; go_simp; try with_reducible rfl) ?_
      refine takeD 3 [3, 5, 6] rfl (by kernel_rfl) (fun _ _ _ h => h) (by rfl) (by intro w' hg; have kk : w'.cell? ⟨W.heap.size + 1, 22, none⟩ = some (.int .i64 p.status) := (show Obl w' (W.heap.size + 1) 42 (oc p) from (hg.block (W.heap.size + 1) hxb (by omega)).trans X1).cell 22; go_simp; try with_reducible rfl) ?_
      go_simp
      refine onlyD 4 rfl (by kernel_rfl) (by rfl) ?_
      intro K hK
      refine pv_store rfl rfl (c := y6) rfl X2 rfl ?_
      refine hK _ _ (fun _ => ⟨rfl, rfl, rfl, by simp [World.setRow], fun _ _ hk => setRow_other _ _ _ hk⟩) ?_
      clear hK K
      replace HO5 := hide (own_apart_obl HO5.out X2 (by decide) rfl (cs' := oc y6))
      replace HOC := hide (own_apart_obl HOC.out X2 (by decide) rfl (cs' := oc y6))
      replace HOS := hide (own_apart_obl HOS.out X2 (by decide) rfl (cs' := oc y6))
      replace HOP := hide (own_apart_obl HOP.out X2 (by decide) rfl (cs' := oc y6))
      replace HOT := hide (own_apart_obl HOT.out X2 (by decide) rfl (cs' := oc y6))
      replace HBw := hide (below_row HBw.out (Nat.le_add_right W.heap.size 2) (oc y6))
      replace X2 := X2.row_same (oc y6)
      generalize u6.setRow (W.heap.size + 2) (oc y6) = u7 at *
      refine takeDX 5 rfl (by kernel_rfl) (fun _ _ _ h => h) (by rfl) (by intro w'; go_simp; try with_reducible rfl) ?_
      refine takeDX 6 rfl (by kernel_rfl) (fun _ _ _ h => h) (by rfl) (by intro w'; go_simp; try with_reducible rfl) ?_
      refine doneD (by kernel_rfl) ?_
      go_simp
      go_wp2_with fail
      refine bodyPost_ret (pv_ret3 rfl _ (by rfl) X2) rfl ?_
      refine KoNumOwn.of HR.out (by rw [HSTL.out]; rfl) ?_ HBw.out ?_
      rotate_left
      · have ho := (⟨HO5.out, HOC.out, HOS.out, HOP.out, HOT.out⟩ : Owns u7 s ({ o.reproc c with children := ⟨some ⟨g, 0, none⟩, c.children.n - 1, c.children.c⟩ } : Ob) { k.cont with children := k.children.eraseIdx i }).weaken hWs
        rw [HER.out] at ho
        have HW : (k.without l.id).cont = { k.cont with children := k.children.filter fun c => c != p.id } := by unfold Ko.without; rw [HIDL.out]; rfl
        rw [← HY6.out, HW]
        exact ⟨ho.children, ho.code, ho.strs, ho.pages, ho.table⟩
      have hh : HoldsP u7 u7.heap.size ({ o.reproc c with children := ⟨some ⟨g, 0, none⟩, c.children.n - 1, c.children.c⟩ } : Ob) { k.cont with children := k.children.eraseIdx i } := ⟨Nums.of_own HO5.out, Inss.of_own HOC.out, Strs.of_own HOS.out, Refs.of_own HOP.out, Slots.of_own HOT.out⟩
      have hk := isKo_obj hh ⟨own_cap HO5.out, own_cap63 HO5.out⟩ ⟨own_cap HOP.out, own_cap63 HOP.out⟩ ⟨own_cap HOT.out, own_cap63 HOT.out⟩ o.id
      rw [kids_of HPR.out HEQ.out, HY6.out, HER.out] at hk
      have HW : k.without l.id = { k with children := k.children.filter fun c => c != p.id } := by unfold Ko.without; rw [HIDL.out]
      rw [HW]
      exact hk
    · intro K hK
      go_simp
      generalize hnw : World.alloc v1 _ = v5
      have HZ : Obl v5 v1.heap.size 42 (oc Ob.zero) := hnw ▸ (Obl.make v1 42 (oc Ob.zero))
      have hb : Below v1.heap.size v1 v5 := hnw ▸ ((Below.refl _ _).alloc (Nat.le_refl _) _)
      have hgz : s ≤ v1.heap.size := (HSZ.out ▸ HX.out.size)
      refine hK _ _ (hb.mono (HSZ.out ▸ HX.out.size)) ?_
      clear hK K
      replace HOW := hide (HOW.out.later hb)
      replace HX := hide (HX.out.trans (hb.mono (HSZ.out ▸ HX.out.size)))
      clear hb hnw
      obtain ⟨z, hzz⟩ : ∃ z, v1.heap.size = z := ⟨_, rfl⟩
      rw [hzz] at HZ hgz ⊢
      clear hzz
      go_simp
      refine onlyB 5 rfl (by kernel_rfl) (by rfl) ?_
      intro K hK
      go_simp
      refine (pvObject_any (o.reproc c) o.id _).mono ?_
      rintro e v6 ⟨rfl, hb⟩
      refine hK _ _ (hb.mono (HSZ.out ▸ HX.out.size)) ?_
      clear hK K
      replace HOW := hide (HOW.out.later hb)
      replace HX := hide (HX.out.trans (hb.mono (HSZ.out ▸ HX.out.size)))
      replace HZ := HZ.below hb HZ.lt
      clear hb
      go_simp
      refine onlyB 7 rfl (by kernel_rfl) (by rfl) ?_
      intro K hK
      refine pv_store rfl rfl (c := ((o.reproc c).obj o.id)) rfl HZ rfl ?_
      have hb := below_row (Below.refl s v6) hgz (oc ((o.reproc c).obj o.id))
      replace HOW := hide (HOW.out.row (cs' := oc ((o.reproc c).obj o.id)) HZ)
      replace HZ := HZ.row_same (oc ((o.reproc c).obj o.id))
      refine hK _ _ hb ?_
      clear hK K
      replace HX := hide (HX.out.trans hb)
      clear hb
      generalize v6.setRow z (oc ((o.reproc c).obj o.id)) = v7 at *
      refine doneB (by kernel_rfl) ?_
      go_simp
      have HBv := hide (HB.out.trans (HX.out.mono (HSZ.out ▸ HB.out.size)))
      have Pv := P.below HX.out hP
      have Zv := Z.below HX.out hZ
      have hcl : k.children.length = c.children.n := by have := HOW.out.children.1; rw [nv_length] at this; simp only [Ko.cont] at this; omega
      have hic : i < c.children.n := by rw [← hcl, HH.out.kidsLen]; exact hin
      obtain ⟨g, hA, hsg, hgv⟩ := own_addr HOW.out.children (by omega)
      have hch := HOW.out.children
      rw [hA] at hch
      have kz5 : v7.cell? ⟨z, 5, none⟩ = some (.slice (some ⟨g, 0, none⟩) c.children.n c.children.c) := by rw [← hA]; exact HZ.cell 5
      have hzg : z ≠ g := fun e => Obl.apart HZ hch (by decide) (by rw [e]; rfl)
      have HAC := hide (own_apart HOW.out.code hch (by decide))
      have HAS := hide (own_apart HOW.out.strs hch (by decide))
      have HAP := hide (own_apart HOW.out.pages hch (by decide))
      have HAT := hide (own_apart HOW.out.table hch (by decide))
      have HCH := hide hch
      clear O P Z HB HH hch hA hcl
      go_wp2_with fail
      refine (pvDelete_any (i := i) _ HCH.out hic).mono ?_
      rintro e w5 ⟨rfl, hown, hb, hk, hsz5⟩
      have HO5 := hide hown
      have HZ5 : Obl w5 z 42 (oc ((o.reproc c).obj o.id)) := (hk z hzg).trans HZ
      have HOC := hide (own_keep_ne HOW.out.code (fun h => HAC.out.elim (fun h0 => by rw [h0] at h; cases h) fun h1 => h1 h) hk)
      have HOS := hide (own_keep_ne HOW.out.strs (fun h => HAS.out.elim (fun h0 => by rw [h0] at h; cases h) fun h1 => h1 h) hk)
      have HOP := hide (own_keep_ne HOW.out.pages (fun h => HAP.out.elim (fun h0 => by rw [h0] at h; cases h) fun h1 => h1 h) hk)
      have HOT := hide (own_keep_ne HOW.out.table (fun h => HAT.out.elim (fun h0 => by rw [h0] at h; cases h) fun h1 => h1 h) hk)
      have hb5 : Below s v7 w5 := hb.mono hsg
      have hz5 := HZ5.cell 5
      have hf5 := HZ5.free 5
      have z5 : w5.cell? ⟨z, 5, none⟩ = some (.slice c.children.A c.children.n c.children.c) := hz5
      have X1 := Pv.below hb5 hP
      have X2 := Zv.below hb5 hZ
      have hWs : W.heap.size ≤ s := Nat.le_of_lt hO
      have HBw := hide (HBv.out.trans (hb5.mono hWs))
      have hsw : s ≤ w5.heap.size := Nat.le_trans (HSZ.out ▸ HX.out.size) hb5.size
      clear hown hb hk hsz5 hz5 kz5 HCH HAC HAS HAP HAT HOW HZ hb5 Pv Zv HBv HX HSZ
      go_upto_region 10 with (fail)
      have HZ6 := HZ5.put 5 (.slice (some ⟨g, 0, none⟩) (c.children.n - 1) c.children.c)
      rw [oc_children] at HZ6
      replace HBw := hide (HBw.out.setCell (p := ⟨z, 5, none⟩) (show W.heap.size ≤ z from by omega) (.slice (some ⟨g, 0, none⟩) (c.children.n - 1) c.children.c))
      replace HO5 := hide (own_put_ob (i := 5) HO5.out HZ5 (by decide) (.slice (some ⟨g, 0, none⟩) (c.children.n - 1) c.children.c))
      replace HOC := hide (own_put_ob (i := 5) HOC.out HZ5 (by decide) (.slice (some ⟨g, 0, none⟩) (c.children.n - 1) c.children.c))
      replace HOS := hide (own_put_ob (i := 5) HOS.out HZ5 (by decide) (.slice (some ⟨g, 0, none⟩) (c.children.n - 1) c.children.c))
      replace HOP := hide (own_put_ob (i := 5) HOP.out HZ5 (by decide) (.slice (some ⟨g, 0, none⟩) (c.children.n - 1) c.children.c))
      replace HOT := hide (own_put_ob (i := 5) HOT.out HZ5 (by decide) (.slice (some ⟨g, 0, none⟩) (c.children.n - 1) c.children.c))
      replace X1 := X1.put_other (b' := z) (by omega) 5 (.slice (some ⟨g, 0, none⟩) (c.children.n - 1) c.children.c)
      replace X2 := X2.put_other (b' := z) (by omega) 5 (.slice (some ⟨g, 0, none⟩) (c.children.n - 1) c.children.c)
      clear z5 hf5 HZ5
      generalize w5.setCell ⟨z, 5, none⟩ (.slice (some ⟨g, 0, none⟩) (c.children.n - 1) c.children.c) = w6 at *
      obtain ⟨y6, hy6⟩ : ∃ y, ({ o.reproc c with children := ⟨some ⟨g, 0, none⟩, c.children.n - 1, c.children.c⟩ } : Ob).obj o.id = y := ⟨_, rfl⟩
      replace HZ6 : Obl w6.drew z 42 (oc y6) := hy6 ▸ HZ6
      have HY6 := hide hy6
      clear hy6
      replace X1 : Obl w6.drew (W.heap.size + 1) 42 (oc p) := X1
      replace X2 : Obl w6.drew (W.heap.size + 2) 42 (oc Ob.zero) := X2
      replace HBw : Hid (Below W.heap.size W w6.drew) := hide (below_drewN HBw.out 1)
      replace HO5 : Hid (w6.drew.ownsRow s 24 1 (.slice (some ⟨g, 0, none⟩) (c.children.n - 1) c.children.c) (c.children.n - 1) (nv .u64 (k.children.eraseIdx i))) := HO5
      replace HOC : Hid (w6.drew.ownsRow s 72 4 (.slice c.code.A c.code.n c.code.c) c.code.n (iv k.cont.code)) := HOC
      replace HOS : Hid (w6.drew.ownsRow s 9 1 (.slice c.strs.A c.strs.n c.strs.c) c.strs.n (sv k.cont.strs)) := HOS
      replace HOP : Hid (w6.drew.ownsRow s 77 2 (.slice c.pages.A c.pages.n c.pages.c) c.pages.n (rv k.cont.pages)) := HOP
      replace HOT : Hid (w6.drew.ownsRow s 86 4 (.slice c.table.A c.table.n c.table.c) c.table.n (stv k.cont.table)) := HOT
      obtain ⟨b9, hb9⟩ : ∃ b, w6.drew.heap.size = b := ⟨_, rfl⟩
      refine region_D (by kernel_rfl) b9 (W.heap.size + 2) [] ?_
      have hzb := HZ6.lt
      have hxb := X1.lt
      rw [hb9] at hzb hxb
      clear hb9
      generalize w6.drew = u6 at *
      refine takeD 0 [0, 4, 5, 6] rfl (by kernel_rfl) (fun _ _ _ h => h) (by rfl) (by intro w' hg; exact exec_load_ob rfl rfl (show Obl w' z 42 (oc y6) from (hg.block z hzb (by omega)).trans HZ6)) ?_
      refine takeDX 1 rfl (by kernel_rfl) (fun _ _ _ h => h) (by rfl) (by intro w'; go_simp; try with_reducible rfl) ?_
      refine takeDX 2 rfl (by kernel_rfl) (fun _ _ _ h => h) (by rfl) (by intro w'; go_simp; try with_reducible rfl) ?_
      refine takeD 3 [3, 5, 6] rfl (by kernel_rfl) (fun _ _ _ h => h) (by rfl) (by intro w' hg; have kk : w'.cell? ⟨W.heap.size + 1, 22, none⟩ = some (.int .i64 p.status) := (show Obl w' (W.heap.size + 1) 42 (oc p) from (hg.block (W.heap.size + 1) hxb (by omega)).trans X1).cell 22; go_simp; try with_reducible rfl) ?_
      go_simp
      refine onlyD 4 rfl (by kernel_rfl) (by rfl) ?_
      intro K hK
      refine pv_store rfl rfl (c := y6) rfl X2 rfl ?_
      refine hK _ _ (fun _ => ⟨rfl, rfl, rfl, by simp [World.setRow], fun _ _ hk => setRow_other _ _ _ hk⟩) ?_
      clear hK K
      replace HO5 := hide (own_apart_obl HO5.out X2 (by decide) rfl (cs' := oc y6))
      replace HOC := hide (own_apart_obl HOC.out X2 (by decide) rfl (cs' := oc y6))
      replace HOS := hide (own_apart_obl HOS.out X2 (by decide) rfl (cs' := oc y6))
      replace HOP := hide (own_apart_obl HOP.out X2 (by decide) rfl (cs' := oc y6))
      replace HOT := hide (own_apart_obl HOT.out X2 (by decide) rfl (cs' := oc y6))
      replace HBw := hide (below_row HBw.out (Nat.le_add_right W.heap.size 2) (oc y6))
      replace X2 := X2.row_same (oc y6)
      generalize u6.setRow (W.heap.size + 2) (oc y6) = u7 at *
      refine takeDX 5 rfl (by kernel_rfl) (fun _ _ _ h => h) (by rfl) (by intro w'; go_simp; try with_reducible rfl) ?_
      refine takeDX 6 rfl (by kernel_rfl) (fun _ _ _ h => h) (by rfl) (by intro w'; go_simp; try with_reducible rfl) ?_
      refine doneD (by kernel_rfl) ?_
      go_simp
      go_wp2_with fail
      refine bodyPost_ret (pv_ret3 rfl _ (by rfl) X2) rfl ?_
      refine KoNumOwn.of HR.out (by rw [HSTL.out]; rfl) ?_ HBw.out ?_
      rotate_left
      · have ho := (⟨HO5.out, HOC.out, HOS.out, HOP.out, HOT.out⟩ : Owns u7 s ({ o.reproc c with children := ⟨some ⟨g, 0, none⟩, c.children.n - 1, c.children.c⟩ } : Ob) { k.cont with children := k.children.eraseIdx i }).weaken hWs
        rw [HER.out] at ho
        have HW : (k.without l.id).cont = { k.cont with children := k.children.filter fun c => c != p.id } := by unfold Ko.without; rw [HIDL.out]; rfl
        rw [← HY6.out, HW]
        exact ⟨ho.children, ho.code, ho.strs, ho.pages, ho.table⟩
      have hh : HoldsP u7 u7.heap.size ({ o.reproc c with children := ⟨some ⟨g, 0, none⟩, c.children.n - 1, c.children.c⟩ } : Ob) { k.cont with children := k.children.eraseIdx i } := ⟨Nums.of_own HO5.out, Inss.of_own HOC.out, Strs.of_own HOS.out, Refs.of_own HOP.out, Slots.of_own HOT.out⟩
      have hk := isKo_obj hh ⟨own_cap HO5.out, own_cap63 HO5.out⟩ ⟨own_cap HOP.out, own_cap63 HOP.out⟩ ⟨own_cap HOT.out, own_cap63 HOT.out⟩ o.id
      rw [kids_of HPR.out HEQ.out, HY6.out, HER.out] at hk
      have HW : k.without l.id = { k with children := k.children.filter fun c => c != p.id } := by unfold Ko.without; rw [HIDL.out]
      rw [HW]
      exact hk
  · intro K hK
    go_simp
    generalize hnw : World.alloc u0 _ = v8
    have HZ : Obl v8 u0.heap.size 42 (oc Ob.zero) := hnw ▸ (Obl.make u0 42 (oc Ob.zero))
    have hb : Below u0.heap.size u0 v8 := hnw ▸ ((Below.refl _ _).alloc (Nat.le_refl _) _)
    have hgz : s ≤ u0.heap.size := (HSZ.out ▸ HX.out.size)
    refine hK _ _ (hb.mono (HSZ.out ▸ HX.out.size)) ?_
    clear hK K
    replace HX := hide (HX.out.trans (hb.mono (HSZ.out ▸ HX.out.size)))
    clear hb hnw
    obtain ⟨z, hzz⟩ : ∃ z, u0.heap.size = z := ⟨_, rfl⟩
    rw [hzz] at HZ hgz ⊢
    clear hzz
    go_simp
    refine onlyB 4 rfl (by kernel_rfl) (by rfl) ?_
    intro K hK
    go_simp
    refine (pvCopied_any o k.cont v8 ((HH.out.held.p.below HX.out).mono (HSZ.out ▸ HX.out.size)) HSH.out).mono ?_
    rintro e v9 ⟨c, rfl, hst, hb⟩
    refine hK _ _ (hb.mono (HSZ.out ▸ HX.out.size)) ?_
    clear hK K
    have HOW : Hid (Owns v9 s c k.cont) := hide (hst.now.weaken (HSZ.out ▸ HX.out.size))
    clear hst
    replace HX := hide (HX.out.trans (hb.mono (HSZ.out ▸ HX.out.size)))
    replace HZ := HZ.below hb HZ.lt
    clear hb
    go_simp
    refine onlyB 5 rfl (by kernel_rfl) (by rfl) ?_
    intro K hK
    go_simp
    refine (pvObject_any (o.reproc c) o.id _).mono ?_
    rintro e v10 ⟨rfl, hb⟩
    refine hK _ _ (hb.mono (HSZ.out ▸ HX.out.size)) ?_
    clear hK K
    replace HOW := hide (HOW.out.later hb)
    replace HX := hide (HX.out.trans (hb.mono (HSZ.out ▸ HX.out.size)))
    replace HZ := HZ.below hb HZ.lt
    clear hb
    go_simp
    refine onlyB 7 rfl (by kernel_rfl) (by rfl) ?_
    intro K hK
    refine pv_store rfl rfl (c := ((o.reproc c).obj o.id)) rfl HZ rfl ?_
    have hb := below_row (Below.refl s v10) hgz (oc ((o.reproc c).obj o.id))
    replace HOW := hide (HOW.out.row (cs' := oc ((o.reproc c).obj o.id)) HZ)
    replace HZ := HZ.row_same (oc ((o.reproc c).obj o.id))
    refine hK _ _ hb ?_
    clear hK K
    replace HX := hide (HX.out.trans hb)
    clear hb
    generalize v10.setRow z (oc ((o.reproc c).obj o.id)) = v11 at *
    refine doneB (by kernel_rfl) ?_
    go_simp
    have HBv := hide (HB.out.trans (HX.out.mono (HSZ.out ▸ HB.out.size)))
    have Pv := P.below HX.out hP
    have Zv := Z.below HX.out hZ
    have hcl : k.children.length = c.children.n := by have := HOW.out.children.1; rw [nv_length] at this; simp only [Ko.cont] at this; omega
    have hic : i < c.children.n := by rw [← hcl, HH.out.kidsLen]; exact hin
    obtain ⟨g, hA, hsg, hgv⟩ := own_addr HOW.out.children (by omega)
    have hch := HOW.out.children
    rw [hA] at hch
    have kz5 : v11.cell? ⟨z, 5, none⟩ = some (.slice (some ⟨g, 0, none⟩) c.children.n c.children.c) := by rw [← hA]; exact HZ.cell 5
    have hzg : z ≠ g := fun e => Obl.apart HZ hch (by decide) (by rw [e]; rfl)
    have HAC := hide (own_apart HOW.out.code hch (by decide))
    have HAS := hide (own_apart HOW.out.strs hch (by decide))
    have HAP := hide (own_apart HOW.out.pages hch (by decide))
    have HAT := hide (own_apart HOW.out.table hch (by decide))
    have HCH := hide hch
    clear O P Z HB HH hch hA hcl
    go_wp2_with fail
    refine (pvDelete_any (i := i) _ HCH.out hic).mono ?_
    rintro e w5 ⟨rfl, hown, hb, hk, hsz5⟩
    have HO5 := hide hown
    have HZ5 : Obl w5 z 42 (oc ((o.reproc c).obj o.id)) := (hk z hzg).trans HZ
    have HOC := hide (own_keep_ne HOW.out.code (fun h => HAC.out.elim (fun h0 => by rw [h0] at h; cases h) fun h1 => h1 h) hk)
    have HOS := hide (own_keep_ne HOW.out.strs (fun h => HAS.out.elim (fun h0 => by rw [h0] at h; cases h) fun h1 => h1 h) hk)
    have HOP := hide (own_keep_ne HOW.out.pages (fun h => HAP.out.elim (fun h0 => by rw [h0] at h; cases h) fun h1 => h1 h) hk)
    have HOT := hide (own_keep_ne HOW.out.table (fun h => HAT.out.elim (fun h0 => by rw [h0] at h; cases h) fun h1 => h1 h) hk)
    have hb5 : Below s v11 w5 := hb.mono hsg
    have hz5 := HZ5.cell 5
    have hf5 := HZ5.free 5
    have z5 : w5.cell? ⟨z, 5, none⟩ = some (.slice c.children.A c.children.n c.children.c) := hz5
    have X1 := Pv.below hb5 hP
    have X2 := Zv.below hb5 hZ
    have hWs : W.heap.size ≤ s := Nat.le_of_lt hO
    have HBw := hide (HBv.out.trans (hb5.mono hWs))
    have hsw : s ≤ w5.heap.size := Nat.le_trans (HSZ.out ▸ HX.out.size) hb5.size
    clear hown hb hk hsz5 hz5 kz5 HCH HAC HAS HAP HAT HOW HZ hb5 Pv Zv HBv HX HSZ
    go_upto_region 10 with (fail)
    have HZ6 := HZ5.put 5 (.slice (some ⟨g, 0, none⟩) (c.children.n - 1) c.children.c)
    rw [oc_children] at HZ6
    replace HBw := hide (HBw.out.setCell (p := ⟨z, 5, none⟩) (show W.heap.size ≤ z from by omega) (.slice (some ⟨g, 0, none⟩) (c.children.n - 1) c.children.c))
    replace HO5 := hide (own_put_ob (i := 5) HO5.out HZ5 (by decide) (.slice (some ⟨g, 0, none⟩) (c.children.n - 1) c.children.c))
    replace HOC := hide (own_put_ob (i := 5) HOC.out HZ5 (by decide) (.slice (some ⟨g, 0, none⟩) (c.children.n - 1) c.children.c))
    replace HOS := hide (own_put_ob (i := 5) HOS.out HZ5 (by decide) (.slice (some ⟨g, 0, none⟩) (c.children.n - 1) c.children.c))
    replace HOP := hide (own_put_ob (i := 5) HOP.out HZ5 (by decide) (.slice (some ⟨g, 0, none⟩) (c.children.n - 1) c.children.c))
    replace HOT := hide (own_put_ob (i := 5) HOT.out HZ5 (by decide) (.slice (some ⟨g, 0, none⟩) (c.children.n - 1) c.children.c))
    replace X1 := X1.put_other (b' := z) (by omega) 5 (.slice (some ⟨g, 0, none⟩) (c.children.n - 1) c.children.c)
    replace X2 := X2.put_other (b' := z) (by omega) 5 (.slice (some ⟨g, 0, none⟩) (c.children.n - 1) c.children.c)
    clear z5 hf5 HZ5
    generalize w5.setCell ⟨z, 5, none⟩ (.slice (some ⟨g, 0, none⟩) (c.children.n - 1) c.children.c) = w6 at *
    obtain ⟨y6, hy6⟩ : ∃ y, ({ o.reproc c with children := ⟨some ⟨g, 0, none⟩, c.children.n - 1, c.children.c⟩ } : Ob).obj o.id = y := ⟨_, rfl⟩
    replace HZ6 : Obl w6.drew z 42 (oc y6) := hy6 ▸ HZ6
    have HY6 := hide hy6
    clear hy6
    replace X1 : Obl w6.drew (W.heap.size + 1) 42 (oc p) := X1
    replace X2 : Obl w6.drew (W.heap.size + 2) 42 (oc Ob.zero) := X2
    replace HBw : Hid (Below W.heap.size W w6.drew) := hide (below_drewN HBw.out 1)
    replace HO5 : Hid (w6.drew.ownsRow s 24 1 (.slice (some ⟨g, 0, none⟩) (c.children.n - 1) c.children.c) (c.children.n - 1) (nv .u64 (k.children.eraseIdx i))) := HO5
    replace HOC : Hid (w6.drew.ownsRow s 72 4 (.slice c.code.A c.code.n c.code.c) c.code.n (iv k.cont.code)) := HOC
    replace HOS : Hid (w6.drew.ownsRow s 9 1 (.slice c.strs.A c.strs.n c.strs.c) c.strs.n (sv k.cont.strs)) := HOS
    replace HOP : Hid (w6.drew.ownsRow s 77 2 (.slice c.pages.A c.pages.n c.pages.c) c.pages.n (rv k.cont.pages)) := HOP
    replace HOT : Hid (w6.drew.ownsRow s 86 4 (.slice c.table.A c.table.n c.table.c) c.table.n (stv k.cont.table)) := HOT
    obtain ⟨b9, hb9⟩ : ∃ b, w6.drew.heap.size = b := ⟨_, rfl⟩
    refine region_D (by kernel_rfl) b9 (W.heap.size + 2) [] ?_
    have hzb := HZ6.lt
    have hxb := X1.lt
    rw [hb9] at hzb hxb
    clear hb9
    generalize w6.drew = u6 at *
    refine takeD 0 [0, 4, 5, 6] rfl (by kernel_rfl) (fun _ _ _ h => h) (by rfl) (by intro w' hg; exact exec_load_ob rfl rfl (show Obl w' z 42 (oc y6) from (hg.block z hzb (by omega)).trans HZ6)) ?_
    refine takeDX 1 rfl (by kernel_rfl) (fun _ _ _ h => h) (by rfl) (by intro w'; go_simp; try with_reducible rfl) ?_
    refine takeDX 2 rfl (by kernel_rfl) (fun _ _ _ h => h) (by rfl) (by intro w'; go_simp; try with_reducible rfl) ?_
    refine takeD 3 [3, 5, 6] rfl (by kernel_rfl) (fun _ _ _ h => h) (by rfl) (by intro w' hg; have kk : w'.cell? ⟨W.heap.size + 1, 22, none⟩ = some (.int .i64 p.status) := (show Obl w' (W.heap.size + 1) 42 (oc p) from (hg.block (W.heap.size + 1) hxb (by omega)).trans X1).cell 22; go_simp; try with_reducible rfl) ?_
    go_simp
    refine onlyD 4 rfl (by kernel_rfl) (by rfl) ?_
    intro K hK
    refine pv_store rfl rfl (c := y6) rfl X2 rfl ?_
    refine hK _ _ (fun _ => ⟨rfl, rfl, rfl, by simp [World.setRow], fun _ _ hk => setRow_other _ _ _ hk⟩) ?_
    clear hK K
    replace HO5 := hide (own_apart_obl HO5.out X2 (by decide) rfl (cs' := oc y6))
    replace HOC := hide (own_apart_obl HOC.out X2 (by decide) rfl (cs' := oc y6))
    replace HOS := hide (own_apart_obl HOS.out X2 (by decide) rfl (cs' := oc y6))
    replace HOP := hide (own_apart_obl HOP.out X2 (by decide) rfl (cs' := oc y6))
    replace HOT := hide (own_apart_obl HOT.out X2 (by decide) rfl (cs' := oc y6))
    replace HBw := hide (below_row HBw.out (Nat.le_add_right W.heap.size 2) (oc y6))
    replace X2 := X2.row_same (oc y6)
    generalize u6.setRow (W.heap.size + 2) (oc y6) = u7 at *
    refine takeDX 5 rfl (by kernel_rfl) (fun _ _ _ h => h) (by rfl) (by intro w'; go_simp; try with_reducible rfl) ?_
    refine takeDX 6 rfl (by kernel_rfl) (fun _ _ _ h => h) (by rfl) (by intro w'; go_simp; try with_reducible rfl) ?_
    refine doneD (by kernel_rfl) ?_
    go_simp
    go_wp2_with fail
    refine bodyPost_ret (pv_ret3 rfl _ (by rfl) X2) rfl ?_
    refine KoNumOwn.of HR.out (by rw [HSTL.out]; rfl) ?_ HBw.out ?_
    rotate_left
    · have ho := (⟨HO5.out, HOC.out, HOS.out, HOP.out, HOT.out⟩ : Owns u7 s ({ o.reproc c with children := ⟨some ⟨g, 0, none⟩, c.children.n - 1, c.children.c⟩ } : Ob) { k.cont with children := k.children.eraseIdx i }).weaken hWs
      rw [HER.out] at ho
      have HW : (k.without l.id).cont = { k.cont with children := k.children.filter fun c => c != p.id } := by unfold Ko.without; rw [HIDL.out]; rfl
      rw [← HY6.out, HW]
      exact ⟨ho.children, ho.code, ho.strs, ho.pages, ho.table⟩
    have hh : HoldsP u7 u7.heap.size ({ o.reproc c with children := ⟨some ⟨g, 0, none⟩, c.children.n - 1, c.children.c⟩ } : Ob) { k.cont with children := k.children.eraseIdx i } := ⟨Nums.of_own HO5.out, Inss.of_own HOC.out, Strs.of_own HOS.out, Refs.of_own HOP.out, Slots.of_own HOT.out⟩
    have hk := isKo_obj hh ⟨own_cap HO5.out, own_cap63 HO5.out⟩ ⟨own_cap HOP.out, own_cap63 HOP.out⟩ ⟨own_cap HOT.out, own_cap63 HOT.out⟩ o.id
    rw [kids_of HPR.out HEQ.out, HY6.out, HER.out] at hk
    have HW : k.without l.id = { k with children := k.children.filter fun c => c != p.id } := by unfold Ko.without; rw [HIDL.out]
    rw [HW]
    exact hk
end Go.Proofs.YtdglcpepgodcpaaDoor
