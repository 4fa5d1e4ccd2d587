/- Layer 16, package process: Fork: a contract over plain values. (Written by tools/mkpvfork.py.) -/
import Derived.Test.YtdglcpepgodcpaaDoorPvWord
namespace Go.Proofs.YtdglcpepgodcpaaDoor
open Go.RowKit

theorem kFork_err {k : Ko} {id x : Int} {ids : List Int} (h : kForkErr k id ids = x) (hx : x ≠ 0) : kFork k id ids = (Ko.zero, Ko.zero, x) := by unfold kFork; rw [if_neg (by rw [h]; exact hx), h]
theorem kFork_ok {k : Ko} {id : Int} {ids : List Int} (h : kForkErr k id ids = 0) : kFork k id ids = (k.parentOf id, k.childOf id ids, 0) := if_pos h
theorem kForkChk_proc {k : Ko} {id : Int} (h : kForkChk k id = 0) : k.Proc := by
  by_cases hp : k.Proc
  · exact hp
  · unfold kForkChk at h; rw [if_pos hp] at h; cases h
theorem parent_of {o c : Ob} {k : Ko} {s : Sl} {id : Int} (hp : k.Proc) (he : Ko.of o k.cont = k) : Ko.of (({ o.reproc c with children := s } : Ob).obj o.id) ({ k.cont with children := k.children ++ [id] } : Cont).only = k.parentOf id := by
  have h1 : Ko.of (({ o.reproc c with children := s } : Ob).obj o.id) ({ k.cont with children := k.children ++ [id] } : Cont).only = { (Ko.of o k.cont).onlyp with children := k.children ++ [id] } := rfl
  rw [h1, he, hp.only]
  rfl
theorem child_of {o c : Ob} {k : Ko} {P : Sl} {id x : Int} {ids : List Int} {L : List Sp.Ref} (he : Ko.of o k.cont = k) (hr : Sp.replace k.pages ids = (L, x)) : Ko.of ((o.childOf c o.id P).obj id) ({ Cont.none with code := k.code, strs := k.strs, pages := L, table := k.table } : Cont).only = k.childOf id ids := by
  have h1 : Ko.of ((o.childOf c o.id P).obj id) ({ Cont.none with code := k.code, strs := k.strs, pages := L, table := k.table } : Cont).only = { Ko.zero with id := id, kind := 1, state := (Ko.of o k.cont).state, parent := (Ko.of o k.cont).id, code := k.code, strs := k.strs, ppages := (Ko.of o k.cont).ppages, cpu := (Ko.of o k.cont).cpu, pages := L, table := k.table } := rfl
  rw [h1, he]
  unfold Ko.childOf
  rw [hr]
set_option maxRecDepth 100000 in
set_option maxHeartbeats 32000000 in
theorem pvFork_any {o : Ob} {k : Ko} (id : Int) (I : Option Addr) (q cq : Nat) (ids : List Int) (W : World) (h : IsKo W W.heap.size o k) (hf : k.Fit) (hI : Nums .u64 W W.heap.size I q ids) (hq : q ≤ cq ∧ cq ≤ 9223372036854775807) (hL : LaidO W) :
    Calls Tryd.prog 6 #[.agg (oc o), .int .u64 id, .slice I q cq] W (KoKoOwn (kFork k id ids) W) := by
  obtain ⟨w1, hw, O, Z1, Z2, hb, hs⟩ := start_ozz W o
  have HB := hide hb
  have HH : Hid (IsKo w1 w1.heap.size o k) := hide (h.later hb)
  have HL := hide (hL.below hb)
  have HN := hide ((hI.below hb).mono hb.size)
  have HF := hide hf
  have HSH := hide hf.lists
  have HID := hide h.id
  have HEQ := hide h.eq
  clear h hf hL hI hb hs
  go_enter Tryd.func6, Tryd.ntmps6
  go_wp2_with (first | (refine wpList_val (by rfl) (exec_load_ob rfl rfl O) ?_) | fail)
  refine (pvChkFork_any id _ HH.out HF.out HL.out).mono ?_
  rintro e w2 ⟨rfl, hb⟩
  replace O := O.below hb O.lt
  replace Z1 := Z1.below hb Z1.lt
  replace Z2 := Z2.below hb Z2.lt
  replace HB := hide (HB.out.trans (hb.mono HB.out.size))
  replace HH := hide (HH.out.later hb)
  replace HN := hide ((HN.out.below hb).mono hb.size)
  clear hb
  have k18 : w2.cell? ⟨W.heap.size, 18, none⟩ = some (.slice o.pages.A o.pages.n o.pages.c) := O.cell 18
  obtain ⟨e0, he0⟩ : ∃ x, kForkChk k id = x := ⟨_, rfl⟩
  rw [he0]
  by_cases h0 : e0 = 0
  case neg =>
    have HR : Hid (kFork k id ids = (Ko.zero, Ko.zero, e0)) := hide (kFork_err (by unfold kForkErr; rw [if_pos (by rw [he0]; exact h0), he0]) h0)
    have z0 : (e0 != 0) = true := by simpa using h0
    clear he0 h0
    go_wp2_with (first | (refine wpList_val (by rfl) (exec_build (t := 42) (vs := []) rfl (by rfl) built_zero) ?_) | (refine store_ob rfl _ _ rfl rfl (c := Ob.zero) rfl Z1 rfl ?_) | (refine store_ob rfl _ _ rfl rfl (c := Ob.zero) rfl (Z2.row_other (by omega) (oc Ob.zero)) rfl ?_) | fail)
    refine bodyPost_ret (pv_retoo rfl _ (by rfl) (by rfl) ((Z1.row_same (oc Ob.zero)).row_other (by omega) (oc Ob.zero)) ((Z2.row_other (by omega) (oc Ob.zero)).row_same (oc Ob.zero))) rfl ?_
    exact KoKoOwn.of HR.out rfl (IsKo.zero _ _) (IsKo.zero _ _) (below_row (below_row HB.out (by omega) _) (by omega) _) (Owns.zero _ _)
  subst h0
  have HPR := hide (kForkChk_proc he0)
  have HE0 := hide he0
  clear he0
  go_wp2_with fail
  refine (replace_any k.pages ids o.pages.A I o.pages.n o.pages.c q cq _ HH.out.held.pages HH.out.caps.pages HN.out hq).mono ?_
  rintro e w3 ⟨PA, pc, rfl, hr, hpc, hb⟩
  replace O := O.below hb O.lt
  replace Z1 := Z1.below hb Z1.lt
  replace Z2 := Z2.below hb Z2.lt
  replace HB := hide (HB.out.trans (hb.mono HB.out.size))
  replace HH := hide (HH.out.later hb)
  clear hb
  obtain ⟨r, hrr⟩ : ∃ r, Sp.replace k.pages ids = r := ⟨_, rfl⟩
  rw [hrr] at hr hpc ⊢
  have HRR := hide hrr
  obtain ⟨L, e1⟩ := r
  have HPG : Hid (Refs w3 w3.heap.size PA L.length L) := hide hr
  have HPC := hide hpc
  clear hr hpc hrr HN k18
  simp only
  by_cases h1 : e1 = 0
  case neg =>
    have HR : Hid (kFork k id ids = (Ko.zero, Ko.zero, e1)) := hide (kFork_err (by unfold kForkErr; rw [if_neg (by rw [HE0.out]; simp), HRR.out]) h1)
    have z1 : (e1 != 0) = true := by simpa using h1
    clear h1
    go_wp2_with (first | (refine wpList_val (by rfl) (exec_build (t := 42) (vs := []) rfl (by rfl) built_zero) ?_) | (refine store_ob rfl _ _ rfl rfl (c := Ob.zero) rfl Z1 rfl ?_) | (refine store_ob rfl _ _ rfl rfl (c := Ob.zero) rfl (Z2.row_other (by omega) (oc Ob.zero)) rfl ?_) | fail)
    refine bodyPost_ret (pv_retoo rfl _ (by rfl) (by rfl) ((Z1.row_same (oc Ob.zero)).row_other (by omega) (oc Ob.zero)) ((Z2.row_other (by omega) (oc Ob.zero)).row_same (oc Ob.zero))) rfl ?_
    exact KoKoOwn.of HR.out rfl (IsKo.zero _ _) (IsKo.zero _ _) (below_row (below_row HB.out (by omega) _) (by omega) _) (Owns.zero _ _)
  subst h1
  have HR : Hid (kFork k id ids = (k.parentOf id, k.childOf id ids, 0)) := hide (kFork_ok (by unfold kForkErr; rw [if_neg (by rw [HE0.out]; simp), HRR.out]))
  go_upto_region 7 with (fail)
  obtain ⟨s, hsz⟩ : ∃ s, w3.drew.heap.size = s := ⟨_, rfl⟩
  refine region_B (by kernel_rfl) s ?_
  replace O : Obl w3.drew W.heap.size 42 (oc o) := O
  replace Z1 : Obl w3.drew (W.heap.size + 1) 42 (oc Ob.zero) := Z1
  replace Z2 : Obl w3.drew (W.heap.size + 2) 42 (oc Ob.zero) := Z2
  replace HB : Hid (Below W.heap.size W w3.drew) := hide (below_drewN HB.out 1)
  replace HH : Hid (IsKo w3.drew w3.drew.heap.size o k) := hide (HH.out.later (below_drewN (Below.refl _ _) 1))
  replace HPG : Hid (Refs w3.drew w3.drew.heap.size PA L.length L) := HPG
  have HX : Hid (Below s w3.drew w3.drew) := hide (Below.refl _ _)
  have hO := O.lt
  have hZ1 := Z1.lt
  have hZ2 := Z2.lt
  rw [hsz] at HH HPG hO hZ1 hZ2
  have HSZ := hide hsz
  clear hsz HL HF HE0
  generalize w3.drew = u0 at *
  refine takeB 0 rfl (by kernel_rfl) (fun _ _ _ h => h) (by rfl) (by intro w' hg; go_simp; try with_reducible rfl) ?_
  refine takeB 1 rfl (by kernel_rfl) (fun _ _ _ h => h) (by rfl) (by intro w' hg; have kk : w'.cell? ⟨W.heap.size, 0, none⟩ = some (.int .u64 o.id) := (O.below hg hO).cell 0; go_simp; try with_reducible rfl) ?_
  refine takeB 2 rfl (by kernel_rfl) (fun _ _ _ h => h) (by rfl) (by intro w' hg; go_simp; try with_reducible rfl) ?_
  refine takeB 3 rfl (by kernel_rfl) (fun _ _ _ h => h) (by rfl) (by intro w' hg; exact exec_load_proc rfl rfl (O.below hg hO)) ?_
  refine twoB 4 6 rfl rfl (by kernel_rfl) (by rfl) (by rfl) ?_ ?_
  · intro K hK
    go_simp
    refine (pvCopied_any o k.cont u0 ((HH.out.held.p.below HX.out).mono (HSZ.out ▸ HX.out.size)) HSH.out).mono ?_
    rintro e v1 ⟨c, rfl, hst, hb⟩
    refine hK _ _ (hb.mono (HSZ.out ▸ HX.out.size)) ?_
    clear hK K
    have HOW : Hid (Owns v1 s c k.cont) := hide (hst.now.weaken (HSZ.out ▸ HX.out.size))
    clear hst
    replace HX := hide (HX.out.trans (hb.mono (HSZ.out ▸ HX.out.size)))
    clear hb
    go_simp
    refine twoB 5 6 rfl rfl (by kernel_rfl) (by rfl) (by rfl) ?_ ?_
    · intro K hK
      go_simp
      refine (pvObject_any (o.reproc c) o.id _).mono ?_
      rintro e v2 ⟨rfl, hb⟩
      refine hK _ _ (hb.mono (HSZ.out ▸ HX.out.size)) ?_
      clear hK K
      replace HOW := hide (HOW.out.later hb)
      replace HX := hide (HX.out.trans (hb.mono (HSZ.out ▸ HX.out.size)))
      clear hb
      go_simp
      refine onlyB 6 rfl (by kernel_rfl) (by rfl) ?_
      intro K hK
      go_simp
      generalize hnw : World.alloc v2 _ = v3
      have HZ : Obl v3 v2.heap.size 42 (oc Ob.zero) := hnw ▸ (Obl.make v2 42 (oc Ob.zero))
      have hb : Below v2.heap.size v2 v3 := hnw ▸ ((Below.refl _ _).alloc (Nat.le_refl _) _)
      have hgz : s ≤ v2.heap.size := (HSZ.out ▸ HX.out.size)
      refine hK _ _ (hb.mono (HSZ.out ▸ HX.out.size)) ?_
      clear hK K
      replace HOW := hide (HOW.out.later hb)
      replace HX := hide (HX.out.trans (hb.mono (HSZ.out ▸ HX.out.size)))
      clear hb hnw
      obtain ⟨z, hzz⟩ : ∃ z, v2.heap.size = z := ⟨_, rfl⟩
      rw [hzz] at HZ hgz ⊢
      clear hzz
      go_simp
      refine onlyB 7 rfl (by kernel_rfl) (by rfl) ?_
      intro K hK
      refine pv_store rfl rfl (c := ((o.reproc c).obj o.id)) rfl HZ rfl ?_
      have hb := below_row (Below.refl s v3) hgz (oc ((o.reproc c).obj o.id))
      replace HOW := hide (HOW.out.row (cs' := oc ((o.reproc c).obj o.id)) HZ)
      replace HZ := HZ.row_same (oc ((o.reproc c).obj o.id))
      refine hK _ _ hb ?_
      clear hK K
      replace HX := hide (HX.out.trans hb)
      clear hb
      generalize v3.setRow z (oc ((o.reproc c).obj o.id)) = v4 at *
      refine doneB (by kernel_rfl) ?_
      go_simp
      have HBv := hide (HB.out.trans (HX.out.mono (HSZ.out ▸ HB.out.size)))
      have Ov := O.below HX.out hO
      have Y1 := Z1.below HX.out hZ1
      have Y2 := Z2.below HX.out hZ2
      have HHv := hide (HH.out.held.p.below HX.out)
      have HPv := hide (HPG.out.below HX.out)
      have kz5 : v4.cell? ⟨z, 5, none⟩ = some (.slice c.children.A c.children.n c.children.c) := HZ.cell 5
      have hcl : k.children.length = c.children.n := by have := HOW.out.children.1; rw [nv_length] at this; simp only [Ko.cont] at this; omega
      have hcn : c.children.n ≤ 100000 := by have := HSH.out.1; simp only [Ko.cont] at this; omega
      clear O Z1 Z2 HB HH HPG
      go_wp2_with (first | (at_builtin; refine wpList_append_rd rfl _ _ _ rfl idTy (base := s) rfl (HOW.out.children.alloc (.cells #[.int .u64 id] 24)) rfl (Row.new _ _ _) (by simp [Value.oneCell']) (by unfold maxLen; omega) (by omega) (by simp; have := (HSZ.out ▸ HX.out.size); omega) ?_; intro A5 c5 w5 hown5 hg5 _; rw [show nv .u64 k.cont.children ++ [.int .u64 id] = nv .u64 (k.children ++ [id]) from (nv_append .u64 k.children [id]).symm] at hown5; have HZ5 := Obl.grown (HZ.alloc (.cells #[.int .u64 id] 24)) hg5 (Obl.apart (HZ.alloc (.cells #[.int .u64 id] 24)) (HOW.out.children.alloc (.cells #[.int .u64 id] 24)) (by decide)); have z5 := HZ5.cell 5; have f5 := HZ5.free 5; have hb5 := below_own ((Below.refl s v4).alloc (HSZ.out ▸ HX.out.size) (.cells #[.int .u64 id] 24)) (HOW.out.children.alloc (.cells #[.int .u64 id] 24)) hg5 (by simp; have := (HSZ.out ▸ HX.out.size); omega); have HB5 := hide hb5; have HO5 := hide hown5; have HOC := hide (own_grown (HOW.out.code.alloc (.cells #[.int .u64 id] 24)) (HOW.out.children.alloc (.cells #[.int .u64 id] 24)) hg5 (by decide)); have HOS := hide (own_grown (HOW.out.strs.alloc (.cells #[.int .u64 id] 24)) (HOW.out.children.alloc (.cells #[.int .u64 id] 24)) hg5 (by decide)); have HOP := hide (own_grown (HOW.out.pages.alloc (.cells #[.int .u64 id] 24)) (HOW.out.children.alloc (.cells #[.int .u64 id] 24)) hg5 (by decide)); have HOT := hide (own_grown (HOW.out.table.alloc (.cells #[.int .u64 id] 24)) (HOW.out.children.alloc (.cells #[.int .u64 id] 24)) hg5 (by decide)); clear hown5 hg5 hb5 kz5) | fail)
      have V : Value := .slice A5 (c.children.n + 1) c5
      have HZ6 := HZ5.put 5 (.slice A5 (c.children.n + 1) c5)
      rw [oc_children] at HZ6
      replace HB5 := hide (HB5.out.setCell (p := ⟨z, 5, none⟩) hgz (.slice A5 (c.children.n + 1) c5))
      replace HO5 := hide (own_put_ob (i := 5) HO5.out HZ5 (by decide) (.slice A5 (c.children.n + 1) c5))
      replace HOC := hide (own_put_ob (i := 5) HOC.out HZ5 (by decide) (.slice A5 (c.children.n + 1) c5))
      replace HOS := hide (own_put_ob (i := 5) HOS.out HZ5 (by decide) (.slice A5 (c.children.n + 1) c5))
      replace HOP := hide (own_put_ob (i := 5) HOP.out HZ5 (by decide) (.slice A5 (c.children.n + 1) c5))
      replace HOT := hide (own_put_ob (i := 5) HOT.out HZ5 (by decide) (.slice A5 (c.children.n + 1) c5))
      clear z5 f5 V HZ HOW HZ5
      generalize w5.setCell ⟨z, 5, none⟩ (.slice A5 (c.children.n + 1) c5) = w6 at *
      have Ow := Ov.below HB5.out hO
      have X1 := Y1.below HB5.out hZ1
      have X2 := Y2.below HB5.out hZ2
      have HHw := hide (HHv.out.below HB5.out)
      have HPw := hide (HPv.out.below HB5.out)
      have hWs : W.heap.size ≤ s := Nat.le_of_lt hO
      have HBw := hide (HBv.out.trans (HB5.out.mono hWs))
      have hsw : s ≤ w6.heap.size := Nat.le_trans (HSZ.out ▸ HX.out.size) HB5.out.size
      clear Ov Y1 Y2 HHv HPv HBv HB5 HX HSZ
      obtain ⟨y6, hy6⟩ : ∃ y, ({ o.reproc c with children := ⟨A5, c.children.n + 1, c5⟩ } : Ob).obj o.id = y := ⟨_, rfl⟩
      replace HZ6 : Obl w6.drew z 42 (oc y6) := hy6 ▸ HZ6
      have HY6 := hide hy6
      clear hy6
      replace Ow : Obl w6.drew W.heap.size 42 (oc o) := Ow
      replace X1 : Obl w6.drew (W.heap.size + 1) 42 (oc Ob.zero) := X1
      replace X2 : Obl w6.drew (W.heap.size + 2) 42 (oc Ob.zero) := X2
      replace HBw : Hid (Below W.heap.size W w6.drew) := hide (below_drewN HBw.out 1)
      replace HHw : Hid (HoldsP w6.drew s o k.cont) := hide (HHw.out.below (below_drewN (Below.refl _ _) 1))
      replace HPw : Hid (Refs w6.drew s PA L.length L) := HPw
      replace HO5 : Hid (w6.drew.ownsRow s 24 1 (.slice A5 (c.children.n + 1) c5) (c.children.n + 1) (nv .u64 (k.children ++ [id]))) := HO5
      replace HOC : Hid (w6.drew.ownsRow s 72 4 (.slice c.code.A c.code.n c.code.c) c.code.n (iv k.cont.code)) := HOC
      replace HOS : Hid (w6.drew.ownsRow s 9 1 (.slice c.strs.A c.strs.n c.strs.c) c.strs.n (sv k.cont.strs)) := HOS
      replace HOP : Hid (w6.drew.ownsRow s 77 2 (.slice c.pages.A c.pages.n c.pages.c) c.pages.n (rv k.cont.pages)) := HOP
      replace HOT : Hid (w6.drew.ownsRow s 86 4 (.slice c.table.A c.table.n c.table.c) c.table.n (stv k.cont.table)) := HOT
      replace hsw : s ≤ w6.drew.heap.size := hsw
      obtain ⟨b9, hb9⟩ : ∃ b, w6.drew.heap.size = b := ⟨_, rfl⟩
      refine region_C (by kernel_rfl) b9 [9, 10, 11] ?_
      have hzb := HZ6.lt
      rw [hb9] at hsw hzb
      have HB9 := hide hb9
      clear hb9
      generalize w6.drew = u6 at *
      refine takeC 0 [0, 9, 10, 11] rfl (by kernel_rfl) (fun _ _ _ h => h) (by rfl) (by intro w' hg; exact exec_load_ob rfl rfl (HZ6.below hg hzb)) ?_
      refine takeX 1 rfl (by kernel_rfl) (fun _ _ _ h => h) (by rfl) (by intro w'; go_simp; try with_reducible rfl) ?_
      refine takeX 2 rfl (by kernel_rfl) (fun _ _ _ h => h) (by rfl) (by intro w'; go_simp; try with_reducible rfl) ?_
      refine takeC 3 [3, 7, 8, 9, 10, 11] rfl (by kernel_rfl) (fun _ _ _ h => h) (by rfl) (by intro w' hg; exact exec_load_proc rfl rfl (Ow.below hg (by omega))) ?_
      refine takeX 4 rfl (by kernel_rfl) (fun _ _ _ h => h) (by rfl) (by intro w'; go_simp; try with_reducible rfl) ?_
      refine takeC 5 [5, 7, 8, 9, 10, 11] rfl (by kernel_rfl) (fun _ _ _ h => h) (by rfl) (by intro w' hg; have kk : w'.cell? ⟨W.heap.size, 0, none⟩ = some (.int .u64 o.id) := (Ow.below hg (by omega)).cell 0; go_simp; try with_reducible rfl) ?_
      refine takeX 6 rfl (by kernel_rfl) (fun _ _ _ h => h) (by rfl) (by intro w'; go_simp; try with_reducible rfl) ?_
      go_simp
      refine onlyC 7 rfl (by kernel_rfl) (by rfl) ?_
      intro K hK
      go_simp
      refine (pvForked_any o k.cont o.id PA L.length pc u6 (HHw.out.mono (by rw [HB9.out]; exact hsw)) HSH.out).mono ?_
      rintro e u7 ⟨c2, rfl, hst, hb⟩
      refine hK _ _ (fun _ => HB9.out ▸ hb) ?_
      clear hK K
      have HOF := hide (hst.now)
      have hb7 : Below s u6 u7 := hb.mono (by rw [HB9.out]; exact hsw)
      replace X1 := X1.below hb X1.lt
      replace X2 := X2.below hb X2.lt
      replace HBw := hide (HBw.out.trans (hb7.mono hWs))
      replace HPw := hide (HPw.out.below hb7)
      replace HO5 := hide (own_later HO5.out hb)
      replace HOC := hide (own_later HOC.out hb)
      replace HOS := hide (own_later HOS.out hb)
      replace HOP := hide (own_later HOP.out hb)
      replace HOT := hide (own_later HOT.out hb)
      have hs7 : b9 ≤ u7.heap.size := HB9.out ▸ hb.size
      clear hst hb hb7 HHw HZ6 Ow
      go_simp
      refine onlyC 8 rfl (by kernel_rfl) (by rfl) ?_
      intro K hK
      go_simp
      refine (pvObject_any (o.childOf c2 o.id ⟨PA, L.length, pc⟩) id _).mono ?_
      rintro e u8 ⟨rfl, hb⟩
      refine hK _ _ (fun _ => hb.mono hs7) ?_
      clear hK K
      have hb8 : Below s u7 u8 := hb.mono (by omega)
      replace X1 := X1.below hb X1.lt
      replace X2 := X2.below hb X2.lt
      replace HBw := hide (HBw.out.trans (hb8.mono hWs))
      replace HPw := hide (HPw.out.below hb8)
      replace HOF := hide (HOF.out.later hb)
      replace HO5 := hide (own_later HO5.out hb)
      replace HOC := hide (own_later HOC.out hb)
      replace HOS := hide (own_later HOS.out hb)
      replace HOP := hide (own_later HOP.out hb)
      replace HOT := hide (own_later HOT.out hb)
      have HS8 : s ≤ u8.heap.size := Nat.le_trans (by omega) hb.size
      clear hb hb8
      go_simp
      refine onlyC 9 rfl (by kernel_rfl) (by rfl) ?_
      intro K hK
      refine pv_store rfl rfl (c := y6) rfl X1 rfl ?_
      refine hK _ _ (fun h => absurd h (by decide)) ?_
      clear hK K
      replace HO5 := hide (own_apart_obl HO5.out X1 (by decide) rfl (cs' := oc y6))
      replace HOC := hide (own_apart_obl HOC.out X1 (by decide) rfl (cs' := oc y6))
      replace HOS := hide (own_apart_obl HOS.out X1 (by decide) rfl (cs' := oc y6))
      replace HOP := hide (own_apart_obl HOP.out X1 (by decide) rfl (cs' := oc y6))
      replace HOT := hide (own_apart_obl HOT.out X1 (by decide) rfl (cs' := oc y6))
      replace HOF := hide (HOF.out.row (cs' := oc y6) X1)
      replace HPw := hide (HPw.out.row_ob X1 (oc y6))
      replace HBw := hide (below_row HBw.out (Nat.le_succ W.heap.size) (oc y6))
      replace X2 := X2.row_other (g := W.heap.size + 1) (by omega) (oc y6)
      replace X1 := X1.row_same (oc y6)
      replace HS8 := Nat.le_trans HS8 (below_row (Below.refl 0 u8) (Nat.zero_le _) (oc y6) (g := W.heap.size + 1)).size
      generalize u8.setRow (W.heap.size + 1) (oc y6) = u9 at *
      refine onlyC 10 rfl (by kernel_rfl) (by rfl) ?_
      intro K hK
      refine pv_store rfl rfl (c := (o.childOf c2 o.id ⟨PA, L.length, pc⟩).obj id) rfl X2 rfl ?_
      refine hK _ _ (fun h => absurd h (by decide)) ?_
      clear hK K
      replace HO5 := hide (own_apart_obl HO5.out X2 (by decide) rfl (cs' := oc ((o.childOf c2 o.id ⟨PA, L.length, pc⟩).obj id)))
      replace HOC := hide (own_apart_obl HOC.out X2 (by decide) rfl (cs' := oc ((o.childOf c2 o.id ⟨PA, L.length, pc⟩).obj id)))
      replace HOS := hide (own_apart_obl HOS.out X2 (by decide) rfl (cs' := oc ((o.childOf c2 o.id ⟨PA, L.length, pc⟩).obj id)))
      replace HOP := hide (own_apart_obl HOP.out X2 (by decide) rfl (cs' := oc ((o.childOf c2 o.id ⟨PA, L.length, pc⟩).obj id)))
      replace HOT := hide (own_apart_obl HOT.out X2 (by decide) rfl (cs' := oc ((o.childOf c2 o.id ⟨PA, L.length, pc⟩).obj id)))
      replace HOF := hide (HOF.out.row (cs' := oc ((o.childOf c2 o.id ⟨PA, L.length, pc⟩).obj id)) X2)
      replace HPw := hide (HPw.out.row_ob X2 (oc ((o.childOf c2 o.id ⟨PA, L.length, pc⟩).obj id)))
      replace HBw := hide (below_row HBw.out (Nat.le_add_right W.heap.size 2) (oc ((o.childOf c2 o.id ⟨PA, L.length, pc⟩).obj id)))
      replace X1 := X1.row_other (g := W.heap.size + 2) (by omega) (oc ((o.childOf c2 o.id ⟨PA, L.length, pc⟩).obj id))
      replace X2 := X2.row_same (oc ((o.childOf c2 o.id ⟨PA, L.length, pc⟩).obj id))
      replace HS8 := Nat.le_trans HS8 (below_row (Below.refl 0 u9) (Nat.zero_le _) (oc ((o.childOf c2 o.id ⟨PA, L.length, pc⟩).obj id)) (g := W.heap.size + 2)).size
      generalize u9.setRow (W.heap.size + 2) (oc ((o.childOf c2 o.id ⟨PA, L.length, pc⟩).obj id)) = u10 at *
      refine takeX 11 rfl (by kernel_rfl) (fun _ _ _ h => h) (by rfl) (by intro w'; go_simp; try with_reducible rfl) ?_
      refine doneC (by kernel_rfl) ?_
      go_simp
      go_wp2_with fail
      refine bodyPost_ret (pv_retoo rfl _ (by rfl) (by rfl) X1 X2) rfl ?_
      refine KoKoOwn.of HR.out rfl ?_ ?_ HBw.out ?_
      · have hh : HoldsP u10 u10.heap.size { o.reproc c with children := ⟨A5, c.children.n + 1, c5⟩ } { k.cont with children := k.children ++ [id] } := ⟨Nums.of_own HO5.out, Inss.of_own HOC.out, Strs.of_own HOS.out, Refs.of_own HOP.out, Slots.of_own HOT.out⟩
        have hk := isKo_obj hh ⟨own_cap HO5.out, own_cap63 HO5.out⟩ ⟨own_cap HOP.out, own_cap63 HOP.out⟩ ⟨own_cap HOT.out, own_cap63 HOT.out⟩ o.id
        rw [parent_of HPR.out HEQ.out, HY6.out] at hk
        exact hk
      · have hh : HoldsP u10 u10.heap.size (o.childOf c2 o.id ⟨PA, L.length, pc⟩) { Cont.none with code := k.code, strs := k.strs, pages := L, table := k.table } := ⟨Nums.nil, Inss.of_own HOF.out.code, Strs.of_own HOF.out.strs, HPw.out.mono HS8, Slots.of_own HOF.out.table⟩
        have hk := isKo_obj hh pv_nokid HPC.out ⟨own_cap HOF.out.table, own_cap63 HOF.out.table⟩ id
        rwa [child_of HEQ.out HRR.out] at hk
      · have ho := (⟨HO5.out, HOC.out, HOS.out, HOP.out, HOT.out⟩ : Owns u10 s { o.reproc c with children := ⟨A5, c.children.n + 1, c5⟩ } (k.parentOf id).cont).weaken hWs
        rw [← HY6.out]
        exact ⟨ho.children, ho.code, ho.strs, ho.pages, ho.table⟩
    · intro K hK
      go_simp
      generalize hnw : World.alloc v1 _ = v5
      have HZ : Obl v5 v1.heap.size 42 (oc Ob.zero) := hnw ▸ (Obl.make v1 42 (oc Ob.zero))
      have hb : Below v1.heap.size v1 v5 := hnw ▸ ((Below.refl _ _).alloc (Nat.le_refl _) _)
      have hgz : s ≤ v1.heap.size := (HSZ.out ▸ HX.out.size)
      refine hK _ _ (hb.mono (HSZ.out ▸ HX.out.size)) ?_
      clear hK K
      replace HOW := hide (HOW.out.later hb)
      replace HX := hide (HX.out.trans (hb.mono (HSZ.out ▸ HX.out.size)))
      clear hb hnw
      obtain ⟨z, hzz⟩ : ∃ z, v1.heap.size = z := ⟨_, rfl⟩
      rw [hzz] at HZ hgz ⊢
      clear hzz
      go_simp
      refine onlyB 5 rfl (by kernel_rfl) (by rfl) ?_
      intro K hK
      go_simp
      refine (pvObject_any (o.reproc c) o.id _).mono ?_
      rintro e v6 ⟨rfl, hb⟩
      refine hK _ _ (hb.mono (HSZ.out ▸ HX.out.size)) ?_
      clear hK K
      replace HOW := hide (HOW.out.later hb)
      replace HX := hide (HX.out.trans (hb.mono (HSZ.out ▸ HX.out.size)))
      replace HZ := HZ.below hb HZ.lt
      clear hb
      go_simp
      refine onlyB 7 rfl (by kernel_rfl) (by rfl) ?_
      intro K hK
      refine pv_store rfl rfl (c := ((o.reproc c).obj o.id)) rfl HZ rfl ?_
      have hb := below_row (Below.refl s v6) hgz (oc ((o.reproc c).obj o.id))
      replace HOW := hide (HOW.out.row (cs' := oc ((o.reproc c).obj o.id)) HZ)
      replace HZ := HZ.row_same (oc ((o.reproc c).obj o.id))
      refine hK _ _ hb ?_
      clear hK K
      replace HX := hide (HX.out.trans hb)
      clear hb
      generalize v6.setRow z (oc ((o.reproc c).obj o.id)) = v7 at *
      refine doneB (by kernel_rfl) ?_
      go_simp
      have HBv := hide (HB.out.trans (HX.out.mono (HSZ.out ▸ HB.out.size)))
      have Ov := O.below HX.out hO
      have Y1 := Z1.below HX.out hZ1
      have Y2 := Z2.below HX.out hZ2
      have HHv := hide (HH.out.held.p.below HX.out)
      have HPv := hide (HPG.out.below HX.out)
      have kz5 : v7.cell? ⟨z, 5, none⟩ = some (.slice c.children.A c.children.n c.children.c) := HZ.cell 5
      have hcl : k.children.length = c.children.n := by have := HOW.out.children.1; rw [nv_length] at this; simp only [Ko.cont] at this; omega
      have hcn : c.children.n ≤ 100000 := by have := HSH.out.1; simp only [Ko.cont] at this; omega
      clear O Z1 Z2 HB HH HPG
      go_wp2_with (first | (at_builtin; refine wpList_append_rd rfl _ _ _ rfl idTy (base := s) rfl (HOW.out.children.alloc (.cells #[.int .u64 id] 24)) rfl (Row.new _ _ _) (by simp [Value.oneCell']) (by unfold maxLen; omega) (by omega) (by simp; have := (HSZ.out ▸ HX.out.size); omega) ?_; intro A5 c5 w5 hown5 hg5 _; rw [show nv .u64 k.cont.children ++ [.int .u64 id] = nv .u64 (k.children ++ [id]) from (nv_append .u64 k.children [id]).symm] at hown5; have HZ5 := Obl.grown (HZ.alloc (.cells #[.int .u64 id] 24)) hg5 (Obl.apart (HZ.alloc (.cells #[.int .u64 id] 24)) (HOW.out.children.alloc (.cells #[.int .u64 id] 24)) (by decide)); have z5 := HZ5.cell 5; have f5 := HZ5.free 5; have hb5 := below_own ((Below.refl s v7).alloc (HSZ.out ▸ HX.out.size) (.cells #[.int .u64 id] 24)) (HOW.out.children.alloc (.cells #[.int .u64 id] 24)) hg5 (by simp; have := (HSZ.out ▸ HX.out.size); omega); have HB5 := hide hb5; have HO5 := hide hown5; have HOC := hide (own_grown (HOW.out.code.alloc (.cells #[.int .u64 id] 24)) (HOW.out.children.alloc (.cells #[.int .u64 id] 24)) hg5 (by decide)); have HOS := hide (own_grown (HOW.out.strs.alloc (.cells #[.int .u64 id] 24)) (HOW.out.children.alloc (.cells #[.int .u64 id] 24)) hg5 (by decide)); have HOP := hide (own_grown (HOW.out.pages.alloc (.cells #[.int .u64 id] 24)) (HOW.out.children.alloc (.cells #[.int .u64 id] 24)) hg5 (by decide)); have HOT := hide (own_grown (HOW.out.table.alloc (.cells #[.int .u64 id] 24)) (HOW.out.children.alloc (.cells #[.int .u64 id] 24)) hg5 (by decide)); clear hown5 hg5 hb5 kz5) | fail)
      have V : Value := .slice A5 (c.children.n + 1) c5
      have HZ6 := HZ5.put 5 (.slice A5 (c.children.n + 1) c5)
      rw [oc_children] at HZ6
      replace HB5 := hide (HB5.out.setCell (p := ⟨z, 5, none⟩) hgz (.slice A5 (c.children.n + 1) c5))
      replace HO5 := hide (own_put_ob (i := 5) HO5.out HZ5 (by decide) (.slice A5 (c.children.n + 1) c5))
      replace HOC := hide (own_put_ob (i := 5) HOC.out HZ5 (by decide) (.slice A5 (c.children.n + 1) c5))
      replace HOS := hide (own_put_ob (i := 5) HOS.out HZ5 (by decide) (.slice A5 (c.children.n + 1) c5))
      replace HOP := hide (own_put_ob (i := 5) HOP.out HZ5 (by decide) (.slice A5 (c.children.n + 1) c5))
      replace HOT := hide (own_put_ob (i := 5) HOT.out HZ5 (by decide) (.slice A5 (c.children.n + 1) c5))
      clear z5 f5 V HZ HOW HZ5
      generalize w5.setCell ⟨z, 5, none⟩ (.slice A5 (c.children.n + 1) c5) = w6 at *
      have Ow := Ov.below HB5.out hO
      have X1 := Y1.below HB5.out hZ1
      have X2 := Y2.below HB5.out hZ2
      have HHw := hide (HHv.out.below HB5.out)
      have HPw := hide (HPv.out.below HB5.out)
      have hWs : W.heap.size ≤ s := Nat.le_of_lt hO
      have HBw := hide (HBv.out.trans (HB5.out.mono hWs))
      have hsw : s ≤ w6.heap.size := Nat.le_trans (HSZ.out ▸ HX.out.size) HB5.out.size
      clear Ov Y1 Y2 HHv HPv HBv HB5 HX HSZ
      obtain ⟨y6, hy6⟩ : ∃ y, ({ o.reproc c with children := ⟨A5, c.children.n + 1, c5⟩ } : Ob).obj o.id = y := ⟨_, rfl⟩
      replace HZ6 : Obl w6.drew z 42 (oc y6) := hy6 ▸ HZ6
      have HY6 := hide hy6
      clear hy6
      replace Ow : Obl w6.drew W.heap.size 42 (oc o) := Ow
      replace X1 : Obl w6.drew (W.heap.size + 1) 42 (oc Ob.zero) := X1
      replace X2 : Obl w6.drew (W.heap.size + 2) 42 (oc Ob.zero) := X2
      replace HBw : Hid (Below W.heap.size W w6.drew) := hide (below_drewN HBw.out 1)
      replace HHw : Hid (HoldsP w6.drew s o k.cont) := hide (HHw.out.below (below_drewN (Below.refl _ _) 1))
      replace HPw : Hid (Refs w6.drew s PA L.length L) := HPw
      replace HO5 : Hid (w6.drew.ownsRow s 24 1 (.slice A5 (c.children.n + 1) c5) (c.children.n + 1) (nv .u64 (k.children ++ [id]))) := HO5
      replace HOC : Hid (w6.drew.ownsRow s 72 4 (.slice c.code.A c.code.n c.code.c) c.code.n (iv k.cont.code)) := HOC
      replace HOS : Hid (w6.drew.ownsRow s 9 1 (.slice c.strs.A c.strs.n c.strs.c) c.strs.n (sv k.cont.strs)) := HOS
      replace HOP : Hid (w6.drew.ownsRow s 77 2 (.slice c.pages.A c.pages.n c.pages.c) c.pages.n (rv k.cont.pages)) := HOP
      replace HOT : Hid (w6.drew.ownsRow s 86 4 (.slice c.table.A c.table.n c.table.c) c.table.n (stv k.cont.table)) := HOT
      replace hsw : s ≤ w6.drew.heap.size := hsw
      obtain ⟨b9, hb9⟩ : ∃ b, w6.drew.heap.size = b := ⟨_, rfl⟩
      refine region_C (by kernel_rfl) b9 [9, 10, 11] ?_
      have hzb := HZ6.lt
      rw [hb9] at hsw hzb
      have HB9 := hide hb9
      clear hb9
      generalize w6.drew = u6 at *
      refine takeC 0 [0, 9, 10, 11] rfl (by kernel_rfl) (fun _ _ _ h => h) (by rfl) (by intro w' hg; exact exec_load_ob rfl rfl (HZ6.below hg hzb)) ?_
      refine takeX 1 rfl (by kernel_rfl) (fun _ _ _ h => h) (by rfl) (by intro w'; go_simp; try with_reducible rfl) ?_
      refine takeX 2 rfl (by kernel_rfl) (fun _ _ _ h => h) (by rfl) (by intro w'; go_simp; try with_reducible rfl) ?_
      refine takeC 3 [3, 7, 8, 9, 10, 11] rfl (by kernel_rfl) (fun _ _ _ h => h) (by rfl) (by intro w' hg; exact exec_load_proc rfl rfl (Ow.below hg (by omega))) ?_
      refine takeX 4 rfl (by kernel_rfl) (fun _ _ _ h => h) (by rfl) (by intro w'; go_simp; try with_reducible rfl) ?_
      refine takeC 5 [5, 7, 8, 9, 10, 11] rfl (by kernel_rfl) (fun _ _ _ h => h) (by rfl) (by intro w' hg; have kk : w'.cell? ⟨W.heap.size, 0, none⟩ = some (.int .u64 o.id) := (Ow.below hg (by omega)).cell 0; go_simp; try with_reducible rfl) ?_
      refine takeX 6 rfl (by kernel_rfl) (fun _ _ _ h => h) (by rfl) (by intro w'; go_simp; try with_reducible rfl) ?_
      go_simp
      refine onlyC 7 rfl (by kernel_rfl) (by rfl) ?_
      intro K hK
      go_simp
      refine (pvForked_any o k.cont o.id PA L.length pc u6 (HHw.out.mono (by rw [HB9.out]; exact hsw)) HSH.out).mono ?_
      rintro e u7 ⟨c2, rfl, hst, hb⟩
      refine hK _ _ (fun _ => HB9.out ▸ hb) ?_
      clear hK K
      have HOF := hide (hst.now)
      have hb7 : Below s u6 u7 := hb.mono (by rw [HB9.out]; exact hsw)
      replace X1 := X1.below hb X1.lt
      replace X2 := X2.below hb X2.lt
      replace HBw := hide (HBw.out.trans (hb7.mono hWs))
      replace HPw := hide (HPw.out.below hb7)
      replace HO5 := hide (own_later HO5.out hb)
      replace HOC := hide (own_later HOC.out hb)
      replace HOS := hide (own_later HOS.out hb)
      replace HOP := hide (own_later HOP.out hb)
      replace HOT := hide (own_later HOT.out hb)
      have hs7 : b9 ≤ u7.heap.size := HB9.out ▸ hb.size
      clear hst hb hb7 HHw HZ6 Ow
      go_simp
      refine onlyC 8 rfl (by kernel_rfl) (by rfl) ?_
      intro K hK
      go_simp
      refine (pvObject_any (o.childOf c2 o.id ⟨PA, L.length, pc⟩) id _).mono ?_
      rintro e u8 ⟨rfl, hb⟩
      refine hK _ _ (fun _ => hb.mono hs7) ?_
      clear hK K
      have hb8 : Below s u7 u8 := hb.mono (by omega)
      replace X1 := X1.below hb X1.lt
      replace X2 := X2.below hb X2.lt
      replace HBw := hide (HBw.out.trans (hb8.mono hWs))
      replace HPw := hide (HPw.out.below hb8)
      replace HOF := hide (HOF.out.later hb)
      replace HO5 := hide (own_later HO5.out hb)
      replace HOC := hide (own_later HOC.out hb)
      replace HOS := hide (own_later HOS.out hb)
      replace HOP := hide (own_later HOP.out hb)
      replace HOT := hide (own_later HOT.out hb)
      have HS8 : s ≤ u8.heap.size := Nat.le_trans (by omega) hb.size
      clear hb hb8
      go_simp
      refine onlyC 9 rfl (by kernel_rfl) (by rfl) ?_
      intro K hK
      refine pv_store rfl rfl (c := y6) rfl X1 rfl ?_
      refine hK _ _ (fun h => absurd h (by decide)) ?_
      clear hK K
      replace HO5 := hide (own_apart_obl HO5.out X1 (by decide) rfl (cs' := oc y6))
      replace HOC := hide (own_apart_obl HOC.out X1 (by decide) rfl (cs' := oc y6))
      replace HOS := hide (own_apart_obl HOS.out X1 (by decide) rfl (cs' := oc y6))
      replace HOP := hide (own_apart_obl HOP.out X1 (by decide) rfl (cs' := oc y6))
      replace HOT := hide (own_apart_obl HOT.out X1 (by decide) rfl (cs' := oc y6))
      replace HOF := hide (HOF.out.row (cs' := oc y6) X1)
      replace HPw := hide (HPw.out.row_ob X1 (oc y6))
      replace HBw := hide (below_row HBw.out (Nat.le_succ W.heap.size) (oc y6))
      replace X2 := X2.row_other (g := W.heap.size + 1) (by omega) (oc y6)
      replace X1 := X1.row_same (oc y6)
      replace HS8 := Nat.le_trans HS8 (below_row (Below.refl 0 u8) (Nat.zero_le _) (oc y6) (g := W.heap.size + 1)).size
      generalize u8.setRow (W.heap.size + 1) (oc y6) = u9 at *
      refine onlyC 10 rfl (by kernel_rfl) (by rfl) ?_
      intro K hK
      refine pv_store rfl rfl (c := (o.childOf c2 o.id ⟨PA, L.length, pc⟩).obj id) rfl X2 rfl ?_
      refine hK _ _ (fun h => absurd h (by decide)) ?_
      clear hK K
      replace HO5 := hide (own_apart_obl HO5.out X2 (by decide) rfl (cs' := oc ((o.childOf c2 o.id ⟨PA, L.length, pc⟩).obj id)))
      replace HOC := hide (own_apart_obl HOC.out X2 (by decide) rfl (cs' := oc ((o.childOf c2 o.id ⟨PA, L.length, pc⟩).obj id)))
      replace HOS := hide (own_apart_obl HOS.out X2 (by decide) rfl (cs' := oc ((o.childOf c2 o.id ⟨PA, L.length, pc⟩).obj id)))
      replace HOP := hide (own_apart_obl HOP.out X2 (by decide) rfl (cs' := oc ((o.childOf c2 o.id ⟨PA, L.length, pc⟩).obj id)))
      replace HOT := hide (own_apart_obl HOT.out X2 (by decide) rfl (cs' := oc ((o.childOf c2 o.id ⟨PA, L.length, pc⟩).obj id)))
      replace HOF := hide (HOF.out.row (cs' := oc ((o.childOf c2 o.id ⟨PA, L.length, pc⟩).obj id)) X2)
      replace HPw := hide (HPw.out.row_ob X2 (oc ((o.childOf c2 o.id ⟨PA, L.length, pc⟩).obj id)))
      replace HBw := hide (below_row HBw.out (Nat.le_add_right W.heap.size 2) (oc ((o.childOf c2 o.id ⟨PA, L.length, pc⟩).obj id)))
      replace X1 := X1.row_other (g := W.heap.size + 2) (by omega) (oc ((o.childOf c2 o.id ⟨PA, L.length, pc⟩).obj id))
      replace X2 := X2.row_same (oc ((o.childOf c2 o.id ⟨PA, L.length, pc⟩).obj id))
      replace HS8 := Nat.le_trans HS8 (below_row (Below.refl 0 u9) (Nat.zero_le _) (oc ((o.childOf c2 o.id ⟨PA, L.length, pc⟩).obj id)) (g := W.heap.size + 2)).size
      generalize u9.setRow (W.heap.size + 2) (oc ((o.childOf c2 o.id ⟨PA, L.length, pc⟩).obj id)) = u10 at *
      refine takeX 11 rfl (by kernel_rfl) (fun _ _ _ h => h) (by rfl) (by intro w'; go_simp; try with_reducible rfl) ?_
      refine doneC (by kernel_rfl) ?_
      go_simp
      go_wp2_with fail
      refine bodyPost_ret (pv_retoo rfl _ (by rfl) (by rfl) X1 X2) rfl ?_
      refine KoKoOwn.of HR.out rfl ?_ ?_ HBw.out ?_
      · have hh : HoldsP u10 u10.heap.size { o.reproc c with children := ⟨A5, c.children.n + 1, c5⟩ } { k.cont with children := k.children ++ [id] } := ⟨Nums.of_own HO5.out, Inss.of_own HOC.out, Strs.of_own HOS.out, Refs.of_own HOP.out, Slots.of_own HOT.out⟩
        have hk := isKo_obj hh ⟨own_cap HO5.out, own_cap63 HO5.out⟩ ⟨own_cap HOP.out, own_cap63 HOP.out⟩ ⟨own_cap HOT.out, own_cap63 HOT.out⟩ o.id
        rw [parent_of HPR.out HEQ.out, HY6.out] at hk
        exact hk
      · have hh : HoldsP u10 u10.heap.size (o.childOf c2 o.id ⟨PA, L.length, pc⟩) { Cont.none with code := k.code, strs := k.strs, pages := L, table := k.table } := ⟨Nums.nil, Inss.of_own HOF.out.code, Strs.of_own HOF.out.strs, HPw.out.mono HS8, Slots.of_own HOF.out.table⟩
        have hk := isKo_obj hh pv_nokid HPC.out ⟨own_cap HOF.out.table, own_cap63 HOF.out.table⟩ id
        rwa [child_of HEQ.out HRR.out] at hk
      · have ho := (⟨HO5.out, HOC.out, HOS.out, HOP.out, HOT.out⟩ : Owns u10 s { o.reproc c with children := ⟨A5, c.children.n + 1, c5⟩ } (k.parentOf id).cont).weaken hWs
        rw [← HY6.out]
        exact ⟨ho.children, ho.code, ho.strs, ho.pages, ho.table⟩
  · intro K hK
    go_simp
    generalize hnw : World.alloc u0 _ = v8
    have HZ : Obl v8 u0.heap.size 42 (oc Ob.zero) := hnw ▸ (Obl.make u0 42 (oc Ob.zero))
    have hb : Below u0.heap.size u0 v8 := hnw ▸ ((Below.refl _ _).alloc (Nat.le_refl _) _)
    have hgz : s ≤ u0.heap.size := (HSZ.out ▸ HX.out.size)
    refine hK _ _ (hb.mono (HSZ.out ▸ HX.out.size)) ?_
    clear hK K
    replace HX := hide (HX.out.trans (hb.mono (HSZ.out ▸ HX.out.size)))
    clear hb hnw
    obtain ⟨z, hzz⟩ : ∃ z, u0.heap.size = z := ⟨_, rfl⟩
    rw [hzz] at HZ hgz ⊢
    clear hzz
    go_simp
    refine onlyB 4 rfl (by kernel_rfl) (by rfl) ?_
    intro K hK
    go_simp
    refine (pvCopied_any o k.cont v8 ((HH.out.held.p.below HX.out).mono (HSZ.out ▸ HX.out.size)) HSH.out).mono ?_
    rintro e v9 ⟨c, rfl, hst, hb⟩
    refine hK _ _ (hb.mono (HSZ.out ▸ HX.out.size)) ?_
    clear hK K
    have HOW : Hid (Owns v9 s c k.cont) := hide (hst.now.weaken (HSZ.out ▸ HX.out.size))
    clear hst
    replace HX := hide (HX.out.trans (hb.mono (HSZ.out ▸ HX.out.size)))
    replace HZ := HZ.below hb HZ.lt
    clear hb
    go_simp
    refine onlyB 5 rfl (by kernel_rfl) (by rfl) ?_
    intro K hK
    go_simp
    refine (pvObject_any (o.reproc c) o.id _).mono ?_
    rintro e v10 ⟨rfl, hb⟩
    refine hK _ _ (hb.mono (HSZ.out ▸ HX.out.size)) ?_
    clear hK K
    replace HOW := hide (HOW.out.later hb)
    replace HX := hide (HX.out.trans (hb.mono (HSZ.out ▸ HX.out.size)))
    replace HZ := HZ.below hb HZ.lt
    clear hb
    go_simp
    refine onlyB 7 rfl (by kernel_rfl) (by rfl) ?_
    intro K hK
    refine pv_store rfl rfl (c := ((o.reproc c).obj o.id)) rfl HZ rfl ?_
    have hb := below_row (Below.refl s v10) hgz (oc ((o.reproc c).obj o.id))
    replace HOW := hide (HOW.out.row (cs' := oc ((o.reproc c).obj o.id)) HZ)
    replace HZ := HZ.row_same (oc ((o.reproc c).obj o.id))
    refine hK _ _ hb ?_
    clear hK K
    replace HX := hide (HX.out.trans hb)
    clear hb
    generalize v10.setRow z (oc ((o.reproc c).obj o.id)) = v11 at *
    refine doneB (by kernel_rfl) ?_
    go_simp
    have HBv := hide (HB.out.trans (HX.out.mono (HSZ.out ▸ HB.out.size)))
    have Ov := O.below HX.out hO
    have Y1 := Z1.below HX.out hZ1
    have Y2 := Z2.below HX.out hZ2
    have HHv := hide (HH.out.held.p.below HX.out)
    have HPv := hide (HPG.out.below HX.out)
    have kz5 : v11.cell? ⟨z, 5, none⟩ = some (.slice c.children.A c.children.n c.children.c) := HZ.cell 5
    have hcl : k.children.length = c.children.n := by have := HOW.out.children.1; rw [nv_length] at this; simp only [Ko.cont] at this; omega
    have hcn : c.children.n ≤ 100000 := by have := HSH.out.1; simp only [Ko.cont] at this; omega
    clear O Z1 Z2 HB HH HPG
    go_wp2_with (first | (at_builtin; refine wpList_append_rd rfl _ _ _ rfl idTy (base := s) rfl (HOW.out.children.alloc (.cells #[.int .u64 id] 24)) rfl (Row.new _ _ _) (by simp [Value.oneCell']) (by unfold maxLen; omega) (by omega) (by simp; have := (HSZ.out ▸ HX.out.size); omega) ?_; intro A5 c5 w5 hown5 hg5 _; rw [show nv .u64 k.cont.children ++ [.int .u64 id] = nv .u64 (k.children ++ [id]) from (nv_append .u64 k.children [id]).symm] at hown5; have HZ5 := Obl.grown (HZ.alloc (.cells #[.int .u64 id] 24)) hg5 (Obl.apart (HZ.alloc (.cells #[.int .u64 id] 24)) (HOW.out.children.alloc (.cells #[.int .u64 id] 24)) (by decide)); have z5 := HZ5.cell 5; have f5 := HZ5.free 5; have hb5 := below_own ((Below.refl s v11).alloc (HSZ.out ▸ HX.out.size) (.cells #[.int .u64 id] 24)) (HOW.out.children.alloc (.cells #[.int .u64 id] 24)) hg5 (by simp; have := (HSZ.out ▸ HX.out.size); omega); have HB5 := hide hb5; have HO5 := hide hown5; have HOC := hide (own_grown (HOW.out.code.alloc (.cells #[.int .u64 id] 24)) (HOW.out.children.alloc (.cells #[.int .u64 id] 24)) hg5 (by decide)); have HOS := hide (own_grown (HOW.out.strs.alloc (.cells #[.int .u64 id] 24)) (HOW.out.children.alloc (.cells #[.int .u64 id] 24)) hg5 (by decide)); have HOP := hide (own_grown (HOW.out.pages.alloc (.cells #[.int .u64 id] 24)) (HOW.out.children.alloc (.cells #[.int .u64 id] 24)) hg5 (by decide)); have HOT := hide (own_grown (HOW.out.table.alloc (.cells #[.int .u64 id] 24)) (HOW.out.children.alloc (.cells #[.int .u64 id] 24)) hg5 (by decide)); clear hown5 hg5 hb5 kz5) | fail)
    have V : Value := .slice A5 (c.children.n + 1) c5
    have HZ6 := HZ5.put 5 (.slice A5 (c.children.n + 1) c5)
    rw [oc_children] at HZ6
    replace HB5 := hide (HB5.out.setCell (p := ⟨z, 5, none⟩) hgz (.slice A5 (c.children.n + 1) c5))
    replace HO5 := hide (own_put_ob (i := 5) HO5.out HZ5 (by decide) (.slice A5 (c.children.n + 1) c5))
    replace HOC := hide (own_put_ob (i := 5) HOC.out HZ5 (by decide) (.slice A5 (c.children.n + 1) c5))
    replace HOS := hide (own_put_ob (i := 5) HOS.out HZ5 (by decide) (.slice A5 (c.children.n + 1) c5))
    replace HOP := hide (own_put_ob (i := 5) HOP.out HZ5 (by decide) (.slice A5 (c.children.n + 1) c5))
    replace HOT := hide (own_put_ob (i := 5) HOT.out HZ5 (by decide) (.slice A5 (c.children.n + 1) c5))
    clear z5 f5 V HZ HOW HZ5
    generalize w5.setCell ⟨z, 5, none⟩ (.slice A5 (c.children.n + 1) c5) = w6 at *
    have Ow := Ov.below HB5.out hO
    have X1 := Y1.below HB5.out hZ1
    have X2 := Y2.below HB5.out hZ2
    have HHw := hide (HHv.out.below HB5.out)
    have HPw := hide (HPv.out.below HB5.out)
    have hWs : W.heap.size ≤ s := Nat.le_of_lt hO
    have HBw := hide (HBv.out.trans (HB5.out.mono hWs))
    have hsw : s ≤ w6.heap.size := Nat.le_trans (HSZ.out ▸ HX.out.size) HB5.out.size
    clear Ov Y1 Y2 HHv HPv HBv HB5 HX HSZ
    obtain ⟨y6, hy6⟩ : ∃ y, ({ o.reproc c with children := ⟨A5, c.children.n + 1, c5⟩ } : Ob).obj o.id = y := ⟨_, rfl⟩
    replace HZ6 : Obl w6.drew z 42 (oc y6) := hy6 ▸ HZ6
    have HY6 := hide hy6
    clear hy6
    replace Ow : Obl w6.drew W.heap.size 42 (oc o) := Ow
    replace X1 : Obl w6.drew (W.heap.size + 1) 42 (oc Ob.zero) := X1
    replace X2 : Obl w6.drew (W.heap.size + 2) 42 (oc Ob.zero) := X2
    replace HBw : Hid (Below W.heap.size W w6.drew) := hide (below_drewN HBw.out 1)
    replace HHw : Hid (HoldsP w6.drew s o k.cont) := hide (HHw.out.below (below_drewN (Below.refl _ _) 1))
    replace HPw : Hid (Refs w6.drew s PA L.length L) := HPw
    replace HO5 : Hid (w6.drew.ownsRow s 24 1 (.slice A5 (c.children.n + 1) c5) (c.children.n + 1) (nv .u64 (k.children ++ [id]))) := HO5
    replace HOC : Hid (w6.drew.ownsRow s 72 4 (.slice c.code.A c.code.n c.code.c) c.code.n (iv k.cont.code)) := HOC
    replace HOS : Hid (w6.drew.ownsRow s 9 1 (.slice c.strs.A c.strs.n c.strs.c) c.strs.n (sv k.cont.strs)) := HOS
    replace HOP : Hid (w6.drew.ownsRow s 77 2 (.slice c.pages.A c.pages.n c.pages.c) c.pages.n (rv k.cont.pages)) := HOP
    replace HOT : Hid (w6.drew.ownsRow s 86 4 (.slice c.table.A c.table.n c.table.c) c.table.n (stv k.cont.table)) := HOT
    replace hsw : s ≤ w6.drew.heap.size := hsw
    obtain ⟨b9, hb9⟩ : ∃ b, w6.drew.heap.size = b := ⟨_, rfl⟩
    refine region_C (by kernel_rfl) b9 [9, 10, 11] ?_
    have hzb := HZ6.lt
    rw [hb9] at hsw hzb
    have HB9 := hide hb9
    clear hb9
    generalize w6.drew = u6 at *
    refine takeC 0 [0, 9, 10, 11] rfl (by kernel_rfl) (fun _ _ _ h => h) (by rfl) (by intro w' hg; exact exec_load_ob rfl rfl (HZ6.below hg hzb)) ?_
    refine takeX 1 rfl (by kernel_rfl) (fun _ _ _ h => h) (by rfl) (by intro w'; go_simp; try with_reducible rfl) ?_
    refine takeX 2 rfl (by kernel_rfl) (fun _ _ _ h => h) (by rfl) (by intro w'; go_simp; try with_reducible rfl) ?_
    refine takeC 3 [3, 7, 8, 9, 10, 11] rfl (by kernel_rfl) (fun _ _ _ h => h) (by rfl) (by intro w' hg; exact exec_load_proc rfl rfl (Ow.below hg (by omega))) ?_
    refine takeX 4 rfl (by kernel_rfl) (fun _ _ _ h => h) (by rfl) (by intro w'; go_simp; try with_reducible rfl) ?_
    refine takeC 5 [5, 7, 8, 9, 10, 11] rfl (by kernel_rfl) (fun _ _ _ h => h) (by rfl) (by intro w' hg; have kk : w'.cell? ⟨W.heap.size, 0, none⟩ = some (.int .u64 o.id) := (Ow.below hg (by omega)).cell 0; go_simp; try with_reducible rfl) ?_
    refine takeX 6 rfl (by kernel_rfl) (fun _ _ _ h => h) (by rfl) (by intro w'; go_simp; try with_reducible rfl) ?_
    go_simp
    refine onlyC 7 rfl (by kernel_rfl) (by rfl) ?_
    intro K hK
    go_simp
    refine (pvForked_any o k.cont o.id PA L.length pc u6 (HHw.out.mono (by rw [HB9.out]; exact hsw)) HSH.out).mono ?_
    rintro e u7 ⟨c2, rfl, hst, hb⟩
    refine hK _ _ (fun _ => HB9.out ▸ hb) ?_
    clear hK K
    have HOF := hide (hst.now)
    have hb7 : Below s u6 u7 := hb.mono (by rw [HB9.out]; exact hsw)
    replace X1 := X1.below hb X1.lt
    replace X2 := X2.below hb X2.lt
    replace HBw := hide (HBw.out.trans (hb7.mono hWs))
    replace HPw := hide (HPw.out.below hb7)
    replace HO5 := hide (own_later HO5.out hb)
    replace HOC := hide (own_later HOC.out hb)
    replace HOS := hide (own_later HOS.out hb)
    replace HOP := hide (own_later HOP.out hb)
    replace HOT := hide (own_later HOT.out hb)
    have hs7 : b9 ≤ u7.heap.size := HB9.out ▸ hb.size
    clear hst hb hb7 HHw HZ6 Ow
    go_simp
    refine onlyC 8 rfl (by kernel_rfl) (by rfl) ?_
    intro K hK
    go_simp
    refine (pvObject_any (o.childOf c2 o.id ⟨PA, L.length, pc⟩) id _).mono ?_
    rintro e u8 ⟨rfl, hb⟩
    refine hK _ _ (fun _ => hb.mono hs7) ?_
    clear hK K
    have hb8 : Below s u7 u8 := hb.mono (by omega)
    replace X1 := X1.below hb X1.lt
    replace X2 := X2.below hb X2.lt
    replace HBw := hide (HBw.out.trans (hb8.mono hWs))
    replace HPw := hide (HPw.out.below hb8)
    replace HOF := hide (HOF.out.later hb)
    replace HO5 := hide (own_later HO5.out hb)
    replace HOC := hide (own_later HOC.out hb)
    replace HOS := hide (own_later HOS.out hb)
    replace HOP := hide (own_later HOP.out hb)
    replace HOT := hide (own_later HOT.out hb)
    have HS8 : s ≤ u8.heap.size := Nat.le_trans (by omega) hb.size
    clear hb hb8
    go_simp
    refine onlyC 9 rfl (by kernel_rfl) (by rfl) ?_
    intro K hK
    refine pv_store rfl rfl (c := y6) rfl X1 rfl ?_
    refine hK _ _ (fun h => absurd h (by decide)) ?_
    clear hK K
    replace HO5 := hide (own_apart_obl HO5.out X1 (by decide) rfl (cs' := oc y6))
    replace HOC := hide (own_apart_obl HOC.out X1 (by decide) rfl (cs' := oc y6))
    replace HOS := hide (own_apart_obl HOS.out X1 (by decide) rfl (cs' := oc y6))
    replace HOP := hide (own_apart_obl HOP.out X1 (by decide) rfl (cs' := oc y6))
    replace HOT := hide (own_apart_obl HOT.out X1 (by decide) rfl (cs' := oc y6))
    replace HOF := hide (HOF.out.row (cs' := oc y6) X1)
    replace HPw := hide (HPw.out.row_ob X1 (oc y6))
    replace HBw := hide (below_row HBw.out (Nat.le_succ W.heap.size) (oc y6))
    replace X2 := X2.row_other (g := W.heap.size + 1) (by omega) (oc y6)
    replace X1 := X1.row_same (oc y6)
    replace HS8 := Nat.le_trans HS8 (below_row (Below.refl 0 u8) (Nat.zero_le _) (oc y6) (g := W.heap.size + 1)).size
    generalize u8.setRow (W.heap.size + 1) (oc y6) = u9 at *
    refine onlyC 10 rfl (by kernel_rfl) (by rfl) ?_
    intro K hK
    refine pv_store rfl rfl (c := (o.childOf c2 o.id ⟨PA, L.length, pc⟩).obj id) rfl X2 rfl ?_
    refine hK _ _ (fun h => absurd h (by decide)) ?_
    clear hK K
    replace HO5 := hide (own_apart_obl HO5.out X2 (by decide) rfl (cs' := oc ((o.childOf c2 o.id ⟨PA, L.length, pc⟩).obj id)))
    replace HOC := hide (own_apart_obl HOC.out X2 (by decide) rfl (cs' := oc ((o.childOf c2 o.id ⟨PA, L.length, pc⟩).obj id)))
    replace HOS := hide (own_apart_obl HOS.out X2 (by decide) rfl (cs' := oc ((o.childOf c2 o.id ⟨PA, L.length, pc⟩).obj id)))
    replace HOP := hide (own_apart_obl HOP.out X2 (by decide) rfl (cs' := oc ((o.childOf c2 o.id ⟨PA, L.length, pc⟩).obj id)))
    replace HOT := hide (own_apart_obl HOT.out X2 (by decide) rfl (cs' := oc ((o.childOf c2 o.id ⟨PA, L.length, pc⟩).obj id)))
    replace HOF := hide (HOF.out.row (cs' := oc ((o.childOf c2 o.id ⟨PA, L.length, pc⟩).obj id)) X2)
    replace HPw := hide (HPw.out.row_ob X2 (oc ((o.childOf c2 o.id ⟨PA, L.length, pc⟩).obj id)))
    replace HBw := hide (below_row HBw.out (Nat.le_add_right W.heap.size 2) (oc ((o.childOf c2 o.id ⟨PA, L.length, pc⟩).obj id)))
    replace X1 := X1.row_other (g := W.heap.size + 2) (by omega) (oc ((o.childOf c2 o.id ⟨PA, L.length, pc⟩).obj id))
    replace X2 := X2.row_same (oc ((o.childOf c2 o.id ⟨PA, L.length, pc⟩).obj id))
    replace HS8 := Nat.le_trans HS8 (below_row (Below.refl 0 u9) (Nat.zero_le _) (oc ((o.childOf c2 o.id ⟨PA, L.length, pc⟩).obj id)) (g := W.heap.size + 2)).size
    generalize u9.setRow (W.heap.size + 2) (oc ((o.childOf c2 o.id ⟨PA, L.length, pc⟩).obj id)) = u10 at *
    refine takeX 11 rfl (by kernel_rfl) (fun _ _ _ h => h) (by rfl) (by intro w'; go_simp; try with_reducible rfl) ?_
    refine doneC (by kernel_rfl) ?_
    go_simp
    go_wp2_with fail
    refine bodyPost_ret (pv_retoo rfl _ (by rfl) (by rfl) X1 X2) rfl ?_
    refine KoKoOwn.of HR.out rfl ?_ ?_ HBw.out ?_
    · have hh : HoldsP u10 u10.heap.size { o.reproc c with children := ⟨A5, c.children.n + 1, c5⟩ } { k.cont with children := k.children ++ [id] } := ⟨Nums.of_own HO5.out, Inss.of_own HOC.out, Strs.of_own HOS.out, Refs.of_own HOP.out, Slots.of_own HOT.out⟩
      have hk := isKo_obj hh ⟨own_cap HO5.out, own_cap63 HO5.out⟩ ⟨own_cap HOP.out, own_cap63 HOP.out⟩ ⟨own_cap HOT.out, own_cap63 HOT.out⟩ o.id
      rw [parent_of HPR.out HEQ.out, HY6.out] at hk
      exact hk
    · have hh : HoldsP u10 u10.heap.size (o.childOf c2 o.id ⟨PA, L.length, pc⟩) { Cont.none with code := k.code, strs := k.strs, pages := L, table := k.table } := ⟨Nums.nil, Inss.of_own HOF.out.code, Strs.of_own HOF.out.strs, HPw.out.mono HS8, Slots.of_own HOF.out.table⟩
      have hk := isKo_obj hh pv_nokid HPC.out ⟨own_cap HOF.out.table, own_cap63 HOF.out.table⟩ id
      rwa [child_of HEQ.out HRR.out] at hk
    · have ho := (⟨HO5.out, HOC.out, HOS.out, HOP.out, HOT.out⟩ : Owns u10 s { o.reproc c with children := ⟨A5, c.children.n + 1, c5⟩ } (k.parentOf id).cont).weaken hWs
      rw [← HY6.out]
      exact ⟨ho.children, ho.code, ho.strs, ho.pages, ho.table⟩
end Go.Proofs.YtdglcpepgodcpaaDoor
