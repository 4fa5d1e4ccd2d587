/- Made objects: channels: a contract. -/
import Derived.Test.YtcgiobffobonpaaObKinds3
import Derived.Test.YtcgiobffobonpaaRegionD
namespace Go.Proofs.Ytcgiobffobonpaa
open Go.RowKit

theorem wp_make64 {o : Oper} {a : Act} {w : World} {K : Act → World → Prop} {Q : Exit → Act → World → Prop} (l c : Operand) (hop : o.op = Op.makeSlice 36 l c) (hl : a.eval l = .int .i64 64) (hc : a.eval c = .int .i64 64) (base : Nat) (hbase : base ≤ w.heap.size)
    (hK : ∀ A w', (∃ D, w'.ownsRow base 5 1 (.slice A 64 64) 64 (bv D)) → Below w.heap.size w w' → K (a.put o.dst (.slice A 64 64)) w') : o.wp Try.prog a w K Q := by
  obtain ⟨i0, hi, hz0, hz1, hz2⟩ := info_parts (show (Try.prog.info? 5).map (fun i => (i.zero, i.size, i.bytes)) = some (some (.int .u8 0), 1, 1) by kernel_rfl)
  obtain ⟨w', hrun, h1, h2⟩ := run_makeSlice_full (P := Try.prog) (w := w) base 36 5 i0 (.int .u8 0) 1 Try.underlying36 hi hz0 hz1 .i64 .i64 64 (by omega) (by rw [hz2]; omega) (by unfold maxLen; omega) hbase
  rw [show (madeCells (Value.int .u8 0).cells (64 * 1)).toList = bv (List.replicate 64 0) from by kernel_rfl] at h1
  unfold Oper.wp
  have hr' : (Instr.makeSlice 36 (.int .i64 64) (.int .i64 64)).run Try.prog w = _ := hrun
  simp [execOp, hop, hl, hc, hr', Result.andThen]
  exact hK _ w' ⟨List.replicate 64 0, h1⟩ ⟨h2.os, h2.tape, h2.output, h2.size, fun k hk => h2.block k hk (by simp)⟩

set_option maxRecDepth 100000 in
set_option maxHeartbeats 8000000 in
theorem channel_dice (C b : Nat) (id : Int) (W : World) (h : Dice W C b) : Calls Try.prog 32 #[.pointer (some ⟨b, 0, none⟩), .int .u64 id] W (ObThrown C b W) := by
  obtain ⟨w1, hw, OR, hb, hs⟩ := start_z W
  have hbl := h.lt
  have hCb := h.le
  have HD := hide (h.below hb)
  have HB := hide (Bel.of (b := b) hb)
  clear hb h
  go_enter Try.func32, Try.ntmps32
  go_wp2_with fail
  refine (chanNew id _).mono ?_
  rintro e w2 ⟨rfl, hb2⟩
  obtain ⟨w3, hw3, m, hm, w4, hw4, OZ, O, hb4, hs4⟩ := laid_ob { Ob.zero with id := id, kind := 7, e0 := 1, e1 := 1 } w2
  have hmW : W.heap.size < m := by have := hb2.size; omega
  have OR4 := (OR.below hb2 OR.lt).below hb4 (by omega)
  have HD4 := hide ((HD.out.below hb2).below hb4)
  have HB4 := hide (HB.out.trans (Bel.of (b := b) ((hb2.trans (hb4.mono hb2.size)).mono (by omega))))
  clear hb2 hb4 OR HD HB hw hs
  go_wp2_with (first | (refine store_ob rfl _ _ rfl rfl (c := { Ob.zero with id := id, kind := 7, e0 := 1, e1 := 1 }) rfl OZ rfl ?_; rw [hw4]) | fail)
  refine (next_dice C b 3 _ HD4.out (by omega) (by omega)).mono ?_
  rintro e w5 ⟨r, rfl, hr, hD, hB⟩
  have O5 := hB.obl' O (by omega)
  have OR5 := hB.obl' OR4 (by omega)
  have HD5 := hide hD
  have HB5 := hide (HB4.out.trans (hB.mono HB4.out.size))
  clear hD hB O OR4 HD4 HB4 OZ hw4 hw3 hr
  go_wp2_with fail
  refine (next_dice C b 3 _ HD5.out (by omega) (by omega)).mono ?_
  rintro e w6 ⟨u, rfl, hu, hD, hB⟩
  have O6 := hB.obl' O5 (by omega)
  have OR6 := hB.obl' OR5 (by omega)
  have z32 := O6.free 32
  have k32 : w6.cell? ⟨m, 32, none⟩ = some (.int .i64 1) := O6.cell 32
  have k33' : w6.cell? ⟨m, 33, none⟩ = some (.int .i64 1) := O6.cell 33
  have z33' := O6.free 33
  have O7 : Obl (w6.setCell ⟨m, 32, none⟩ (.int .i64 r)) m 41 (oc { Ob.zero with id := id, kind := 7, e0 := r, e1 := 1 }) := O6.put 32 _
  have OR7 := OR6.put_other (b' := m) (by omega) 32 (.int .i64 r)
  have z33 := O7.free 33
  have k33 : (w6.setCell ⟨m, 32, none⟩ (.int .i64 r)).cell? ⟨m, 33, none⟩ = some (.int .i64 1) := O7.cell 33
  have O8 : Obl ((w6.setCell ⟨m, 32, none⟩ (.int .i64 r)).setCell ⟨m, 33, none⟩ (.int .i64 u)) m 41 (oc { Ob.zero with id := id, kind := 7, e0 := r, e1 := u }) := O7.put 33 _
  have OR8 := OR7.put_other (b' := m) (by omega) 33 (.int .i64 u)
  have HD8 := hide ((hD.put_other (g := m) (by omega) (by omega) 32 (.int .i64 r)).put_other (g := m) (by omega) (by omega) 33 (.int .i64 u))
  have HB8 := hide (((HB5.out.trans (hB.mono HB5.out.size)).setGe (g := m) (by omega) 32 (.int .i64 r)).setGe (g := m) (by omega) 33 (.int .i64 u))
  obtain ⟨w8, hw8⟩ : ∃ w8, (w6.setCell ⟨m, 32, none⟩ (.int .i64 r)).setCell ⟨m, 33, none⟩ (.int .i64 u) = w8 := ⟨_, rfl⟩
  rw [hw8] at O8 OR8 HD8 HB8
  clear hD hB O5 OR5 HD5 HB5 O6 OR6 O7 OR7 hu
  by_cases h0 : [r, u] = [0, 0]
  have H0 := hide h0
  clear h0
  have y33 := O8.free 33
  have j33 : w8.cell? ⟨m, 33, none⟩ = some (.int .i64 u) := O8.cell 33
  have O9 : Obl (w8.setCell ⟨m, 33, none⟩ (.int .i64 1)) m 41 (oc { Ob.zero with id := id, kind := 7, e0 := r, e1 := 1 }) := O8.put 33 _
  have OR9 := OR8.put_other (b' := m) (by omega) 33 (.int .i64 1)
  have HD9 := hide (HD8.out.put_other (g := m) (by omega) (by omega) 33 (.int .i64 1))
  have HB9 := hide (HB8.out.setGe (g := m) (by omega) 33 (.int .i64 1))
  obtain ⟨w9, hw9⟩ : ∃ w9, w8.setCell ⟨m, 33, none⟩ (.int .i64 1) = w9 := ⟨_, rfl⟩
  rw [hw9] at O9 OR9 HD9 HB9
  obtain ⟨x, hx⟩ : ∃ x : Int, 1 = x := ⟨_, rfl⟩
  rw [show (oc { Ob.zero with id := id, kind := 7, e0 := r, e1 := 1 }) = oc { Ob.zero with id := id, kind := 7, e0 := r, e1 := x } from by rw [hx]] at O9
  clear hx
  go_wp2_with (first | (refine wpList_val (by rfl) (exec_load_ends rfl rfl O8) ?_) | (refine wpList_val (by rfl) (exec_build rfl (vs := []) rfl built_ends) ?_) | (refine wpList_val (by rfl) (exec_eql_ends (L := [r, u]) (M := [0, 0]) rfl rfl rfl rfl rfl) ?_; rw [show decide ([r, u] = [0, 0]) = true from decide_eq_true H0.out]) | fail)
  clear OR8 HD8 HB8 H0
  rotate_left 1
  have H0 := hide h0
  clear h0
  have O9 := O8
  have OR9 := OR8
  have HD9 := HD8
  have HB9 := HB8
  generalize w8 = w9 at *
  have hw9 := trivial
  obtain ⟨x, hx⟩ : ∃ x : Int, u = x := ⟨_, rfl⟩
  have hx' := hide hx
  rw [show (oc { Ob.zero with id := id, kind := 7, e0 := r, e1 := u }) = oc { Ob.zero with id := id, kind := 7, e0 := r, e1 := x } from by rw [hx]] at O9
  clear hx
  have heq : ∀ w : World, (Op.equalIn 10000 38 (.agg (nv .i64 [r, u]).toArray) (.agg #[.int .i64 0, .int .i64 0])).run Try.prog w = .ok false w := fun w => by
    have := run_equal_nums (P := Try.prog) (w := w) (d := 9998) Try.underlying38 Try.underlying3 intSize1 [r, u] [0, 0] rfl rfl
    rwa [decide_eq_false H0.out] at this
  go_wp2_with (first | (refine wpList_val (by rfl) (exec_load_ends rfl rfl O8) ?_) | fail)
  clear OR8 HD8 HB8 H0 heq
  all_goals
    refine (bytes_dice C b 4 _ HD9.out (by omega)).mono ?_
    rintro e wA ⟨A, n, c, D, rfl, hn, hown, hD, hB⟩
    have hm9 := O9.lt
    have O5 := hB.obl' O9 (by omega)
    have OR5 := hB.obl' OR9 (by omega)
    have HD5 := hide hD
    have HB5 := hide (HB9.out.trans (hB.mono HB9.out.size))
    have HO5 := hide hown
    have hs9 : w9.heap.size ≤ wA.heap.size := hB.size
    clear hown hD hB O9 OR9 HD9 HB9 hw9 O8
    go_wp2_with fail
    refine (bytes_dice C b 4 _ HD5.out (by omega)).mono ?_
    rintro e wB ⟨A2, n2, c2, D2, rfl, hn2, hown, hD, hB⟩
    have O6 := hB.obl' O5 (by omega)
    have OR6 := hB.obl' OR5 (by omega)
    have HO6 := hide (own_keep HO5.out (keep_bel hB (by omega)))
    have HP6 := hide (own_weaken (base' := w9.heap.size) hown hs9)
    have HB6 := hide (HB5.out.trans (hB.mono HB5.out.size))
    have z30 := O6.free 30
    have k30 : wB.cell? ⟨m, 30, none⟩ = some (.slice none 0 0) := O6.cell 30
    have k31' : wB.cell? ⟨m, 31, none⟩ = some (.slice none 0 0) := O6.cell 31
    have z31' := O6.free 31
    have O7 : Obl (wB.setCell ⟨m, 30, none⟩ (.slice A n c)) m 41 (oc { Ob.zero with id := id, kind := 7, e0 := r, e1 := x, q0 := ⟨A, n, c⟩ }) := O6.put 30 _
    have z31 := O7.free 31
    have k31 : (wB.setCell ⟨m, 30, none⟩ (.slice A n c)).cell? ⟨m, 31, none⟩ = some (.slice none 0 0) := O7.cell 31
    have OC : Obl ((wB.setCell ⟨m, 30, none⟩ (.slice A n c)).setCell ⟨m, 31, none⟩ (.slice A2 n2 c2)) m 41 (oc { Ob.zero with id := id, kind := 7, e0 := r, e1 := x, q0 := ⟨A, n, c⟩, q1 := ⟨A2, n2, c2⟩ }) := O7.put 31 _
    have ORC := (OR6.put_other (b' := m) (by omega) 30 (.slice A n c)).put_other (b' := m) (by omega) 31 (.slice A2 n2 c2)
    have HDC := hide ((hD.put_other (g := m) (by omega) (by omega) 30 (.slice A n c)).put_other (g := m) (by omega) (by omega) 31 (.slice A2 n2 c2))
    have HBC := hide ((HB6.out.setGe (g := m) (by omega) 30 (.slice A n c)).setGe (g := m) (by omega) 31 (.slice A2 n2 c2))
    have HOC := hide (own_keep (own_keep HO6.out (keep_put (m := m) (by omega) 30 (.slice A n c))) (keep_put (m := m) (by omega) 31 (.slice A2 n2 c2)))
    have HPC := hide (own_keep (own_keep HP6.out (keep_put (m := m) (by omega) 30 (.slice A n c))) (keep_put (m := m) (by omega) 31 (.slice A2 n2 c2)))
    obtain ⟨wC, hwC⟩ : ∃ wC, (wB.setCell ⟨m, 30, none⟩ (.slice A n c)).setCell ⟨m, 31, none⟩ (.slice A2 n2 c2) = wC := ⟨_, rfl⟩
    rw [hwC] at OC ORC HDC HBC HOC HPC
    have hszC : w9.heap.size ≤ wC.heap.size := by have := hB.size; rw [← hwC]; simp [World.setCell]; omega
    clear hown hD hB O5 OR5 HD5 HB5 HO5 O6 OR6 HO6 HP6 HB6 O7
    go_wp2_with fail
    refine (next_dice C b 5 _ HDC.out (by omega) (by omega)).mono ?_
    rintro e wD ⟨v, rfl, hv, hD, hB⟩
    have OD := hB.obl' OC (by omega)
    have ORD := hB.obl' ORC (by omega)
    have HDD := hide hD
    have HBD := hide (HBC.out.trans (hB.mono HBC.out.size))
    have HOD := hide (own_keep HOC.out (keep_bel hB (by omega)))
    have HPD := hide (own_keep HPC.out (keep_bel hB (by omega)))
    have hszD : w9.heap.size ≤ wD.heap.size := by have := hB.size; omega
    have hmD := OD.lt
    clear hD hB OC ORC HDC HBC HOC HPC hszC hwC
    by_cases h4 : v = 4
    · subst h4
      go_wp2_with fail
      refine region_D (by kernel_rfl) wD.drew.heap.size b [5] ?_
      replace OD : Obl wD.drew m 41 (oc { Ob.zero with id := id, kind := 7, e0 := r, e1 := x, q0 := ⟨A, n, c⟩, q1 := ⟨A2, n2, c2⟩ }) := OD
      replace ORD : Obl wD.drew W.heap.size 41 (oc Ob.zero) := ORD
      replace HDD : Hid (Dice wD.drew C b) := HDD
      replace HBD : Hid (Bel W.heap.size b W wD.drew) := hide ⟨HBD.out.os, HBD.out.tape, HBD.out.output, HBD.out.size, HBD.out.block⟩
      replace HOD : Hid (wD.drew.ownsRow w9.heap.size 5 1 (.slice A n c) n (bv D)) := HOD
      replace HPD : Hid (wD.drew.ownsRow w9.heap.size 5 1 (.slice A2 n2 c2) n2 (bv D2)) := HPD
      replace hszD : w9.heap.size ≤ wD.drew.heap.size := hszD
      generalize wD.drew = u0 at *
      refine takeDX 0 rfl (by kernel_rfl) (fun _ _ _ h => h) (by rfl) (by intro w'; go_simp; try with_reducible rfl) ?_
      refine takeDX 3 rfl (by kernel_rfl) (fun _ _ _ h => h) (by rfl) (by intro w'; go_simp; try with_reducible rfl) ?_
      refine twoD 1 2 rfl rfl (by kernel_rfl) (by rfl) (by rfl) ?_ ?_
      · intro K hK
        go_simp
        refine (next_dice C b 2 _ HDD.out (by omega) (by omega)).mono ?_
        rintro e u1 ⟨q, rfl, hq, hD, hB⟩
        have O1 := hB.obl' OD (by omega)
        have OR1 := hB.obl' ORD (by omega)
        have HD1 := hide hD
        have HB1 := hide (HBD.out.trans (hB.mono HBD.out.size))
        have HO1 := hide (own_keep HOD.out (keep_bel hB (by omega)))
        have HP1 := hide (own_keep HPD.out (keep_bel hB (by omega)))
        have hs1 : w9.heap.size ≤ u1.heap.size := by have := hB.size; omega
        have hs2 : u0.heap.size ≤ u1.heap.size := hB.size
        refine hK _ _ (fun _ => hB) ?_
        clear hK K hD hB OD ORD HDD HBD HOD HPD
        refine onlyD 2 rfl (by kernel_rfl) (by rfl) ?_
        intro K hK
        refine wp_make64 _ _ rfl rfl rfl w9.heap.size hs1 ?_
        intro A6 u2 hown6 hb6
        refine hK _ _ (fun _ => Bel.of (hb6.mono hs2)) ?_
        clear hK K
        have O2 := O1.below hb6 O1.lt
        have OR2 := OR1.below hb6 OR1.lt
        have HD2 := hide (HD1.out.below hb6)
        have HB2 := hide (HB1.out.trans (Bel.of (b := b) (hb6.mono HB1.out.size)))
        have HO2 := hide (own_keep HO1.out (keep_below hb6))
        have HP2 := hide (own_keep HP1.out (keep_below hb6))
        have HQ2 := hide hown6
        have hq' := hide hq
        clear hown6 hb6 O1 OR1 HD1 HB1 HO1 HP1 hs1 hs2 hq
        rcases (show q = 0 ∨ q = 1 by have := hq'.out; omega) with rfl | rfl
        · have z2 := O2.free 30
          have kq : u2.cell? ⟨m, 30, none⟩ = some (.slice A n c) := O2.cell 30
          have O3 : Obl (u2.setCell ⟨m, 30, none⟩ (.slice A6 64 64)) m 41 (oc { Ob.zero with id := id, kind := 7, e0 := r, e1 := x, q0 := ⟨A6, 64, 64⟩, q1 := ⟨A2, n2, c2⟩ }) := O2.put 30 _
          have OR3 := OR2.put_other (b' := m) (by omega) 30 (.slice A6 64 64)
          have HD3 := hide (HD2.out.put_other (g := m) (by omega) (by omega) 30 (.slice A6 64 64))
          have HB3 := hide (HB2.out.setGe (g := m) (by omega) 30 (.slice A6 64 64))
          have HP3 := hide (own_keep HP2.out (keep_put (m := m) (by omega) 30 (.slice A6 64 64)))
          have HQ3 := hide (HQ2.out.imp fun _ h => own_keep h (keep_put (m := m) (by omega) 30 (.slice A6 64 64)))
          clear O2 OR2 HD2 HB2 HO2 HP2 HQ2
          refine onlyD 4 rfl (by kernel_rfl) (by rfl) ?_
          intro K hK
          go_simp
          refine hK _ _ (fun _ => Bel.refl _ _ _) ?_
          clear hK K
          refine onlyD 5 rfl (by kernel_rfl) (by rfl) ?_
          intro K hK
          go_simp
          refine hK _ _ (fun h => by cases h) ?_
          clear hK K
          refine doneD (by kernel_rfl) ?_
          clear z2 kq
          generalize u2.setCell ⟨m, 30, none⟩ (.slice A6 64 64) = u3 at *
          go_simp
          go_wp2_with (first | (refine load_ob rfl _ rfl rfl O3 ?_) | (refine store_ob rfl _ _ rfl rfl (c := { Ob.zero with id := id, kind := 7, e0 := r, e1 := x, q0 := ⟨A6, 64, 64⟩, q1 := ⟨A2, n2, c2⟩ }) rfl OR3 rfl ?_) | fail)
          refine bodyPost_ret (ret_ob rfl _ rfl (OR3.row_same _)) rfl ?_
          exact thrown_own (base := w9.heap.size) ⟨⟨[], own_nil⟩, ⟨[], own_nil⟩, ⟨[], own_nil⟩, HQ3.out, ⟨D2, HP3.out⟩, ⟨[], own_nil, by simp⟩, noProc_zero⟩ (by omega) HD3.out HB3.out hbl hCb
        · have z2 := O2.free 31
          have kq : u2.cell? ⟨m, 31, none⟩ = some (.slice A2 n2 c2) := O2.cell 31
          have O3 : Obl (u2.setCell ⟨m, 31, none⟩ (.slice A6 64 64)) m 41 (oc { Ob.zero with id := id, kind := 7, e0 := r, e1 := x, q0 := ⟨A, n, c⟩, q1 := ⟨A6, 64, 64⟩ }) := O2.put 31 _
          have OR3 := OR2.put_other (b' := m) (by omega) 31 (.slice A6 64 64)
          have HD3 := hide (HD2.out.put_other (g := m) (by omega) (by omega) 31 (.slice A6 64 64))
          have HB3 := hide (HB2.out.setGe (g := m) (by omega) 31 (.slice A6 64 64))
          have HP3 := hide (own_keep HO2.out (keep_put (m := m) (by omega) 31 (.slice A6 64 64)))
          have HQ3 := hide (HQ2.out.imp fun _ h => own_keep h (keep_put (m := m) (by omega) 31 (.slice A6 64 64)))
          clear O2 OR2 HD2 HB2 HO2 HP2 HQ2
          refine onlyD 4 rfl (by kernel_rfl) (by rfl) ?_
          intro K hK
          go_simp
          refine hK _ _ (fun _ => Bel.refl _ _ _) ?_
          clear hK K
          refine onlyD 5 rfl (by kernel_rfl) (by rfl) ?_
          intro K hK
          go_simp
          refine hK _ _ (fun h => by cases h) ?_
          clear hK K
          refine doneD (by kernel_rfl) ?_
          clear z2 kq
          generalize u2.setCell ⟨m, 31, none⟩ (.slice A6 64 64) = u3 at *
          go_simp
          go_wp2_with (first | (refine load_ob rfl _ rfl rfl O3 ?_) | (refine store_ob rfl _ _ rfl rfl (c := { Ob.zero with id := id, kind := 7, e0 := r, e1 := x, q0 := ⟨A, n, c⟩, q1 := ⟨A6, 64, 64⟩ }) rfl OR3 rfl ?_) | fail)
          refine bodyPost_ret (ret_ob rfl _ rfl (OR3.row_same _)) rfl ?_
          exact thrown_own (base := w9.heap.size) ⟨⟨[], own_nil⟩, ⟨[], own_nil⟩, ⟨[], own_nil⟩, ⟨D, HP3.out⟩, HQ3.out, ⟨[], own_nil, by simp⟩, noProc_zero⟩ (by omega) HD3.out HB3.out hbl hCb
      · intro K hK
        refine wp_make64 _ _ rfl rfl rfl w9.heap.size hszD ?_
        intro A6 u1 hown6 hb6
        have O1 := OD.below hb6 OD.lt
        have OR1 := ORD.below hb6 ORD.lt
        have HD1 := hide (HDD.out.below hb6)
        have HB1 := hide (HBD.out.trans (Bel.of (b := b) (hb6.mono HBD.out.size)))
        have HO1 := hide (own_keep HOD.out (keep_below hb6))
        have HP1 := hide (own_keep HPD.out (keep_below hb6))
        have HQ1 := hide hown6
        have hs2 : u0.heap.size ≤ u1.heap.size := hb6.size
        refine hK _ _ (fun _ => Bel.of hb6) ?_
        clear hK K hown6 hb6 OD ORD HDD HBD HOD HPD
        refine onlyD 1 rfl (by kernel_rfl) (by rfl) ?_
        intro K hK
        go_simp
        refine (next_dice C b 2 _ HD1.out (by omega) (by omega)).mono ?_
        rintro e u2 ⟨q, rfl, hq, hD, hB⟩
        have O2 := hB.obl' O1 (by omega)
        have OR2 := hB.obl' OR1 (by omega)
        have HD2 := hide hD
        have HB2 := hide (HB1.out.trans (hB.mono HB1.out.size))
        have HO2 := hide (own_keep HO1.out (keep_bel hB (by omega)))
        have HP2 := hide (own_keep HP1.out (keep_bel hB (by omega)))
        have HQ2 := hide (HQ1.out.imp fun _ h => own_keep h (keep_bel hB (by omega)))
        refine hK _ _ (fun _ => hB.mono hs2) ?_
        clear hK K hD hB O1 OR1 HD1 HB1 HO1 HP1 HQ1 hs2
        have hq' := hide hq
        clear hq
        rcases (show q = 0 ∨ q = 1 by have := hq'.out; omega) with rfl | rfl
        · have z2 := O2.free 30
          have kq : u2.cell? ⟨m, 30, none⟩ = some (.slice A n c) := O2.cell 30
          have O3 : Obl (u2.setCell ⟨m, 30, none⟩ (.slice A6 64 64)) m 41 (oc { Ob.zero with id := id, kind := 7, e0 := r, e1 := x, q0 := ⟨A6, 64, 64⟩, q1 := ⟨A2, n2, c2⟩ }) := O2.put 30 _
          have OR3 := OR2.put_other (b' := m) (by omega) 30 (.slice A6 64 64)
          have HD3 := hide (HD2.out.put_other (g := m) (by omega) (by omega) 30 (.slice A6 64 64))
          have HB3 := hide (HB2.out.setGe (g := m) (by omega) 30 (.slice A6 64 64))
          have HP3 := hide (own_keep HP2.out (keep_put (m := m) (by omega) 30 (.slice A6 64 64)))
          have HQ3 := hide (HQ2.out.imp fun _ h => own_keep h (keep_put (m := m) (by omega) 30 (.slice A6 64 64)))
          clear O2 OR2 HD2 HB2 HO2 HP2 HQ2
          refine onlyD 4 rfl (by kernel_rfl) (by rfl) ?_
          intro K hK
          go_simp
          refine hK _ _ (fun _ => Bel.refl _ _ _) ?_
          clear hK K
          refine onlyD 5 rfl (by kernel_rfl) (by rfl) ?_
          intro K hK
          go_simp
          refine hK _ _ (fun h => by cases h) ?_
          clear hK K
          refine doneD (by kernel_rfl) ?_
          clear z2 kq
          generalize u2.setCell ⟨m, 30, none⟩ (.slice A6 64 64) = u3 at *
          go_simp
          go_wp2_with (first | (refine load_ob rfl _ rfl rfl O3 ?_) | (refine store_ob rfl _ _ rfl rfl (c := { Ob.zero with id := id, kind := 7, e0 := r, e1 := x, q0 := ⟨A6, 64, 64⟩, q1 := ⟨A2, n2, c2⟩ }) rfl OR3 rfl ?_) | fail)
          refine bodyPost_ret (ret_ob rfl _ rfl (OR3.row_same _)) rfl ?_
          exact thrown_own (base := w9.heap.size) ⟨⟨[], own_nil⟩, ⟨[], own_nil⟩, ⟨[], own_nil⟩, HQ3.out, ⟨D2, HP3.out⟩, ⟨[], own_nil, by simp⟩, noProc_zero⟩ (by omega) HD3.out HB3.out hbl hCb
        · have z2 := O2.free 31
          have kq : u2.cell? ⟨m, 31, none⟩ = some (.slice A2 n2 c2) := O2.cell 31
          have O3 : Obl (u2.setCell ⟨m, 31, none⟩ (.slice A6 64 64)) m 41 (oc { Ob.zero with id := id, kind := 7, e0 := r, e1 := x, q0 := ⟨A, n, c⟩, q1 := ⟨A6, 64, 64⟩ }) := O2.put 31 _
          have OR3 := OR2.put_other (b' := m) (by omega) 31 (.slice A6 64 64)
          have HD3 := hide (HD2.out.put_other (g := m) (by omega) (by omega) 31 (.slice A6 64 64))
          have HB3 := hide (HB2.out.setGe (g := m) (by omega) 31 (.slice A6 64 64))
          have HP3 := hide (own_keep HO2.out (keep_put (m := m) (by omega) 31 (.slice A6 64 64)))
          have HQ3 := hide (HQ2.out.imp fun _ h => own_keep h (keep_put (m := m) (by omega) 31 (.slice A6 64 64)))
          clear O2 OR2 HD2 HB2 HO2 HP2 HQ2
          refine onlyD 4 rfl (by kernel_rfl) (by rfl) ?_
          intro K hK
          go_simp
          refine hK _ _ (fun _ => Bel.refl _ _ _) ?_
          clear hK K
          refine onlyD 5 rfl (by kernel_rfl) (by rfl) ?_
          intro K hK
          go_simp
          refine hK _ _ (fun h => by cases h) ?_
          clear hK K
          refine doneD (by kernel_rfl) ?_
          clear z2 kq
          generalize u2.setCell ⟨m, 31, none⟩ (.slice A6 64 64) = u3 at *
          go_simp
          go_wp2_with (first | (refine load_ob rfl _ rfl rfl O3 ?_) | (refine store_ob rfl _ _ rfl rfl (c := { Ob.zero with id := id, kind := 7, e0 := r, e1 := x, q0 := ⟨A, n, c⟩, q1 := ⟨A6, 64, 64⟩ }) rfl OR3 rfl ?_) | fail)
          refine bodyPost_ret (ret_ob rfl _ rfl (OR3.row_same _)) rfl ?_
          exact thrown_own (base := w9.heap.size) ⟨⟨[], own_nil⟩, ⟨[], own_nil⟩, ⟨[], own_nil⟩, ⟨D, HP3.out⟩, HQ3.out, ⟨[], own_nil, by simp⟩, noProc_zero⟩ (by omega) HD3.out HB3.out hbl hCb
    · have e4 : (v == 4) = false := by simpa using h4
      go_wp2_with (first | (refine load_ob rfl _ rfl rfl OD ?_) | (refine store_ob rfl _ _ rfl rfl (c := { Ob.zero with id := id, kind := 7, e0 := r, e1 := x, q0 := ⟨A, n, c⟩, q1 := ⟨A2, n2, c2⟩ }) rfl ORD rfl ?_) | fail)
      refine bodyPost_ret (ret_ob rfl _ rfl (ORD.row_same _)) rfl ?_
      exact thrown_own (base := w9.heap.size) ⟨⟨[], own_nil⟩, ⟨[], own_nil⟩, ⟨[], own_nil⟩, ⟨D, HOD.out⟩, ⟨D2, HPD.out⟩, ⟨[], own_nil, by simp⟩, noProc_zero⟩ (by omega) HDD.out HBD.out hbl hCb
end Go.Proofs.Ytcgiobffobonpaa
