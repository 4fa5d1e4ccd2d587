/- Layer 17: devices as the reference has them (DeviceMoves): the walk. (Written by tools/mkdvmoves.py.) -/
import Derived.Test.YtddbohnappogkaaDvLaw
import Derived.Test.YtddbohnappogkaaSmFour
import Derived.Test.YtddbohnappogkaaObObj
import Derived.Test.YtddbohnappogkaaKeepOb
namespace Go.Proofs.Ytddbohnappogkaa
open Go.RowKit

theorem built_dev (id n : Int) : Try.prog.built 41 [(0, .int .u64 id), (1, .int .i64 9), (13, .int .i64 n)] = some (oc (Ob.dev id n)) := by kernel_rfl
set_option maxRecDepth 100000 in
set_option maxHeartbeats 16000000 in
theorem deviceMoves_any (o : Ob) (l : List Nm) (strs : List (List UInt8)) (S : Option Addr) (q r : Nat) (bs : List UInt8) (id n : Int) (W : World) (hl : Nms W W.heap.size o.names.A o.names.n l) (hS : Strs W W.heap.size o.strs.A o.strs.n strs) (hf : Fits o l strs)
    (h : Bytes W W.heap.size S q bs) (hq : q ≤ r ∧ r ≤ 9223372036854775807) :
    Calls Try.prog 3 #[.agg (oc o), .slice S q r, .int .u64 id, .int .i64 n] W (BoolPost true W) := by
  obtain ⟨w0, hw, O, hb, hs⟩ : ∃ w0, W.alloc (.cells (oc o) 41) = w0 ∧ Obl w0 W.heap.size 41 (oc o) ∧ Below W.heap.size W w0 ∧ w0.heap.size = W.heap.size + 1 :=
    ⟨_, rfl, Obl.make W _ _, (Below.refl _ _).alloc (Nat.le_refl _) _, by simp⟩
  have HN := hide hl
  have HST := hide hS
  have HF := hide hf
  have HBY := hide h
  have HQ := hide hq
  have HB := hide hb
  clear hl hS hf h hq hb hs
  go_enter Try.func3, Try.ntmps3
  try dsimp only [List.append]
  go_wp2_with fail
  refine (dvSane_any _).mono ?_
  rintro e w1 ⟨rfl, hb1⟩
  replace O := O.below hb1 O.lt
  replace HB := hide (HB.out.trans (hb1.mono HB.out.size))
  clear hb1 hw
  go_wp2_with (first | (refine load_ob rfl _ rfl rfl O ?_) | fail)
  refine (keepob_any o l strs _ ((HN.out.below HB.out).mono HB.out.size) ((HST.out.below HB.out).mono HB.out.size) HF.out).mono ?_
  rintro e w2 ⟨bv, rfl, hb2⟩
  replace O := O.below hb2 O.lt
  replace HB := hide (HB.out.trans (hb2.mono HB.out.size))
  clear hb2 HN HST HF
  cases bv with
  | false =>
    go_wp2_with fail
    go_ret
    exact ⟨rfl, HB.out⟩
  | true =>
    go_upto_region 5 with (fail)
    refine region_B (by kernel_rfl) w2.drew.heap.size ?_
    replace O : Obl w2.drew W.heap.size 41 (oc o) := O
    replace HB : Hid (Below W.heap.size W w2.drew) := hide ⟨HB.out.os, HB.out.tape, HB.out.output, HB.out.size, HB.out.block⟩
    generalize w2.drew = u0 at *
    have hOl := O.lt
    have hW0 := HB.out.size
    refine takeB 0 rfl (by kernel_rfl) (fun _ _ _ h => h) (by rfl) (by intro w' hg; exact exec_load_ob rfl rfl (O.below hg hOl)) ?_
    refine takeB 1 rfl (by kernel_rfl) (fun _ _ _ h => h) (by rfl) (by intro w' hg; go_simp; try with_reducible rfl) ?_
    refine takeB 3 rfl (by kernel_rfl) (fun _ _ _ h => h) (by rfl) (by intro w' hg; go_simp; try with_reducible rfl) ?_
    refine takeB 6 rfl (by kernel_rfl) (fun _ _ _ h => h) (by rfl) (by intro w' hg; go_simp; try with_reducible rfl) ?_
    refine takeB 10 rfl (by kernel_rfl) (fun _ _ _ h => h) (by rfl) (by intro w' hg; go_simp; try with_reducible rfl) ?_
    go_simp
    refine takeB 7 (v := .agg (oc (Ob.dev 5 n))) rfl (by kernel_rfl) (fun _ _ _ h => h) (by rfl) (by intro w' hg; exact exec_build rfl (vs := [(0, .int .u64 5), (1, .int .i64 9), (13, .int .i64 n)]) (by go_simp) (built_dev _ _)) ?_
    go_simp
    refine onlyB 2 rfl (by kernel_rfl) (by rfl) ?_
    intro K hK
    go_simp
    refine (refDvNew_any id _).mono ?_
    rintro e ua ⟨rfl, hba⟩
    replace HB := hide (HB.out.trans (hba.mono HB.out.size))
    refine hK _ _ hba ?_
    have hua := hba.size
    clear hK K hba hOl O
    go_simp
    refine onlyB 4 rfl (by kernel_rfl) (by rfl) ?_
    intro K hK
    go_simp
    refine (new_dice W.heap.size S q r bs _ (HBY.out.belowLe HB.out (Nat.le_refl _)) HB.out.size HQ.out).mono ?_
    rintro e u1 ⟨rfl, hD, hb1, hs1⟩
    have HD := hide hD
    have HB1 := hide (HB.out.trans (hb1.mono HB.out.size))
    refine hK _ _ (hb1.mono hua) ?_
    obtain ⟨d, hd⟩ : ∃ d, ua.heap.size = d := ⟨_, rfl⟩
    have hd0 : W.heap.size ≤ d := by omega
    rw [hd] at HD ⊢
    clear hK K hb1 hD HB HBY hs1
    go_simp
    refine onlyB 5 rfl (by kernel_rfl) (by rfl) ?_
    intro K hK
    go_simp
    refine (object_dice d d _ HD.out).mono ?_
    rintro e u2 ⟨o3, rfl, hO3, hD3, hB3⟩
    have HB2 := hide (HB1.out.trans (hB3.below HB1.out.size (by omega)))
    have hb2 := hB3.below (C := u0.heap.size) (by have := HD.out.lt; omega) (by omega)
    refine hK _ _ hb2 ?_
    have hs12 := hB3.size
    clear hK K hB3 HB1 hO3 hD3
    go_simp
    refine onlyB 8 rfl (by kernel_rfl) (by rfl) ?_
    intro K hK
    refine wp_yield (exec_slice4 rfl rfl rfl rfl rfl) ?_
    have hdl := HD.out.lt
    have hu2 := hb2.size
    refine hK _ _ ((Below.refl _ _).alloc (by omega) _) ?_
    clear hK K
    have OT := Obl.make u2 41 (four o (Ob.dev id 0) o3 (Ob.dev 5 n)).toArray
    have HB3 := hide (HB2.out.alloc HB2.out.size (.cells (four o (Ob.dev id 0) o3 (Ob.dev 5 n)).toArray 41))
    obtain ⟨u3, hu3⟩ : ∃ u3, u2.alloc (.cells (four o (Ob.dev id 0) o3 (Ob.dev 5 n)).toArray 41) = u3 := ⟨_, rfl⟩
    rw [hu3] at OT HB3 ⊢
    generalize u2.heap.size = gs at *
    clear hu3 HD hdl hu2 hs12 HB2 hb2 hW0 hd0 hd hua
    obtain ⟨yb, hyb⟩ : ∃ yb, Ob.dev id 0 = yb := ⟨_, rfl⟩
    obtain ⟨yd, hyd⟩ : ∃ yd, Ob.dev 5 n = yd := ⟨_, rfl⟩
    rw [hyb, hyd] at OT
    rw [hyb, hyd]
    clear hyb hyd
    go_simp
    refine takeB 9 rfl (by kernel_rfl) (fun _ _ _ h => h) (by rfl) (by intro w' hg; go_simp; try with_reducible rfl) ?_
    refine doneB (by kernel_rfl) ?_
    go_simp
    go_wp2_with fail
    go_loopw [32] (fun s wr => ∃ k : Nat, s = .int .i64 (k : Int) ∧ k ≤ 4 ∧ Obl wr gs 41 (four o yb o3 yd).toArray ∧ Hid (Below W.heap.size W wr)) (fun s _ => 4 - (intOf s).toNat)
    case atStart => exact ⟨0, rfl, by omega, OT, HB3⟩
    case round =>
      clear OT HB3
      obtain ⟨k, rfl, hk, OT, HB⟩ := hrel
      by_cases hlt : k < 4
      · have hlt' : (k : Int) < 4 := by omega
        obtain ⟨x, hx⟩ : ∃ x, [o, yb, o3, yd][k]? = some x := ⟨[o, yb, o3, yd][k], List.getElem?_eq_getElem hlt⟩
        obtain ⟨w5, hw5, m, hm, w6, hw6, OZ, O, hb6, hs6⟩ := laid_ob x wr
        go_wp2_with (first | (refine wpList_val (by rfl) (exec_load_four rfl rfl OT hx) ?_) | (refine store_ob rfl _ _ rfl rfl (c := x) rfl OZ rfl ?_; rw [hw6]) | (refine load_ob rfl _ rfl rfl O ?_) | fail)
        replace OT := OT.below hb6 OT.lt
        replace HB := hide (HB.out.trans (hb6.mono HB.out.size))
        clear hb6 hs6 OZ hw6 hw5 hm hx
        refine (dvDo_ans x n _).mono ?_
        rintro e v1 ⟨xa, rfl, LA, hv1⟩
        have hLa := hide LA
        clear LA
        replace OT := OT.below hv1 OT.lt
        replace O := O.below hv1 O.lt
        replace HB := hide (HB.out.trans ((hv1).mono HB.out.size))
        clear hv1
        obtain ⟨a1, hwa0, ab, hma, a2, hwa, OZa, PA, hba2, hsa2⟩ := laid_ob xa v1
        replace OT := OT.below hba2 OT.lt
        replace O := O.below hba2 O.lt
        replace HB := hide (HB.out.trans ((hba2).mono HB.out.size))
        clear hba2
        obtain ⟨re, hre⟩ : ∃ re, x.dvErr = re := ⟨_, rfl⟩
        obtain ⟨rc, hrc⟩ : ∃ rc, ifOk re x.count = rc := ⟨_, rfl⟩
        rw [hre, hrc]
        go_wp2_with (first | (refine store_ob rfl _ _ rfl rfl (c := xa) rfl OZa rfl ?_; rw [hwa]) | (refine load_ob rfl _ rfl rfl O ?_) | fail)
        clear OZa hwa hwa0 hma hsa2
        refine (refDvDo_ans x n _).mono ?_
        rintro e v2 ⟨xb, rfl, LB, hv2⟩
        have hLb := hide LB
        clear LB
        replace OT := OT.below hv2 OT.lt
        replace O := O.below hv2 O.lt
        replace HB := hide (HB.out.trans ((hv2).mono HB.out.size))
        replace PA := PA.below hv2 PA.lt
        clear hv2
        obtain ⟨b1, hwb0, bb, hmb, b2, hwb, OZb, PB, hbb2, hsb2⟩ := laid_ob xb v2
        replace OT := OT.below hbb2 OT.lt
        replace O := O.below hbb2 O.lt
        replace HB := hide (HB.out.trans ((hbb2).mono HB.out.size))
        replace PA := PA.below hbb2 PA.lt
        clear hbb2
        rw [hre, hrc]
        clear hre hrc
        go_upto_region 10 with (first | (refine store_ob rfl _ _ rfl rfl (c := xb) rfl OZb rfl ?_; rw [hwb]) | fail)
        clear OZb hwb hwb0 hmb hsb2
        obtain ⟨bv, hbv⟩ : ∃ bv, decide x.Dev = bv := ⟨_, rfl⟩
        refine region_B (by kernel_rfl) b2.drew.heap.size ?_
        replace O : Obl b2.drew m 41 (oc x) := O
        have lO := O.lt
        replace PA : Obl b2.drew ab 41 (oc xa) := PA
        have lPA := PA.lt
        replace PB : Obl b2.drew bb 41 (oc xb) := PB
        have lPB := PB.lt
        replace OT : Obl b2.drew gs 41 (four o yb o3 yd).toArray := OT
        replace HB : Hid (Below W.heap.size W b2.drew) := hide ⟨HB.out.os, HB.out.tape, HB.out.output, HB.out.size, HB.out.block⟩
        generalize b2.drew = z0 at *
        refine takeB 0 rfl (by kernel_rfl) (fun _ _ _ h => h) (by rfl) (by intro w' hg; go_simp; try with_reducible rfl) ?_
        refine takeB 1 rfl (by kernel_rfl) (fun _ _ _ h => h) (by rfl) (by intro w' hg; go_simp; try with_reducible rfl) ?_
        go_simp
        refine takeB 2 rfl (by kernel_rfl) (fun _ _ _ h => h) (by rfl) (by intro w' hg; go_simp; try with_reducible rfl) ?_
        go_simp
        refine takeB 3 rfl (by kernel_rfl) (fun _ _ _ h => h) (by rfl) (by intro w' hg; go_simp; try with_reducible rfl) ?_
        go_simp
        refine takeB 4 rfl (by kernel_rfl) (fun _ _ _ h => h) (by kernel_rfl) (by intro w' hg; go_simp; try with_reducible rfl) ?_
        refine takeB 5 rfl (by kernel_rfl) (fun _ _ _ h => h) (by kernel_rfl) (by intro w' hg; go_simp; try with_reducible rfl) ?_
        go_simp
        refine takeB 6 rfl (by kernel_rfl) (fun _ _ _ h => h) (by kernel_rfl) (by intro w' hg; go_simp; try with_reducible rfl) ?_
        go_simp
        refine takeB 7 rfl (by kernel_rfl) (fun _ _ _ h => h) (by rfl) (by intro w' hg; go_simp; try with_reducible rfl) ?_
        go_simp
        refine takeB 8 rfl (by kernel_rfl) (fun _ _ _ h => h) (by rfl) (by intro w' hg; go_simp; try with_reducible rfl) ?_
        go_simp
        refine takeB 9 rfl (by kernel_rfl) (fun _ _ _ h => h) (by kernel_rfl) (by intro w' hg; exact exec_load_ob rfl rfl (PA.below hg lPA)) ?_
        refine takeB 10 rfl (by kernel_rfl) (fun _ _ _ h => h) (by kernel_rfl) (by intro w' hg; exact exec_load_ob rfl rfl (PB.below hg lPB)) ?_
        go_simp
        refine onlyB 11 rfl (by kernel_rfl) (by kernel_rfl) ?_
        intro K hK
        go_simp
        refine (same_smlike hLa.out hLb.out _).mono ?_
        rintro e z1 ⟨rfl, hz1⟩
        refine hK _ _ (hz1.mono (by omega)) ?_
        clear hK K
        have hs_z1 := hz1.size
        replace OT := OT.below hz1 OT.lt
        replace HB := hide (HB.out.trans (hz1.mono HB.out.size))
        replace O := O.below hz1 O.lt
        clear hz1
        go_simp
        refine takeB 12 rfl (by kernel_rfl) (fun _ _ _ h => h) (by kernel_rfl) (by intro w' hg; go_simp; try with_reducible rfl) ?_
        go_simp
        refine takeB 13 rfl (by kernel_rfl) (fun _ _ _ h => h) (by rfl) (by intro w' hg; go_simp; try with_reducible rfl) ?_
        go_simp
        refine takeB 14 rfl (by kernel_rfl) (fun _ _ _ h => h) (by rfl) (by intro w' hg; go_simp; try with_reducible rfl) ?_
        go_simp
        refine takeB 15 rfl (by kernel_rfl) (fun _ _ _ h => h) (by kernel_rfl) (by intro w' hg; exact exec_load_ob rfl rfl (O.below hg lO)) ?_
        refine takeB 17 rfl (by kernel_rfl) (fun _ _ _ h => h) (by kernel_rfl) (by intro w' hg; exact exec_load_ob rfl rfl (O.below hg lO)) ?_
        go_simp
        refine onlyB 16 rfl (by kernel_rfl) (by kernel_rfl) ?_
        intro K hK
        go_simp
        refine (dvValid_any x _).mono ?_
        rintro e z3 ⟨rfl, hz3⟩
        refine hK _ _ (hz3.mono (by omega)) ?_
        clear hK K
        have hs_z3 := hz3.size
        replace OT := OT.below hz3 OT.lt
        replace HB := hide (HB.out.trans (hz3.mono HB.out.size))
        replace O := O.below hz3 O.lt
        clear hz3
        rw [hbv]
        go_simp
        refine onlyB 18 rfl (by kernel_rfl) (by kernel_rfl) ?_
        intro K hK
        go_simp
        refine (refDvValid_any x _).mono ?_
        rintro e z4 ⟨rfl, hz4⟩
        refine hK _ _ (hz4.mono (by omega)) ?_
        clear hK K
        have hs_z4 := hz4.size
        replace OT := OT.below hz4 OT.lt
        replace HB := hide (HB.out.trans (hz4.mono HB.out.size))
        replace O := O.below hz4 O.lt
        clear hz4
        rw [hbv]
        go_simp
        refine takeB 19 rfl (by kernel_rfl) (fun _ _ _ h => h) (by kernel_rfl) (by intro w' hg; go_simp; try with_reducible rfl) ?_
        go_simp
        refine takeB 20 rfl (by kernel_rfl) (fun _ _ _ h => h) (by rfl) (by intro w' hg; go_simp; try with_reducible rfl) ?_
        go_simp
        refine doneB (by kernel_rfl) ?_
        go_simp
        clear hbv
        go_wp2_with fail
        go_roundw
        case rel => exact ⟨k + 1, by go_num, by omega, OT, HB⟩
        case measure => simp [intOf]; omega
      · obtain rfl : k = 4 := by omega
        go_wp2_with fail
        refine (dvNew_any id _).mono ?_
        rintro e x1 ⟨rfl, hx1⟩
        go_wp2_with fail
        refine (refDvNew_any id _).mono ?_
        rintro e x2 ⟨rfl, hx2⟩
        go_wp2_with fail
        refine (same_smlike (like_dev id 0) (like_dev id 0) _).mono ?_
        rintro e x3 ⟨rfl, hx3⟩
        go_wp2_with fail
        go_ret
        exact ⟨rfl, HB.out.trans ((hx1.trans ((hx2.trans (hx3.mono hx2.size)).mono hx1.size)).mono HB.out.size)⟩
end Go.Proofs.Ytddbohnappogkaa
