/- Layer 7: SpaceKeeps: the walk (written by tools/mkkeeps.py). -/
import Derived.Test.YtoppkgmgjahloaaSpReplace
import Derived.Test.YtoppkgmgjahloaaSpaceCounts
namespace Go.Proofs.Ytoppkgmgjahloaa
open Go.RowKit

theorem Sp.attach_cases (l : List Sp.Ref) (ids : List Int) : (∃ x, x ≠ 0 ∧ Sp.attach l ids = ([], 0, x)) ∨ (Sp.attach l ids = (l ++ Sp.shared ids, 16 * (l.length : Int), 0) ∧ Sp.Ok (l ++ Sp.shared ids)) := by
  unfold Sp.attach
  by_cases h : Sp.Ok l
  · by_cases h0 : ids.length = 0
    · exact .inl ⟨2, by decide, by rw [if_pos h, if_pos h0]⟩
    · by_cases h1 : 16 < l.length + ids.length
      · exact .inl ⟨3, by decide, by rw [if_pos h, if_neg h0, if_pos h1]⟩
      · by_cases h2 : Sp.Ok (l ++ Sp.shared ids)
        · exact .inr ⟨by rw [if_pos h, if_neg h0, if_neg h1, if_pos h2], h2⟩
        · exact .inl ⟨1, by decide, by rw [if_pos h, if_neg h0, if_neg h1, if_neg h2]⟩
  · exact .inl ⟨1, by decide, by rw [if_neg h]⟩
theorem Sp.replace_cases {l : List Sp.Ref} (h : Sp.Ok l) {ids : List Int} (h0 : ids.length = (Sp.priv l).length) : Sp.replace l ids = (Sp.swap l ids, 0) ∨ Sp.replace l ids = ([], 1) := by
  by_cases h2 : Sp.Ok (Sp.swap l ids)
  · exact .inl (Sp.replace_ok h h0 h2)
  · exact .inr (Sp.replace_not h h0 h2)
theorem Sp.find_left {l : List Sp.Ref} {ids : List Int} (h : Sp.Ok (l ++ Sp.shared ids)) {a p r : Nat} (hp : p < l.length) (ep : p = a / 16) (er : r = a % 16) : Sp.find (l ++ Sp.shared ids) (a : Int) = (l[p].id, (r : Int), 0) := by
  subst ep er
  rw [Sp.find_at h (by rw [List.length_append]; omega), List.getElem_append_left hp]
theorem Sp.find_right {l : List Sp.Ref} {ids : List Int} (h : Sp.Ok (l ++ Sp.shared ids)) {k r : Nat} (hk : k < ids.length) (hr : r < 16) {z : Int} (hz : z = ((16 * (l.length + k) + r : Nat) : Int)) : Sp.find (l ++ Sp.shared ids) z = (ids[k], (r : Int), 0) := by
  subst hz
  have e1 : (16 * (l.length + k) + r) / 16 = l.length + k := by omega
  have e2 : (16 * (l.length + k) + r) % 16 = r := by omega
  rw [Sp.find_at h (by rw [List.length_append, Sp.shared_length]; omega), e2]
  have e3 : ((l ++ Sp.shared ids)[(16 * (l.length + k) + r) / 16]'(by rw [List.length_append, Sp.shared_length]; omega)) = ⟨ids[k], true⟩ := by
    simp only [e1]
    rw [List.getElem_append_right (by omega)]
    simp [Sp.shared]
  rw [e3]
theorem AttachPost.got {r : List Sp.Ref × Int × Int} {w w' : World} {e : Ending} {L : List Sp.Ref} {m : Nat} {a x : Int} (h : AttachPost r w e w') (hr : r = (L, a, x)) (hm : L.length = m) : ∃ A c, e = .returned (.tuple #[.slice A m c, .int .i64 a, .int .i64 x]) ∧ Refs w' w'.heap.size A m L ∧ (m ≤ c ∧ c ≤ 9223372036854775807) ∧ Below w.heap.size w w' := by
  subst hr hm
  exact h
theorem ReplacePost.got {r : List Sp.Ref × Int} {w w' : World} {e : Ending} {L : List Sp.Ref} {m : Nat} {x : Int} (h : ReplacePost r w e w') (hr : r = (L, x)) (hm : L.length = m) : ∃ A c, e = .returned (.tuple #[.slice A m c, .int .i64 x]) ∧ Refs w' w'.heap.size A m L ∧ (m ≤ c ∧ c ≤ 9223372036854775807) ∧ Below w.heap.size w w' := by
  subst hr hm
  exact h
set_option maxRecDepth 100000 in
set_option maxHeartbeats 32000000 in
theorem spaceKeeps_any (S : Option Addr) (qs r' : Nat) (bs : List UInt8) (I : Option Addr) (q cq : Nat) (ids : List Int) (a : Nat) (ha : a < 256) (W : World) (h : Bytes W W.heap.size S qs bs) (hqs : qs ≤ r' ∧ r' ≤ 9223372036854775807) (hI : Nums .u64 W W.heap.size I q ids) (hcq : q ≤ cq ∧ cq ≤ 9223372036854775807) :
    Calls Try.prog 5 #[.slice S qs r', .slice I q cq, .int .u8 a] W (BoolPost true W) := by
  have HS := hide h
  have HI := hide hI
  have hli := hI.len
  have hq' : (q : Int) ≤ 9223372036854775807 := by omega
  obtain ⟨r, hr⟩ : ∃ r, r = a % 16 := ⟨_, rfl⟩
  obtain ⟨d3, d4⟩ := mod16 a hr
  have hr16 : r < 16 := by omega
  have HRm := hide hr
  clear h hI hr
  go_enter Try.func5, Try.ntmps5
  go_wp2_with fail
  refine (sane_any _).mono ?_
  rintro e w1 ⟨rfl, hb1⟩
  have HS1 := hide (HS.out.belowLe hb1 (Nat.le_refl _))
  have HB1 := hide hb1
  have hW1 := hb1.size
  clear hb1 HS
  go_wp2_with fail
  refine (made_any S qs r' bs _ (HS1.out.mono hW1) hqs).mono ?_
  rintro e w2 ⟨A, n, c, l, rfl, hR, hnc, hok, hb2⟩
  have HR := hide hR
  have HK := hide hok
  have hl := hR.len
  have h16 : n ≤ 16 := by have := hok.1; omega
  have HB2 := hide (HB1.out.trans (hb2.mono hW1))
  clear hR hok hb2 HS1 HB1
  by_cases hq16 : 16 < q
  · have hq16' : (16 : Int) < (q : Int) := by omega
    go_wp2_with fail
    go_ret
    exact ⟨rfl, HB2.out⟩
  have hq16' : ¬ (16 : Int) < (q : Int) := by omega
  go_wp2_with fail
  refine (attach_any l ids A I n c q cq _ HR.out hnc ((HI.out.below HB2.out).mono HB2.out.size) (by omega)).mono ?_
  intro e w3 hp
  rcases Sp.attach_cases l ids with ⟨x, hx0, hat⟩ | ⟨hat, hoky⟩
  · obtain ⟨A3, c3, rfl, _, _, hb3⟩ := hp.got hat rfl
    have HB3 := hide (HB2.out.trans (hb3.mono HB2.out.size))
    have e0 : (x == 0) = false := by simpa using hx0
    have e1 : (x != 0) = true := by simpa using hx0
    clear hp hat hb3 hx0
    go_wp2_with fail
    go_ret
    exact ⟨rfl, HB3.out⟩
  obtain ⟨t, ht⟩ : ∃ t : Nat, t = 16 * n := ⟨_, rfl⟩
  have HT := hide ht
  have ht256 : t ≤ 256 := by omega
  rw [hl, show 16 * (n : Int) = (t : Int) by omega] at hat
  obtain ⟨L, hL⟩ : ∃ L, l ++ Sp.shared ids = L := ⟨_, rfl⟩
  have HL := hide hL
  obtain ⟨m, hm⟩ : ∃ m, n + q = m := ⟨_, rfl⟩
  have HM := hide hm
  have hLm : L.length = m := by rw [← hL, List.length_append, Sp.shared_length]; omega
  rw [hL] at hat hoky
  obtain ⟨Y, cy, rfl, hRy, hcy, hb3⟩ := hp.got hat hLm
  have HKy := hide hoky
  have hm16 : m ≤ 16 := by have := hoky.1; omega
  have HRx := hide (HR.out.later hb3)
  have HRy := hide hRy
  have HLm := hide hLm
  have HB3 := hide (HB2.out.trans (hb3.mono HB2.out.size))
  clear hp hat hb3 hRy hoky hL hm ht HR HB2 hLm
  go_wp2_with fail
  refine (find_any l A n c (a : Int) _ HRx.out hnc).mono ?_
  intro e w4 hp
  obtain ⟨fi, fw, fe, hf⟩ : ∃ x y z, Sp.find L (a : Int) = (x, y, z) := ⟨_, _, _, rfl⟩
  have HFy := hide hf
  have hcase : (∃ i w : Int, Sp.find l (a : Int) = (i, w, 0) ∧ fi = i ∧ fw = w ∧ fe = 0) ∨ Sp.find l (a : Int) = (0, 0, 11) := by
    rcases Sp.find_cases HK.out a with ⟨pa, ra', hpa, epa, era, _, hfa⟩ | ⟨_, hfa⟩
    · refine .inl ⟨_, _, hfa, ?_⟩
      have h1 := Sp.find_left (l := l) (ids := ids) (by rw [HL.out]; exact HKy.out) hpa epa era
      rw [HL.out, hf] at h1
      simp only [Prod.mk.injEq] at h1
      exact h1
    · exact .inr hfa
  clear hf
  rcases hcase with ⟨i, w', hfa, rfl, rfl, rfl⟩ | hfa
  · obtain ⟨rfl, hb4⟩ := hp.got hfa
    have HRy4 := hide (HRy.out.later hb4)
    have HB4 := hide (HB3.out.trans (hb4.mono HB3.out.size))
    clear hp hb4 hfa HRx HRy HB3
    go_wp2_with fail
    refine (find_any L Y m cy (a : Int) _ HRy4.out hcy).mono ?_
    intro e w5 hp
    obtain ⟨rfl, hb5⟩ := hp.got HFy.out
    have HRy5 := hide (HRy4.out.later hb5)
    have HB5 := hide (HB4.out.trans (hb5.mono HB4.out.size))
    have e1 : (fi == fi) = true := by simp
    have e2 : (fw == fw) = true := by simp
    clear hp hb5 HFy HRy4 HB4
    go_wp2_with fail
    go_loopw [85] (fun s85 wr => ∃ k : Nat, s85 = .int .i64 (k : Int) ∧ k ≤ q ∧ Hid (Refs wr wr.heap.size Y m L) ∧ Hid (Below W.heap.size W wr)) (fun s85 _ => q - (intOf s85).toNat)
    case atStart => exact ⟨0, rfl, by omega, HRy5, HB5⟩
    case round =>
      clear HRy5 HB5
      obtain ⟨k, rfl, hk, HRy, HB⟩ := hrel
      by_cases hlt : k < q
      · have hlt' : (k : Int) < (q : Int) := by omega
        obtain ⟨b, o, hkl, rfl, hb, c0⟩ := (HI.out.below HB.out).at_ hlt
        have HF : Hid (∀ z : Int, z = (t : Int) + (k : Int) * 16 + (r : Int) → Sp.find L z = (ids[k], (r : Int), 0)) := hide (fun z hz => by
          rw [← HL.out]
          exact Sp.find_right (by rw [HL.out]; exact HKy.out) hkl hr16 (by rw [hz]; have := HT.out; omega))
        obtain ⟨x, hx⟩ : ∃ x, ids[k] = x := ⟨_, rfl⟩
        rw [hx] at c0 HF
        clear hx
        have hk16 : (k : Int) < 16 := by omega
        go_wp2_with fail
        refine (find_any L Y m cy _ _ HRy.out hcy).mono ?_
        intro e w6 hp
        obtain ⟨rfl, hb6⟩ := hp.got (HF.out _ (by first | rfl | omega))
        have HRy6 := hide (HRy.out.later hb6)
        have HB6 := hide (HB.out.trans (hb6.mono HB.out.size))
        have e1 : (x == x) = true := by simp
        have e2 : ((r : Int) == (r : Int)) = true := by simp
        clear hp hb6 HRy HB c0
        go_wp2_with fail
        go_roundw
        case rel => exact ⟨k + 1, by go_num, by omega, HRy6, HB6⟩
        case measure => simp [intOf]; omega
      · obtain rfl : k = q := by omega
        have HPr := hide (Sp.private_ok HKy.out)
        obtain ⟨P, hP⟩ : ∃ P, Sp.priv L = P := ⟨_, rfl⟩
        have HP := hide hP
        obtain ⟨v, hv⟩ : ∃ v, P.length = v := ⟨_, rfl⟩
        have HV := hide hv
        have hv16 : v ≤ 16 := by have h1 := Sp.priv_length_le L; have h2 := HLm.out; rw [hP] at h1; omega
        rw [hP] at HPr
        clear hP hv
        go_wp2_with fail
        refine (private_any L Y m cy _ HRy.out hcy).mono ?_
        intro e w7 hp
        obtain ⟨A7, c7, rfl, hb7⟩ := hp.got HPr.out HV.out
        have HRy7 := hide (HRy.out.later hb7)
        have HB7 := hide (HB.out.trans (hb7.mono HB.out.size))
        clear hp hb7 HRy HB
        go_wp2_with fail
        obtain ⟨u, hu⟩ : ∃ u, w7.heap.size = u := ⟨_, rfl⟩
        have HU := hide hu
        have HWu := hide (show W.heap.size ≤ u by have := HB7.out.size; omega)
        have HX0 : Hid (Below u w7 w7) := hide (Below.refl _ _)
        clear hu
        go_loopw [23, 120] (fun s23 s120 wr => ∃ (k c : Nat) (O : Option Addr) (G : List Int), s120 = .int .i64 (k : Int) ∧ s23 = .slice O k c ∧ k ≤ v ∧ Hid (wr.ownsRow u 28 1 (.slice O k c) k (nv .u64 G)) ∧ Hid (Below u w7 wr)) (fun _ s120 _ => v - (intOf s120).toNat)
        case atStart => exact ⟨0, 0, none, [], rfl, rfl, by omega, hide own_none, HX0⟩
        case round =>
          clear HX0
          obtain ⟨j, c', O, G, rfl, rfl, hj, HO, HX⟩ := hrel
          by_cases hjlt : j < v
          · have hjlt' : (j : Int) < (v : Int) := by omega
            have hj16 : (j : Int) < 16 := by omega
            have hu : u ≤ wr.heap.size := by have := HX.out.size; have := HU.out; omega
            go_wp2_with (first | (at_builtin; refine wpList_append_rd rfl _ _ _ rfl idTy (base := u) rfl (HO.out.alloc (.cells #[.int .u64 (1152921504606846976 + (j : Int))] 28)) rfl (Row.new wr (.int .u64 (1152921504606846976 + (j : Int))) 28) (by simp [Value.oneCell']) (by unfold maxLen; omega) (by omega) (by simp; omega) ?_; intro A8 c8 w8 hown8 hg8 _; have HX8 := hide (below_own (HX.out.alloc hu _) (HO.out.alloc _) hg8 (by simp; omega)); rw [nv_snoc] at hown8; have HO8 := hide hown8; clear hown8 hg8 HO HX) | fail)
            go_roundw
            case rel => exact ⟨j + 1, c8, A8, _, by go_num, rfl, by omega, HO8, HX8⟩
            case measure => simp [intOf]; omega
          · obtain rfl : j = v := by omega
            have HRyr := hide (show Refs wr wr.heap.size Y m L from ((HRy7.out.belowLe HX.out (by have := HU.out; omega)).mono HX.out.size))
            have HBr := hide (HB7.out.trans (HX.out.mono HWu.out))
            have HG := hide (show G.length = (Sp.priv L).length by have h1 := own_nums HO.out; rw [HP.out]; have h2 := HV.out; omega)
            have HNr := hide (Nums.of_own HO.out)
            have HCr := hide (show j ≤ c' ∧ c' ≤ 9223372036854775807 from ⟨own_cap HO.out, own_cap63 HO.out⟩)
            clear HRy7 HB7 HX HO
            go_wp2_with fail
            refine (replace_any L G Y O m cy j c' _ HRyr.out hcy HNr.out HCr.out).mono ?_
            intro e w8 hp
            rcases Sp.replace_cases HKy.out HG.out with hrep | hrep
            · obtain ⟨Z, cz, rfl, hRz, hcz, hb8⟩ := hp.got (m := m) hrep (by rw [Sp.swap_length]; exact HLm.out)
              have HRz := hide hRz
              have HRy8 := hide (HRyr.out.later hb8)
              have HB8 := hide (HBr.out.trans (hb8.mono HBr.out.size))
              clear hp hrep hRz hb8 HRyr HNr HBr
              go_wp2_with fail
              go_loopw [155] (fun s155 wr => ∃ k : Nat, s155 = .int .i64 (k : Int) ∧ k ≤ m ∧ Hid (Refs wr wr.heap.size Z m (Sp.swap L G)) ∧ Hid (Refs wr wr.heap.size Y m L) ∧ Hid (Below W.heap.size W wr)) (fun s155 _ => m - (intOf s155).toNat)
              case atStart => exact ⟨0, rfl, by omega, HRz, HRy8, HB8⟩
              case round =>
                clear HRz HRy8 HB8
                obtain ⟨k, rfl, hk, HRz, HRy, HB⟩ := hrel
                by_cases hklt : k < m
                · have hklt' : (k : Int) < (m : Int) := by omega
                  obtain ⟨bz, oz, hkz, rfl, hbz, z0, z1⟩ := HRz.out.at_ hklt
                  obtain ⟨by', oy, hky, rfl, hby, y0, y1⟩ := HRy.out.at_ hklt
                  obtain ⟨hs1, hs2⟩ := Sp.swap_getElem L G hky
                  obtain ⟨x, hx⟩ : ∃ x, (Sp.swap L G)[k] = x := ⟨_, rfl⟩
                  obtain ⟨y, hy⟩ : ∃ y, L[k] = y := ⟨_, rfl⟩
                  have HRz2 := hide (show Refs wr.drew wr.drew.heap.size _ m _ from HRz.out)
                  have HRy2 := hide (show Refs wr.drew wr.drew.heap.size _ m _ from HRy.out)
                  have HB2 := hide (show Below W.heap.size W wr.drew from HB.out.drew)
                  rw [hx] at z0 z1
                  rw [hy] at y0 y1
                  rw [hx, hy] at hs1 hs2
                  clear hx hy HRz HRy HB
                  cases hsh : y.sh with
                  | true =>
                    obtain rfl := hs2 hsh
                    rw [hsh] at z1 y1
                    have ei : (x.id == x.id) = true := by simp
                    clear hs1 hs2 hsh
                    go_wp2_with fail
                    refine region_B (by kernel_rfl) wr.heap.size ?_
                    refine takeB 0 rfl (by kernel_rfl) (fun _ _ _ h => h) (by rfl) (by intro w' hg; go_simp; try with_reducible rfl) ?_
                    refine takeB 1 rfl (by kernel_rfl) (fun _ _ _ h => h) (by rfl) (by intro w' hg; go_simp; try with_reducible rfl) ?_
                    refine takeB 2 rfl (by kernel_rfl) (fun _ _ _ h => h) (by rfl) (by intro w' hg; go_simp; try with_reducible rfl) ?_
                    refine takeB 3 rfl (by kernel_rfl) (fun _ _ _ h => h) (by rfl) (by intro w' hg; go_simp; try with_reducible rfl) ?_
                    refine takeB 4 rfl (by kernel_rfl) (fun _ _ _ h => h) (by rfl) (by intro w' hg; have g0 := (hg.cell (p := ⟨bz, oz + k * 2 + 1, none⟩) hbz).trans (show wr.drew.cell? _ = _ from z1); go_simp; try with_reducible rfl) ?_
                    refine takeB 5 rfl (by kernel_rfl) (fun _ _ _ h => h) (by rfl) (by intro w' hg; go_simp; try with_reducible rfl) ?_
                    refine takeB 6 rfl (by kernel_rfl) (fun _ _ _ h => h) (by rfl) (by intro w' hg; go_simp; try with_reducible rfl) ?_
                    refine takeB 7 rfl (by kernel_rfl) (fun _ _ _ h => h) (by rfl) (by intro w' hg; go_simp; try with_reducible rfl) ?_
                    refine takeB 8 rfl (by kernel_rfl) (fun _ _ _ h => h) (by rfl) (by intro w' hg; go_simp; try with_reducible rfl) ?_
                    refine takeB 9 rfl (by kernel_rfl) (fun _ _ _ h => h) (by rfl) (by intro w' hg; have g0 := (hg.cell (p := ⟨by', oy + k * 2 + 1, none⟩) hby).trans (show wr.drew.cell? _ = _ from y1); go_simp; try with_reducible rfl) ?_
                    refine takeB 10 rfl (by kernel_rfl) (fun _ _ _ h => h) (by rfl) (by intro w' hg; go_simp; try with_reducible rfl) ?_
                    refine takeB 11 rfl (by kernel_rfl) (fun _ _ _ h => h) (by rfl) (by intro w' hg; go_simp; try with_reducible rfl) ?_
                    refine takeB 12 rfl (by kernel_rfl) (fun _ _ _ h => h) (by kernel_rfl) (by intro w' hg; go_simp; try with_reducible rfl) ?_
                    refine takeB 13 rfl (by kernel_rfl) (fun _ _ _ h => h) (by kernel_rfl) (by intro w' hg; go_simp; try with_reducible rfl) ?_
                    refine takeB 14 rfl (by kernel_rfl) (fun _ _ _ h => h) (by kernel_rfl) (by intro w' hg; go_simp; try with_reducible rfl) ?_
                    refine takeB 15 rfl (by kernel_rfl) (fun _ _ _ h => h) (by kernel_rfl) (by intro w' hg; go_simp; try with_reducible rfl) ?_
                    refine takeB 16 rfl (by kernel_rfl) (fun _ _ _ h => h) (by kernel_rfl) (by intro w' hg; have g0 := (hg.cell (p := ⟨by', oy + k * 2 + 1, none⟩) hby).trans (show wr.drew.cell? _ = _ from y1); go_simp; try with_reducible rfl) ?_
                    refine takeB 17 rfl (by kernel_rfl) (fun _ _ _ h => h) (by kernel_rfl) (by intro w' hg; go_simp; try with_reducible rfl) ?_
                    refine takeB 18 rfl (by kernel_rfl) (fun _ _ _ h => h) (by kernel_rfl) (by intro w' hg; go_simp; try with_reducible rfl) ?_
                    refine takeB 19 rfl (by kernel_rfl) (fun _ _ _ h => h) (by kernel_rfl) (by intro w' hg; go_simp; try with_reducible rfl) ?_
                    refine takeB 20 rfl (by kernel_rfl) (fun _ _ _ h => h) (by kernel_rfl) (by intro w' hg; go_simp; try with_reducible rfl) ?_
                    refine takeB 21 rfl (by kernel_rfl) (fun _ _ _ h => h) (by kernel_rfl) (by intro w' hg; go_simp; try with_reducible rfl) ?_
                    refine takeB 22 rfl (by kernel_rfl) (fun _ _ _ h => h) (by kernel_rfl) (by intro w' hg; have g0 := (hg.cell (p := ⟨bz, oz + k * 2, none⟩) hbz).trans (show wr.drew.cell? _ = _ from z0); go_simp; try with_reducible rfl) ?_
                    refine takeB 23 rfl (by kernel_rfl) (fun _ _ _ h => h) (by kernel_rfl) (by intro w' hg; go_simp; try with_reducible rfl) ?_
                    refine takeB 24 rfl (by kernel_rfl) (fun _ _ _ h => h) (by kernel_rfl) (by intro w' hg; go_simp; try with_reducible rfl) ?_
                    refine takeB 25 rfl (by kernel_rfl) (fun _ _ _ h => h) (by kernel_rfl) (by intro w' hg; go_simp; try with_reducible rfl) ?_
                    refine takeB 26 rfl (by kernel_rfl) (fun _ _ _ h => h) (by kernel_rfl) (by intro w' hg; go_simp; try with_reducible rfl) ?_
                    refine takeB 27 rfl (by kernel_rfl) (fun _ _ _ h => h) (by kernel_rfl) (by intro w' hg; have g0 := (hg.cell (p := ⟨by', oy + k * 2, none⟩) hby).trans (show wr.drew.cell? _ = _ from y0); go_simp; try with_reducible rfl) ?_
                    refine takeB 28 rfl (by kernel_rfl) (fun _ _ _ h => h) (by kernel_rfl) (by intro w' hg; go_simp; try with_reducible rfl) ?_
                    refine takeB 29 rfl (by kernel_rfl) (fun _ _ _ h => h) (by kernel_rfl) (by intro w' hg; go_simp; try with_reducible rfl) ?_
                    refine takeB 30 rfl (by kernel_rfl) (fun _ _ _ h => h) (by kernel_rfl) (by intro w' hg; go_simp; try with_reducible rfl) ?_
                    refine doneB (by kernel_rfl) ?_
                    go_simp
                    go_wp2
                    go_roundw
                    case rel => exact ⟨k + 1, by go_num, by omega, HRz2, HRy2, HB2⟩
                    case measure => simp [intOf]; omega
                  | false =>
                    rw [hs1, hsh] at z1
                    rw [hsh] at y1
                    clear hs1 hs2 hsh
                    go_wp2_with fail
                    refine region_B (by kernel_rfl) wr.heap.size ?_
                    refine takeB 0 rfl (by kernel_rfl) (fun _ _ _ h => h) (by rfl) (by intro w' hg; go_simp; try with_reducible rfl) ?_
                    refine takeB 1 rfl (by kernel_rfl) (fun _ _ _ h => h) (by rfl) (by intro w' hg; go_simp; try with_reducible rfl) ?_
                    refine takeB 2 rfl (by kernel_rfl) (fun _ _ _ h => h) (by rfl) (by intro w' hg; go_simp; try with_reducible rfl) ?_
                    refine takeB 3 rfl (by kernel_rfl) (fun _ _ _ h => h) (by rfl) (by intro w' hg; go_simp; try with_reducible rfl) ?_
                    refine takeB 4 rfl (by kernel_rfl) (fun _ _ _ h => h) (by rfl) (by intro w' hg; have g0 := (hg.cell (p := ⟨bz, oz + k * 2 + 1, none⟩) hbz).trans (show wr.drew.cell? _ = _ from z1); go_simp; try with_reducible rfl) ?_
                    refine takeB 5 rfl (by kernel_rfl) (fun _ _ _ h => h) (by rfl) (by intro w' hg; go_simp; try with_reducible rfl) ?_
                    refine takeB 6 rfl (by kernel_rfl) (fun _ _ _ h => h) (by rfl) (by intro w' hg; go_simp; try with_reducible rfl) ?_
                    refine takeB 7 rfl (by kernel_rfl) (fun _ _ _ h => h) (by rfl) (by intro w' hg; go_simp; try with_reducible rfl) ?_
                    refine takeB 8 rfl (by kernel_rfl) (fun _ _ _ h => h) (by rfl) (by intro w' hg; go_simp; try with_reducible rfl) ?_
                    refine takeB 9 rfl (by kernel_rfl) (fun _ _ _ h => h) (by rfl) (by intro w' hg; have g0 := (hg.cell (p := ⟨by', oy + k * 2 + 1, none⟩) hby).trans (show wr.drew.cell? _ = _ from y1); go_simp; try with_reducible rfl) ?_
                    refine takeB 10 rfl (by kernel_rfl) (fun _ _ _ h => h) (by rfl) (by intro w' hg; go_simp; try with_reducible rfl) ?_
                    refine takeB 11 rfl (by kernel_rfl) (fun _ _ _ h => h) (by rfl) (by intro w' hg; go_simp; try with_reducible rfl) ?_
                    refine takeB 12 rfl (by kernel_rfl) (fun _ _ _ h => h) (by kernel_rfl) (by intro w' hg; go_simp; try with_reducible rfl) ?_
                    refine takeB 13 rfl (by kernel_rfl) (fun _ _ _ h => h) (by kernel_rfl) (by intro w' hg; go_simp; try with_reducible rfl) ?_
                    refine takeB 14 rfl (by kernel_rfl) (fun _ _ _ h => h) (by kernel_rfl) (by intro w' hg; go_simp; try with_reducible rfl) ?_
                    refine takeB 15 rfl (by kernel_rfl) (fun _ _ _ h => h) (by kernel_rfl) (by intro w' hg; go_simp; try with_reducible rfl) ?_
                    refine takeB 16 rfl (by kernel_rfl) (fun _ _ _ h => h) (by kernel_rfl) (by intro w' hg; have g0 := (hg.cell (p := ⟨by', oy + k * 2 + 1, none⟩) hby).trans (show wr.drew.cell? _ = _ from y1); go_simp; try with_reducible rfl) ?_
                    refine takeB 17 rfl (by kernel_rfl) (fun _ _ _ h => h) (by kernel_rfl) (by intro w' hg; go_simp; try with_reducible rfl) ?_
                    refine skipB 18 rfl (by kernel_rfl) (fun _ _ _ h => h) (by kernel_rfl) ?_
                    refine skipB 19 rfl (by kernel_rfl) (fun _ _ _ h => h) (by kernel_rfl) ?_
                    refine skipB 20 rfl (by kernel_rfl) (fun _ _ _ h => h) (by kernel_rfl) ?_
                    refine skipB 21 rfl (by kernel_rfl) (fun _ _ _ h => h) (by kernel_rfl) ?_
                    refine skipB 22 rfl (by kernel_rfl) (fun _ _ _ h => h) (by kernel_rfl) ?_
                    refine skipB 23 rfl (by kernel_rfl) (fun _ _ _ h => h) (by kernel_rfl) ?_
                    refine skipB 24 rfl (by kernel_rfl) (fun _ _ _ h => h) (by kernel_rfl) ?_
                    refine skipB 25 rfl (by kernel_rfl) (fun _ _ _ h => h) (by kernel_rfl) ?_
                    refine skipB 26 rfl (by kernel_rfl) (fun _ _ _ h => h) (by kernel_rfl) ?_
                    refine skipB 27 rfl (by kernel_rfl) (fun _ _ _ h => h) (by kernel_rfl) ?_
                    refine skipB 28 rfl (by kernel_rfl) (fun _ _ _ h => h) (by kernel_rfl) ?_
                    refine takeB 29 rfl (by kernel_rfl) (fun _ _ _ h => h) (by kernel_rfl) (by intro w' hg; go_simp; try with_reducible rfl) ?_
                    refine takeB 30 rfl (by kernel_rfl) (fun _ _ _ h => h) (by kernel_rfl) (by intro w' hg; go_simp; try with_reducible rfl) ?_
                    refine doneB (by kernel_rfl) ?_
                    go_simp
                    go_wp2
                    go_roundw
                    case rel => exact ⟨k + 1, by go_num, by omega, HRz2, HRy2, HB2⟩
                    case measure => simp [intOf]; omega
                · obtain rfl : k = m := by omega
                  go_wp2_with fail
                  go_ret
                  exact ⟨rfl, HB.out⟩
            · obtain ⟨Z, cz, rfl, hRz, hcz, hb8⟩ := hp.got (m := 0) hrep rfl
              have HB8 := hide (HBr.out.trans (hb8.mono HBr.out.size))
              clear hp hrep hRz hb8 HRyr HNr HBr
              go_wp2_with fail
              go_loop [155] (fun s155 => s155 = .int .i64 0) (fun _ => 0)
              case atStart => rfl
              case round =>
                subst hrel
                go_wp2_with fail
                go_ret
                exact ⟨rfl, HB8.out⟩
  · obtain ⟨rfl, hb4⟩ := hp.got hfa
    have HRy4 := hide (HRy.out.later hb4)
    have HB4 := hide (HB3.out.trans (hb4.mono HB3.out.size))
    clear hp hb4 hfa HRx HRy HB3
    go_wp2_with fail
    refine (find_any L Y m cy (a : Int) _ HRy4.out hcy).mono ?_
    intro e w5 hp
    obtain ⟨rfl, hb5⟩ := hp.got HFy.out
    have HRy5 := hide (HRy4.out.later hb5)
    have HB5 := hide (HB4.out.trans (hb5.mono HB4.out.size))
    clear hp hb5 HFy HRy4 HB4
    go_wp2_with fail
    go_loopw [85] (fun s85 wr => ∃ k : Nat, s85 = .int .i64 (k : Int) ∧ k ≤ q ∧ Hid (Refs wr wr.heap.size Y m L) ∧ Hid (Below W.heap.size W wr)) (fun s85 _ => q - (intOf s85).toNat)
    case atStart => exact ⟨0, rfl, by omega, HRy5, HB5⟩
    case round =>
      clear HRy5 HB5
      obtain ⟨k, rfl, hk, HRy, HB⟩ := hrel
      by_cases hlt : k < q
      · have hlt' : (k : Int) < (q : Int) := by omega
        obtain ⟨b, o, hkl, rfl, hb, c0⟩ := (HI.out.below HB.out).at_ hlt
        have HF : Hid (∀ z : Int, z = (t : Int) + (k : Int) * 16 + (r : Int) → Sp.find L z = (ids[k], (r : Int), 0)) := hide (fun z hz => by
          rw [← HL.out]
          exact Sp.find_right (by rw [HL.out]; exact HKy.out) hkl hr16 (by rw [hz]; have := HT.out; omega))
        obtain ⟨x, hx⟩ : ∃ x, ids[k] = x := ⟨_, rfl⟩
        rw [hx] at c0 HF
        clear hx
        have hk16 : (k : Int) < 16 := by omega
        go_wp2_with fail
        refine (find_any L Y m cy _ _ HRy.out hcy).mono ?_
        intro e w6 hp
        obtain ⟨rfl, hb6⟩ := hp.got (HF.out _ (by first | rfl | omega))
        have HRy6 := hide (HRy.out.later hb6)
        have HB6 := hide (HB.out.trans (hb6.mono HB.out.size))
        have e1 : (x == x) = true := by simp
        have e2 : ((r : Int) == (r : Int)) = true := by simp
        clear hp hb6 HRy HB c0
        go_wp2_with fail
        go_roundw
        case rel => exact ⟨k + 1, by go_num, by omega, HRy6, HB6⟩
        case measure => simp [intOf]; omega
      · obtain rfl : k = q := by omega
        have HPr := hide (Sp.private_ok HKy.out)
        obtain ⟨P, hP⟩ : ∃ P, Sp.priv L = P := ⟨_, rfl⟩
        have HP := hide hP
        obtain ⟨v, hv⟩ : ∃ v, P.length = v := ⟨_, rfl⟩
        have HV := hide hv
        have hv16 : v ≤ 16 := by have h1 := Sp.priv_length_le L; have h2 := HLm.out; rw [hP] at h1; omega
        rw [hP] at HPr
        clear hP hv
        go_wp2_with fail
        refine (private_any L Y m cy _ HRy.out hcy).mono ?_
        intro e w7 hp
        obtain ⟨A7, c7, rfl, hb7⟩ := hp.got HPr.out HV.out
        have HRy7 := hide (HRy.out.later hb7)
        have HB7 := hide (HB.out.trans (hb7.mono HB.out.size))
        clear hp hb7 HRy HB
        go_wp2_with fail
        obtain ⟨u, hu⟩ : ∃ u, w7.heap.size = u := ⟨_, rfl⟩
        have HU := hide hu
        have HWu := hide (show W.heap.size ≤ u by have := HB7.out.size; omega)
        have HX0 : Hid (Below u w7 w7) := hide (Below.refl _ _)
        clear hu
        go_loopw [23, 120] (fun s23 s120 wr => ∃ (k c : Nat) (O : Option Addr) (G : List Int), s120 = .int .i64 (k : Int) ∧ s23 = .slice O k c ∧ k ≤ v ∧ Hid (wr.ownsRow u 28 1 (.slice O k c) k (nv .u64 G)) ∧ Hid (Below u w7 wr)) (fun _ s120 _ => v - (intOf s120).toNat)
        case atStart => exact ⟨0, 0, none, [], rfl, rfl, by omega, hide own_none, HX0⟩
        case round =>
          clear HX0
          obtain ⟨j, c', O, G, rfl, rfl, hj, HO, HX⟩ := hrel
          by_cases hjlt : j < v
          · have hjlt' : (j : Int) < (v : Int) := by omega
            have hj16 : (j : Int) < 16 := by omega
            have hu : u ≤ wr.heap.size := by have := HX.out.size; have := HU.out; omega
            go_wp2_with (first | (at_builtin; refine wpList_append_rd rfl _ _ _ rfl idTy (base := u) rfl (HO.out.alloc (.cells #[.int .u64 (1152921504606846976 + (j : Int))] 28)) rfl (Row.new wr (.int .u64 (1152921504606846976 + (j : Int))) 28) (by simp [Value.oneCell']) (by unfold maxLen; omega) (by omega) (by simp; omega) ?_; intro A8 c8 w8 hown8 hg8 _; have HX8 := hide (below_own (HX.out.alloc hu _) (HO.out.alloc _) hg8 (by simp; omega)); rw [nv_snoc] at hown8; have HO8 := hide hown8; clear hown8 hg8 HO HX) | fail)
            go_roundw
            case rel => exact ⟨j + 1, c8, A8, _, by go_num, rfl, by omega, HO8, HX8⟩
            case measure => simp [intOf]; omega
          · obtain rfl : j = v := by omega
            have HRyr := hide (show Refs wr wr.heap.size Y m L from ((HRy7.out.belowLe HX.out (by have := HU.out; omega)).mono HX.out.size))
            have HBr := hide (HB7.out.trans (HX.out.mono HWu.out))
            have HG := hide (show G.length = (Sp.priv L).length by have h1 := own_nums HO.out; rw [HP.out]; have h2 := HV.out; omega)
            have HNr := hide (Nums.of_own HO.out)
            have HCr := hide (show j ≤ c' ∧ c' ≤ 9223372036854775807 from ⟨own_cap HO.out, own_cap63 HO.out⟩)
            clear HRy7 HB7 HX HO
            go_wp2_with fail
            refine (replace_any L G Y O m cy j c' _ HRyr.out hcy HNr.out HCr.out).mono ?_
            intro e w8 hp
            rcases Sp.replace_cases HKy.out HG.out with hrep | hrep
            · obtain ⟨Z, cz, rfl, hRz, hcz, hb8⟩ := hp.got (m := m) hrep (by rw [Sp.swap_length]; exact HLm.out)
              have HRz := hide hRz
              have HRy8 := hide (HRyr.out.later hb8)
              have HB8 := hide (HBr.out.trans (hb8.mono HBr.out.size))
              clear hp hrep hRz hb8 HRyr HNr HBr
              go_wp2_with fail
              go_loopw [155] (fun s155 wr => ∃ k : Nat, s155 = .int .i64 (k : Int) ∧ k ≤ m ∧ Hid (Refs wr wr.heap.size Z m (Sp.swap L G)) ∧ Hid (Refs wr wr.heap.size Y m L) ∧ Hid (Below W.heap.size W wr)) (fun s155 _ => m - (intOf s155).toNat)
              case atStart => exact ⟨0, rfl, by omega, HRz, HRy8, HB8⟩
              case round =>
                clear HRz HRy8 HB8
                obtain ⟨k, rfl, hk, HRz, HRy, HB⟩ := hrel
                by_cases hklt : k < m
                · have hklt' : (k : Int) < (m : Int) := by omega
                  obtain ⟨bz, oz, hkz, rfl, hbz, z0, z1⟩ := HRz.out.at_ hklt
                  obtain ⟨by', oy, hky, rfl, hby, y0, y1⟩ := HRy.out.at_ hklt
                  obtain ⟨hs1, hs2⟩ := Sp.swap_getElem L G hky
                  obtain ⟨x, hx⟩ : ∃ x, (Sp.swap L G)[k] = x := ⟨_, rfl⟩
                  obtain ⟨y, hy⟩ : ∃ y, L[k] = y := ⟨_, rfl⟩
                  have HRz2 := hide (show Refs wr.drew wr.drew.heap.size _ m _ from HRz.out)
                  have HRy2 := hide (show Refs wr.drew wr.drew.heap.size _ m _ from HRy.out)
                  have HB2 := hide (show Below W.heap.size W wr.drew from HB.out.drew)
                  rw [hx] at z0 z1
                  rw [hy] at y0 y1
                  rw [hx, hy] at hs1 hs2
                  clear hx hy HRz HRy HB
                  cases hsh : y.sh with
                  | true =>
                    obtain rfl := hs2 hsh
                    rw [hsh] at z1 y1
                    have ei : (x.id == x.id) = true := by simp
                    clear hs1 hs2 hsh
                    go_wp2_with fail
                    refine region_B (by kernel_rfl) wr.heap.size ?_
                    refine takeB 0 rfl (by kernel_rfl) (fun _ _ _ h => h) (by rfl) (by intro w' hg; go_simp; try with_reducible rfl) ?_
                    refine takeB 1 rfl (by kernel_rfl) (fun _ _ _ h => h) (by rfl) (by intro w' hg; go_simp; try with_reducible rfl) ?_
                    refine takeB 2 rfl (by kernel_rfl) (fun _ _ _ h => h) (by rfl) (by intro w' hg; go_simp; try with_reducible rfl) ?_
                    refine takeB 3 rfl (by kernel_rfl) (fun _ _ _ h => h) (by rfl) (by intro w' hg; go_simp; try with_reducible rfl) ?_
                    refine takeB 4 rfl (by kernel_rfl) (fun _ _ _ h => h) (by rfl) (by intro w' hg; have g0 := (hg.cell (p := ⟨bz, oz + k * 2 + 1, none⟩) hbz).trans (show wr.drew.cell? _ = _ from z1); go_simp; try with_reducible rfl) ?_
                    refine takeB 5 rfl (by kernel_rfl) (fun _ _ _ h => h) (by rfl) (by intro w' hg; go_simp; try with_reducible rfl) ?_
                    refine takeB 6 rfl (by kernel_rfl) (fun _ _ _ h => h) (by rfl) (by intro w' hg; go_simp; try with_reducible rfl) ?_
                    refine takeB 7 rfl (by kernel_rfl) (fun _ _ _ h => h) (by rfl) (by intro w' hg; go_simp; try with_reducible rfl) ?_
                    refine takeB 8 rfl (by kernel_rfl) (fun _ _ _ h => h) (by rfl) (by intro w' hg; go_simp; try with_reducible rfl) ?_
                    refine takeB 9 rfl (by kernel_rfl) (fun _ _ _ h => h) (by rfl) (by intro w' hg; have g0 := (hg.cell (p := ⟨by', oy + k * 2 + 1, none⟩) hby).trans (show wr.drew.cell? _ = _ from y1); go_simp; try with_reducible rfl) ?_
                    refine takeB 10 rfl (by kernel_rfl) (fun _ _ _ h => h) (by rfl) (by intro w' hg; go_simp; try with_reducible rfl) ?_
                    refine takeB 11 rfl (by kernel_rfl) (fun _ _ _ h => h) (by rfl) (by intro w' hg; go_simp; try with_reducible rfl) ?_
                    refine takeB 12 rfl (by kernel_rfl) (fun _ _ _ h => h) (by kernel_rfl) (by intro w' hg; go_simp; try with_reducible rfl) ?_
                    refine takeB 13 rfl (by kernel_rfl) (fun _ _ _ h => h) (by kernel_rfl) (by intro w' hg; go_simp; try with_reducible rfl) ?_
                    refine takeB 14 rfl (by kernel_rfl) (fun _ _ _ h => h) (by kernel_rfl) (by intro w' hg; go_simp; try with_reducible rfl) ?_
                    refine takeB 15 rfl (by kernel_rfl) (fun _ _ _ h => h) (by kernel_rfl) (by intro w' hg; go_simp; try with_reducible rfl) ?_
                    refine takeB 16 rfl (by kernel_rfl) (fun _ _ _ h => h) (by kernel_rfl) (by intro w' hg; have g0 := (hg.cell (p := ⟨by', oy + k * 2 + 1, none⟩) hby).trans (show wr.drew.cell? _ = _ from y1); go_simp; try with_reducible rfl) ?_
                    refine takeB 17 rfl (by kernel_rfl) (fun _ _ _ h => h) (by kernel_rfl) (by intro w' hg; go_simp; try with_reducible rfl) ?_
                    refine takeB 18 rfl (by kernel_rfl) (fun _ _ _ h => h) (by kernel_rfl) (by intro w' hg; go_simp; try with_reducible rfl) ?_
                    refine takeB 19 rfl (by kernel_rfl) (fun _ _ _ h => h) (by kernel_rfl) (by intro w' hg; go_simp; try with_reducible rfl) ?_
                    refine takeB 20 rfl (by kernel_rfl) (fun _ _ _ h => h) (by kernel_rfl) (by intro w' hg; go_simp; try with_reducible rfl) ?_
                    refine takeB 21 rfl (by kernel_rfl) (fun _ _ _ h => h) (by kernel_rfl) (by intro w' hg; go_simp; try with_reducible rfl) ?_
                    refine takeB 22 rfl (by kernel_rfl) (fun _ _ _ h => h) (by kernel_rfl) (by intro w' hg; have g0 := (hg.cell (p := ⟨bz, oz + k * 2, none⟩) hbz).trans (show wr.drew.cell? _ = _ from z0); go_simp; try with_reducible rfl) ?_
                    refine takeB 23 rfl (by kernel_rfl) (fun _ _ _ h => h) (by kernel_rfl) (by intro w' hg; go_simp; try with_reducible rfl) ?_
                    refine takeB 24 rfl (by kernel_rfl) (fun _ _ _ h => h) (by kernel_rfl) (by intro w' hg; go_simp; try with_reducible rfl) ?_
                    refine takeB 25 rfl (by kernel_rfl) (fun _ _ _ h => h) (by kernel_rfl) (by intro w' hg; go_simp; try with_reducible rfl) ?_
                    refine takeB 26 rfl (by kernel_rfl) (fun _ _ _ h => h) (by kernel_rfl) (by intro w' hg; go_simp; try with_reducible rfl) ?_
                    refine takeB 27 rfl (by kernel_rfl) (fun _ _ _ h => h) (by kernel_rfl) (by intro w' hg; have g0 := (hg.cell (p := ⟨by', oy + k * 2, none⟩) hby).trans (show wr.drew.cell? _ = _ from y0); go_simp; try with_reducible rfl) ?_
                    refine takeB 28 rfl (by kernel_rfl) (fun _ _ _ h => h) (by kernel_rfl) (by intro w' hg; go_simp; try with_reducible rfl) ?_
                    refine takeB 29 rfl (by kernel_rfl) (fun _ _ _ h => h) (by kernel_rfl) (by intro w' hg; go_simp; try with_reducible rfl) ?_
                    refine takeB 30 rfl (by kernel_rfl) (fun _ _ _ h => h) (by kernel_rfl) (by intro w' hg; go_simp; try with_reducible rfl) ?_
                    refine doneB (by kernel_rfl) ?_
                    go_simp
                    go_wp2
                    go_roundw
                    case rel => exact ⟨k + 1, by go_num, by omega, HRz2, HRy2, HB2⟩
                    case measure => simp [intOf]; omega
                  | false =>
                    rw [hs1, hsh] at z1
                    rw [hsh] at y1
                    clear hs1 hs2 hsh
                    go_wp2_with fail
                    refine region_B (by kernel_rfl) wr.heap.size ?_
                    refine takeB 0 rfl (by kernel_rfl) (fun _ _ _ h => h) (by rfl) (by intro w' hg; go_simp; try with_reducible rfl) ?_
                    refine takeB 1 rfl (by kernel_rfl) (fun _ _ _ h => h) (by rfl) (by intro w' hg; go_simp; try with_reducible rfl) ?_
                    refine takeB 2 rfl (by kernel_rfl) (fun _ _ _ h => h) (by rfl) (by intro w' hg; go_simp; try with_reducible rfl) ?_
                    refine takeB 3 rfl (by kernel_rfl) (fun _ _ _ h => h) (by rfl) (by intro w' hg; go_simp; try with_reducible rfl) ?_
                    refine takeB 4 rfl (by kernel_rfl) (fun _ _ _ h => h) (by rfl) (by intro w' hg; have g0 := (hg.cell (p := ⟨bz, oz + k * 2 + 1, none⟩) hbz).trans (show wr.drew.cell? _ = _ from z1); go_simp; try with_reducible rfl) ?_
                    refine takeB 5 rfl (by kernel_rfl) (fun _ _ _ h => h) (by rfl) (by intro w' hg; go_simp; try with_reducible rfl) ?_
                    refine takeB 6 rfl (by kernel_rfl) (fun _ _ _ h => h) (by rfl) (by intro w' hg; go_simp; try with_reducible rfl) ?_
                    refine takeB 7 rfl (by kernel_rfl) (fun _ _ _ h => h) (by rfl) (by intro w' hg; go_simp; try with_reducible rfl) ?_
                    refine takeB 8 rfl (by kernel_rfl) (fun _ _ _ h => h) (by rfl) (by intro w' hg; go_simp; try with_reducible rfl) ?_
                    refine takeB 9 rfl (by kernel_rfl) (fun _ _ _ h => h) (by rfl) (by intro w' hg; have g0 := (hg.cell (p := ⟨by', oy + k * 2 + 1, none⟩) hby).trans (show wr.drew.cell? _ = _ from y1); go_simp; try with_reducible rfl) ?_
                    refine takeB 10 rfl (by kernel_rfl) (fun _ _ _ h => h) (by rfl) (by intro w' hg; go_simp; try with_reducible rfl) ?_
                    refine takeB 11 rfl (by kernel_rfl) (fun _ _ _ h => h) (by rfl) (by intro w' hg; go_simp; try with_reducible rfl) ?_
                    refine takeB 12 rfl (by kernel_rfl) (fun _ _ _ h => h) (by kernel_rfl) (by intro w' hg; go_simp; try with_reducible rfl) ?_
                    refine takeB 13 rfl (by kernel_rfl) (fun _ _ _ h => h) (by kernel_rfl) (by intro w' hg; go_simp; try with_reducible rfl) ?_
                    refine takeB 14 rfl (by kernel_rfl) (fun _ _ _ h => h) (by kernel_rfl) (by intro w' hg; go_simp; try with_reducible rfl) ?_
                    refine takeB 15 rfl (by kernel_rfl) (fun _ _ _ h => h) (by kernel_rfl) (by intro w' hg; go_simp; try with_reducible rfl) ?_
                    refine takeB 16 rfl (by kernel_rfl) (fun _ _ _ h => h) (by kernel_rfl) (by intro w' hg; have g0 := (hg.cell (p := ⟨by', oy + k * 2 + 1, none⟩) hby).trans (show wr.drew.cell? _ = _ from y1); go_simp; try with_reducible rfl) ?_
                    refine takeB 17 rfl (by kernel_rfl) (fun _ _ _ h => h) (by kernel_rfl) (by intro w' hg; go_simp; try with_reducible rfl) ?_
                    refine skipB 18 rfl (by kernel_rfl) (fun _ _ _ h => h) (by kernel_rfl) ?_
                    refine skipB 19 rfl (by kernel_rfl) (fun _ _ _ h => h) (by kernel_rfl) ?_
                    refine skipB 20 rfl (by kernel_rfl) (fun _ _ _ h => h) (by kernel_rfl) ?_
                    refine skipB 21 rfl (by kernel_rfl) (fun _ _ _ h => h) (by kernel_rfl) ?_
                    refine skipB 22 rfl (by kernel_rfl) (fun _ _ _ h => h) (by kernel_rfl) ?_
                    refine skipB 23 rfl (by kernel_rfl) (fun _ _ _ h => h) (by kernel_rfl) ?_
                    refine skipB 24 rfl (by kernel_rfl) (fun _ _ _ h => h) (by kernel_rfl) ?_
                    refine skipB 25 rfl (by kernel_rfl) (fun _ _ _ h => h) (by kernel_rfl) ?_
                    refine skipB 26 rfl (by kernel_rfl) (fun _ _ _ h => h) (by kernel_rfl) ?_
                    refine skipB 27 rfl (by kernel_rfl) (fun _ _ _ h => h) (by kernel_rfl) ?_
                    refine skipB 28 rfl (by kernel_rfl) (fun _ _ _ h => h) (by kernel_rfl) ?_
                    refine takeB 29 rfl (by kernel_rfl) (fun _ _ _ h => h) (by kernel_rfl) (by intro w' hg; go_simp; try with_reducible rfl) ?_
                    refine takeB 30 rfl (by kernel_rfl) (fun _ _ _ h => h) (by kernel_rfl) (by intro w' hg; go_simp; try with_reducible rfl) ?_
                    refine doneB (by kernel_rfl) ?_
                    go_simp
                    go_wp2
                    go_roundw
                    case rel => exact ⟨k + 1, by go_num, by omega, HRz2, HRy2, HB2⟩
                    case measure => simp [intOf]; omega
                · obtain rfl : k = m := by omega
                  go_wp2_with fail
                  go_ret
                  exact ⟨rfl, HB.out⟩
            · obtain ⟨Z, cz, rfl, hRz, hcz, hb8⟩ := hp.got (m := 0) hrep rfl
              have HB8 := hide (HBr.out.trans (hb8.mono HBr.out.size))
              clear hp hrep hRz hb8 HRyr HNr HBr
              go_wp2_with fail
              go_loop [155] (fun s155 => s155 = .int .i64 0) (fun _ => 0)
              case atStart => rfl
              case round =>
                subst hrel
                go_wp2_with fail
                go_ret
                exact ⟨rfl, HB8.out⟩
end Go.Proofs.Ytoppkgmgjahloaa
