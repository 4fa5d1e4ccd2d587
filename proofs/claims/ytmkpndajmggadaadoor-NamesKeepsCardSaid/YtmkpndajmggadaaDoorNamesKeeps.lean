/- Layer 9: what was added and renamed is found (NamesKeeps): the walk. -/
import Derived.Test.YtmkpndajmggadaaDoorNxKeeps0
import Derived.Test.YtmkpndajmggadaaDoorNmMade
import Derived.Deep.QuietTactic
import Derived.BigQuiet
namespace Go.Proofs.YtmkpndajmggadaaDoor
open Go.RowKit

theorem path_cell {w : World} {g : Nat} {t : TypeId} (h : Obl w g t (sv pathsL).toArray) {k : Nat} (hk : k < 8) : w.cell? ⟨g, k, none⟩ = some (.string ⟨(pathsL.getD k []).toArray⟩) := by
  have hl : k < pathsL.length := hk
  rw [h.cell, List.getElem?_toArray, sv_at hl, List.getD_eq_getElem?_getD, List.getElem?_eq_getElem hl]
  rfl
theorem path_known (k : Nat) (hk : k < 8) : (pathsL.getD k []) ∈ pathsL := by
  have hl : k < pathsL.length := hk
  rw [List.getD_eq_getElem?_getD, List.getElem?_eq_getElem hl]
  exact List.getElem_mem hl
set_option maxRecDepth 100000 in
set_option maxHeartbeats 16000000 in
theorem namesKeeps_any (S : Option Addr) (q r : Nat) (l : List UInt8) (a b c : Nat) (ha : a < 256) (hb : b < 256) (hc : c < 256) (W : World) (h : Bytes W W.heap.size S q l) (hq : q ≤ r ∧ r ≤ 9223372036854775807) (HM0 : Mx W) :
    Calls Tryd.prog 5 #[.slice S q r, .int .u8 (a : Int), .int .u8 (b : Int), .int .u8 (c : Int)] W (BoolPost true W) := by
  have HS := hide h
  have HM := hide HM0
  clear h HM0
  go_enter Tryd.func5, Tryd.ntmps5
  try dsimp only [List.append]
  go_wp2_with fail
  refine (nxSane_any _ HM.out).mono ?_
  rintro e w1 ⟨rfl, hb1⟩
  have HS1 := hide (HS.out.belowLe hb1 (Nat.le_refl _))
  have HB1 := hide hb1
  have hW1 := hb1.size
  clear hb1 HS
  go_wp2_with fail
  refine (new_dice W.heap.size S q r l _ HS1.out hW1 hq).mono ?_
  rintro e w2 ⟨rfl, hD, hb2, hs2⟩
  have HB2 := hide (HB1.out.trans (hb2.mono hW1))
  have HD2 := hide hD
  obtain ⟨d, hd⟩ : ∃ d, w1.heap.size = d := ⟨_, rfl⟩
  have hdW : W.heap.size ≤ d := by omega
  rw [hd] at HD2 ⊢
  clear hb2 HS1 HB1 hD hW1 hs2 hd
  go_wp2_with fail
  refine (names_thrown d d _ HD2.out).mono ?_
  rintro e w3 ⟨A0, n0, c0, l0, E, rfl, hn0, M, hsp, hkn, _, hB⟩
  have hb3 : Below W.heap.size W w3 := HB2.out.trans (hB.below HB2.out.size hdW)
  obtain ⟨w4, hw4, m0, hm0, w5, hw5, OZ, OM, hb5, hs5⟩ := laid_ob (Ob.dir ⟨A0, n0, c0⟩) w3
  have hEl : E.length = n0 := by have := M.has.1; have := own_nmv M.own.1; omega
  have D0 := hide (M.laid OM hb5 hsp (by omega))
  have HB5 := hide (hb3.trans (hb5.mono hb3.size))
  have HSP := hide hsp
  have HKN := hide hkn
  have HEL := hide hEl
  have hB0 : w3.heap.size ≤ w5.heap.size := hb5.size
  clear hb3 hb5 M hB HB2 HD2 hsp hkn hEl
  go_wp2_with (first | (refine store_ob rfl _ _ rfl rfl (c := Ob.dir ⟨A0, n0, c0⟩) rfl OZ rfl ?_; rw [hw5]) | fail)
  clear OZ hw4 hw5 hm0 hs5
  generalize w3.heap.size = B0 at *
  refine (paths_any _).mono ?_
  rintro e w6 ⟨g, rfl, _, hO, hb6⟩
  replace D0 := hide (D0.out.below hb6)
  replace HB5 := hide (HB5.out.trans (hb6.mono HB5.out.size))
  replace hB0 : B0 ≤ w6.heap.size := Nat.le_trans hB0 hb6.size
  have hca := path_cell hO (k := a % 8) (by omega)
  have hcb := path_cell hO (k := b % 8) (by omega)
  have hcc := path_cell hO (k := c % 8) (by omega)
  have hkc := path_known (c % 8) (by omega)
  obtain ⟨sp, hsp⟩ : ∃ sp : ByteArray, (⟨(pathsL.getD (a % 8) []).toArray⟩ : ByteArray) = sp := ⟨_, rfl⟩
  obtain ⟨sq, hsq⟩ : ∃ sq : ByteArray, (⟨(pathsL.getD (b % 8) []).toArray⟩ : ByteArray) = sq := ⟨_, rfl⟩
  obtain ⟨st, hst⟩ : ∃ st : ByteArray, (⟨(pathsL.getD (c % 8) []).toArray⟩ : ByteArray) = st := ⟨_, rfl⟩
  have HKC : Hid (st.data.toList ∈ pathsL) := hide (by rw [← hst]; exact hkc)
  have HLQ : Hid (sq.size ≤ 9223372036854775807) := hide (by
    have : ∀ x ∈ pathsL, x.length ≤ 1000 := by decide
    rw [← hsq, ba_size]
    have := this _ (path_known (b % 8) (by omega))
    omega)
  have HLP : Hid (sp.size ≤ 9223372036854775807) := hide (by
    have : ∀ x ∈ pathsL, x.length ≤ 1000 := by decide
    rw [← hsp, ba_size]
    have := this _ (path_known (a % 8) (by omega))
    omega)
  rw [hsp] at hca
  rw [hsq] at hcb
  rw [hst] at hcc
  clear hO hb6 hkc hsp hsq hst
  go_wp2_with fail
  go_quiet (fail)
  have hdr : Below w6.heap.size w6 (w6.drewN nq) := ⟨rfl, rfl, rfl, Nat.le_refl _, fun _ _ => rfl⟩
  replace D0 := hide (D0.out.below hdr)
  replace HB5 := hide (HB5.out.trans (hdr.mono HB5.out.size))
  replace hB0 : B0 ≤ (w6.drewN nq).heap.size := hB0
  clear hca hcb hcc hdr
  generalize w6.drewN nq = w7 at *
  have D0o := D0.out.ob
  go_wp2_with (first | (refine load_ob rfl _ rfl rfl D0o ?_) | fail)
  have HF := hide (dirFind D0.out (HM.out.below HB5.out) sp)
  obtain ⟨r, hr⟩ : ∃ r, Nx.find E sp.data.toList = r := ⟨_, rfl⟩
  rw [hr] at HF
  have HR := hide hr
  refine HF.out.mono ?_
  clear HF hr
  rintro e w8 ⟨y6, rfl, hy6, hb8⟩
  obtain ⟨w9, hw9, g6, hg6, w10, hw10, OZ, ON, hb10, hs10⟩ := start_nm w8 y6
  have hg6B : B0 ≤ g6 := by have := hb8.size; omega
  have hg6W : W.heap.size ≤ g6 := by have := hb8.size; have := HB5.out.size; omega
  have N6 := hide (hy6.laid hg6 ON hb10)
  have hm0g : m0 < g6 := by have := D0o.lt; have := hb8.size; omega
  replace D0 := hide ((D0.out.below hb8).below (hg6.symm ▸ hb10))
  replace HB5 := hide ((HB5.out.trans (hb8.mono HB5.out.size)).trans (hb10.mono hg6W))
  clear hy6 hb8 hb10 ON D0o hs10 hB0
  have D0o := D0.out.ob
  go_wp2_with (first | (refine store_nm rfl _ _ rfl rfl (c := y6) rfl OZ rfl ?_; rw [hw10]) | (refine load_ob rfl _ rfl rfl D0o ?_) | fail)
  clear OZ hw9 hw10 hg6
  have HF := hide (dirRename D0.out (HM.out.below HB5.out) sp sq HLQ.out)
  obtain ⟨er, her⟩ : ∃ er, Nx.renErr E sp.data.toList sq.data.toList = er := ⟨_, rfl⟩
  rw [her] at HF
  have HER := hide her
  refine HF.out.mono ?_
  clear HF her
  rintro e w11 hd
  by_cases her0 : er = 0
  rotate_left
  · -- an error
    rcases hd with ⟨h0, _⟩ | ⟨_, rfl, hb11⟩
    · exact absurd h0 her0
    obtain ⟨w12, hw12, m1, hm1, w13, hw13, OZ, OX, hb13, hs13⟩ := laid_ob Ob.zero w11
    replace HB5 := hide ((HB5.out.trans (hb11.mono HB5.out.size)).trans (hb13.mono (by have := HB5.out.size; have := hb11.size; omega)))
    have ne0 : (er != 0) = true := by simpa using her0
    clear hb11 hb13 OX D0o her0
    cases r with
    | none =>
      obtain rfl : er = 6 := by rw [← HER.out]; unfold Nx.renErr; rw [HR.out]; rfl
      rw [show (none : Option Nx.Ent).isSome = false from rfl]
      go_wp2_with (first | (refine store_ob rfl _ _ rfl rfl (c := Ob.zero) rfl OZ rfl ?_; rw [hw13]) | fail)
      go_ret
      exact ⟨rfl, HB5.out⟩
    | some z =>
      rw [show (some z).isSome = true from rfl]
      by_cases hpq : Nx.Path sq.data.toList
      · obtain rfl : er = 7 := by
          have h1 := HER.out
          unfold Nx.renErr at h1
          rw [HR.out, show (some z).isSome = true from rfl, if_pos rfl, if_pos hpq] at h1
          split at h1
          · exact h1.symm
          · rw [← h1] at ne0; cases ne0
        clear hpq
        go_wp2_with (first | (refine store_ob rfl _ _ rfl rfl (c := Ob.zero) rfl OZ rfl ?_; rw [hw13]) | fail)
        go_ret
        exact ⟨rfl, HB5.out⟩
      · obtain rfl : er = 1 := by rw [← HER.out]; unfold Nx.renErr; rw [HR.out, show (some z).isSome = true from rfl, if_pos rfl, if_neg hpq]
        have HP := hide (nxPath_no sq hpq HLQ.out _ (HM.out.below HB5.out))
        clear hpq
        go_wp2_with (first | (refine store_ob rfl _ _ rfl rfl (c := Ob.zero) rfl OZ rfl ?_; rw [hw13]) | fail)
        go_at_call 19
        refine HP.out.mono ?_
        rintro e w14 ⟨rfl, hb14⟩
        replace HB5 := hide (HB5.out.trans (hb14.mono HB5.out.size))
        clear hb14
        go_wp2_with fail
        go_ret
        exact ⟨rfl, HB5.out⟩
  -- renamed
  subst her0
  obtain ⟨z, hz, hpq, hnq⟩ := Nx.renErr_0 HER.out
  have HKP := hide (Nx.keeps HSP.out hz hpq hnq)
  obtain rfl : r = some z := HR.out.symm.trans hz
  rw [show (some z).isSome = true from rfl]
  replace N6 : Hid (EntAt w10 g6 y6 z) := N6
  rw [HKP.out.2.2.2.2.2.2.1] at hd
  obtain ⟨A1, n1, c1, l1, rfl, hM1, hb11⟩ := hd.ok
  have hgl6 : g6 < w10.heap.size := N6.out.ob.lt
  obtain ⟨X, hX⟩ : ∃ X, Nx.moved E z sq.data.toList = X := ⟨_, rfl⟩
  rw [hX] at hM1 HKP
  have HZ := hide hz
  clear hz hpq hnq HER HR hX hd D0o
  obtain ⟨v1, hv1, m1, hm1, u1, hu1, OZ, OX, hb1', hs1⟩ := laid_ob (Ob.dir ⟨A1, n1, c1⟩) w11
  have D1 := hide (hM1.laid OX hb1' HKP.out.1 (by rw [HKP.out.2.1]; have := HEL.out; omega))
  have M1 := hide ((hM1.later hb1').weaken (base' := g6 + 1) (by have := hgl6; omega))
  have hm1g : g6 < m1 := by have := hgl6; have := hb11.size; omega
  replace D0 := hide (D0.out.below hb11)
  replace N6 := hide (N6.out.below hb11)
  replace HB5 := hide (HB5.out.trans (hb11.mono HB5.out.size))
  replace D0 := hide (D0.out.below hb1')
  replace N6 := hide (N6.out.below hb1')
  replace HB5 := hide (HB5.out.trans (hb1'.mono HB5.out.size))
  clear hM1 OX hb11 hb1' hs1
  have D1o := D1.out.ob
  have hgl6 : g6 < u1.heap.size := N6.out.ob.lt
  go_wp2_with (first | (refine store_ob rfl _ _ rfl rfl (c := Ob.dir ⟨A1, n1, c1⟩) rfl OZ rfl ?_; rw [hu1]) | (refine load_ob rfl _ rfl rfl D1o ?_) | fail)
  clear OZ hv1 hu1 hm1
  have HF := hide (dirRename D1.out (HM.out.below HB5.out) sq sp HLP.out)
  rw [HKP.out.2.2.1, HKP.out.2.2.2.1] at HF
  refine HF.out.mono ?_
  clear HF
  rintro e w14 hd
  obtain ⟨A2, n2, c2, l2, rfl, hM2, hb14⟩ := hd.ok
  clear hd D1o
  obtain ⟨v2, hv2, m2, hm2, u2, hu2, OZ, OX, hb2', hs2⟩ := laid_ob (Ob.dir ⟨A2, n2, c2⟩) w14
  have D2 := hide (hM2.laid OX hb2' HSP.out (by have := HEL.out; omega))
  have M2 := hide ((hM2.later hb2').weaken (base' := g6 + 1) (by have := hgl6; omega))
  have hm2g : g6 < m2 := by have := hgl6; have := hb14.size; omega
  replace D0 := hide (D0.out.below hb14)
  replace D1 := hide (D1.out.below hb14)
  replace N6 := hide (N6.out.below hb14)
  replace M1 := hide (M1.out.later hb14)
  replace HB5 := hide (HB5.out.trans (hb14.mono HB5.out.size))
  replace D0 := hide (D0.out.below hb2')
  replace D1 := hide (D1.out.below hb2')
  replace N6 := hide (N6.out.below hb2')
  replace M1 := hide (M1.out.later hb2')
  replace HB5 := hide (HB5.out.trans (hb2'.mono HB5.out.size))
  clear hM2 OX hb14 hb2' hs2
  have D1o := D1.out.ob
  go_wp2_with (first | (refine store_ob rfl _ _ rfl rfl (c := Ob.dir ⟨A2, n2, c2⟩) rfl OZ rfl ?_; rw [hu2]) | (refine load_ob rfl _ rfl rfl D1o ?_) | fail)
  clear OZ hv2 hu2 hm2
  have HF := hide (dirFind D1.out (HM.out.below HB5.out) sq)
  rw [HKP.out.2.2.2.2.1] at HF
  refine HF.out.mono ?_
  clear HF D1o
  rintro e x11 ⟨y11, rfl, hy11, hb11⟩
  obtain ⟨v11, hv11, g11, hg11, u11, hu11, OZ, ON, hb11', hs11⟩ := start_nm x11 y11
  have N11 := hide (hy11.laid hg11 ON hb11')
  have hg11g : g6 < g11 := by have := N6.out.ob.lt; have := hb11.size; omega
  have hxe11 := hg11.symm ▸ hb11'
  replace D0 := hide (D0.out.below hb11)
  replace D1 := hide (D1.out.below hb11)
  replace D2 := hide (D2.out.below hb11)
  replace N6 := hide (N6.out.below hb11)
  replace M1 := hide (M1.out.later hb11)
  replace M2 := hide (M2.out.later hb11)
  replace HB5 := hide (HB5.out.trans (hb11.mono HB5.out.size))
  replace D0 := hide (D0.out.below hxe11)
  replace D1 := hide (D1.out.below hxe11)
  replace D2 := hide (D2.out.below hxe11)
  replace N6 := hide (N6.out.below hxe11)
  replace M1 := hide (M1.out.later hxe11)
  replace M2 := hide (M2.out.later hxe11)
  replace HB5 := hide (HB5.out.trans (hxe11.mono HB5.out.size))
  clear hy11 ON hb11 hb11' hxe11 hs11
  have D1o := D1.out.ob
  go_wp2_with (first | (refine store_nm rfl _ _ rfl rfl (c := y11) rfl OZ rfl ?_; rw [hu11]) | (refine load_ob rfl _ rfl rfl D1o ?_) | fail)
  clear OZ hv11 hu11 hg11
  have HF := hide (dirFind D1.out (HM.out.below HB5.out) sp)
  rw [HKP.out.2.2.2.2.2.1] at HF
  refine HF.out.mono ?_
  clear HF D1o
  rintro e x12 ⟨y12, rfl, hy12, hb12⟩
  obtain ⟨v12, hv12, g12, hg12, u12, hu12, OZ, ON, hb12', hs12⟩ := start_nm x12 y12
  have N12 := hide (hy12.laid hg12 ON hb12')
  have hg12g : g6 < g12 := by have := N6.out.ob.lt; have := hb12.size; omega
  have hxe12 := hg12.symm ▸ hb12'
  replace D0 := hide (D0.out.below hb12)
  replace D1 := hide (D1.out.below hb12)
  replace D2 := hide (D2.out.below hb12)
  replace N6 := hide (N6.out.below hb12)
  replace N11 := hide (N11.out.below hb12)
  replace M1 := hide (M1.out.later hb12)
  replace M2 := hide (M2.out.later hb12)
  replace HB5 := hide (HB5.out.trans (hb12.mono HB5.out.size))
  replace D0 := hide (D0.out.below hxe12)
  replace D1 := hide (D1.out.below hxe12)
  replace D2 := hide (D2.out.below hxe12)
  replace N6 := hide (N6.out.below hxe12)
  replace N11 := hide (N11.out.below hxe12)
  replace M1 := hide (M1.out.later hxe12)
  replace M2 := hide (M2.out.later hxe12)
  replace HB5 := hide (HB5.out.trans (hxe12.mono HB5.out.size))
  clear hy12 ON hb12 hb12' hxe12 hs12
  obtain ⟨ro, hro⟩ : ∃ ro, Nx.find E st.data.toList = ro := ⟨_, rfl⟩
  obtain ⟨rx, hrx⟩ : ∃ rx, Nx.find X st.data.toList = rx := ⟨_, rfl⟩
  have HIO : Hid ((ro.getD Nx.ent0).ids.length ≤ 1000) := hide (by rw [← hro]; exact ids_short HSP.out)
  have HRO := hide hro
  have HRX := hide hrx
  have D1o := D0.out.ob
  go_wp2_with (first | (refine store_nm rfl _ _ rfl rfl (c := y12) rfl OZ rfl ?_; rw [hu12]) | (refine load_ob rfl _ rfl rfl D1o ?_) | fail)
  clear OZ hv12 hu12 hg12
  have HF := hide (dirFind D0.out (HM.out.below HB5.out) st)
  rw [hro] at HF
  refine HF.out.mono ?_
  clear HF D1o
  rintro e x13 ⟨y13, rfl, hy13, hb13⟩
  obtain ⟨v13, hv13, g13, hg13, u13, hu13, OZ, ON, hb13', hs13⟩ := start_nm x13 y13
  have N13 := hide (hy13.laid hg13 ON hb13')
  have hg13g : g6 < g13 := by have := N6.out.ob.lt; have := hb13.size; omega
  have hxe13 := hg13.symm ▸ hb13'
  replace D0 := hide (D0.out.below hb13)
  replace D1 := hide (D1.out.below hb13)
  replace D2 := hide (D2.out.below hb13)
  replace N6 := hide (N6.out.below hb13)
  replace N11 := hide (N11.out.below hb13)
  replace N12 := hide (N12.out.below hb13)
  replace M1 := hide (M1.out.later hb13)
  replace M2 := hide (M2.out.later hb13)
  replace HB5 := hide (HB5.out.trans (hb13.mono HB5.out.size))
  replace D0 := hide (D0.out.below hxe13)
  replace D1 := hide (D1.out.below hxe13)
  replace D2 := hide (D2.out.below hxe13)
  replace N6 := hide (N6.out.below hxe13)
  replace N11 := hide (N11.out.below hxe13)
  replace N12 := hide (N12.out.below hxe13)
  replace M1 := hide (M1.out.later hxe13)
  replace M2 := hide (M2.out.later hxe13)
  replace HB5 := hide (HB5.out.trans (hxe13.mono HB5.out.size))
  clear hy13 ON hb13 hb13' hxe13 hs13
  have D1o := D1.out.ob
  go_wp2_with (first | (refine store_nm rfl _ _ rfl rfl (c := y13) rfl OZ rfl ?_; rw [hu13]) | (refine load_ob rfl _ rfl rfl D1o ?_) | fail)
  clear OZ hv13 hu13 hg13
  have HF := hide (dirFind D1.out (HM.out.below HB5.out) st)
  rw [hrx] at HF
  refine HF.out.mono ?_
  clear HF D1o
  rintro e x14 ⟨y14, rfl, hy14, hb14⟩
  obtain ⟨v14, hv14, g14, hg14, u14, hu14, OZ, ON, hb14', hs14⟩ := start_nm x14 y14
  have N14 := hide (hy14.laid hg14 ON hb14')
  have hg14g : g6 < g14 := by have := N6.out.ob.lt; have := hb14.size; omega
  have hxe14 := hg14.symm ▸ hb14'
  replace D0 := hide (D0.out.below hb14)
  replace D1 := hide (D1.out.below hb14)
  replace D2 := hide (D2.out.below hb14)
  replace N6 := hide (N6.out.below hb14)
  replace N11 := hide (N11.out.below hb14)
  replace N12 := hide (N12.out.below hb14)
  replace N13 := hide (N13.out.below hb14)
  replace M1 := hide (M1.out.later hb14)
  replace M2 := hide (M2.out.later hb14)
  replace HB5 := hide (HB5.out.trans (hb14.mono HB5.out.size))
  replace D0 := hide (D0.out.below hxe14)
  replace D1 := hide (D1.out.below hxe14)
  replace D2 := hide (D2.out.below hxe14)
  replace N6 := hide (N6.out.below hxe14)
  replace N11 := hide (N11.out.below hxe14)
  replace N12 := hide (N12.out.below hxe14)
  replace N13 := hide (N13.out.below hxe14)
  replace M1 := hide (M1.out.later hxe14)
  replace M2 := hide (M2.out.later hxe14)
  replace HB5 := hide (HB5.out.trans (hxe14.mono HB5.out.size))
  clear hy14 ON hb14 hb14' hxe14 hs14
  have O6 := N6.out.ob
  have k0 : u14.cell? ⟨g6, 0, none⟩ = some (.string ⟨y6.path.toArray⟩) := O6.cell 0
  have z0 := O6.free 0
  have hlow : Below g6 u14 (u14.setCell ⟨g6, 0, none⟩ (.string sq)) := (Below.refl _ _).setCell (p := ⟨g6, 0, none⟩) (Nat.le_refl _) _
  have P6 := hide (N6.out.setPath sq)
  have P11 := hide (N11.out.put O6 (by omega) 0 (.string sq))
  have P13 := hide (N13.out.put O6 (by omega) 0 (.string sq))
  have P14 := hide (N14.out.put O6 (by omega) 0 (.string sq))
  have P0 := hide (D0.out.low (hlow.mono hg6B) (D0.out.ob.put_other (b' := g6) (by omega) 0 (.string sq)))
  have Q1 := hide (M1.out.keep (keep_put (m := g6) (by omega) 0 (.string sq)) (by simp [World.setCell]))
  have Q2 := hide (M2.out.keep (keep_put (m := g6) (by omega) 0 (.string sq)) (by simp [World.setCell]))
  have R2 := D2.out.ob.put_other (b' := g6) (by omega) 0 (.string sq)
  replace HB5 := hide (HB5.out.trans (hlow.mono hg6W))
  obtain ⟨w15, hw15⟩ : ∃ w15, u14.setCell ⟨g6, 0, none⟩ (.string sq) = w15 := ⟨_, rfl⟩
  rw [hw15] at P6 P11 P13 P14 P0 Q1 Q2 R2 HB5
  have P2 : Hid (DirAt w15 w15.heap.size m2 ⟨A2, n2, c2⟩ l2 E) := hide ⟨R2, Nat.le_refl _, Q2.out.ents, Q2.out.short, HSP.out, D2.out.room⟩
  clear D0 D1 D2 M1 M2 N6 N11 N12 N13 N14 Q1 Q2 R2 hlow
  have o2 := P2.out.ob
  have o0 := P0.out.ob
  have o11 := P11.out.ob
  have o6 := P6.out.ob
  have HSM := hide (entSame P11.out.holds P6.out.holds (by
    obtain ⟨_, hzm⟩ := Nx.find_path HZ.out
    obtain ⟨i, hi, he⟩ := List.getElem_of_mem hzm
    have := (HSP.out.1 i hi).1
    rw [he] at this
    show z.ids.length ≤ 1000
    omega))
  have hEZ : Nx.find E pathZ = none := Nx.find_end (fun i hi h => by
    have h1 := HKN.out _ (List.getElem_mem hi)
    rw [h] at h1
    revert h1
    decide)
  have HEZ := hide hEZ
  have HNZ : Hid (entZ.path ≠ st.data.toList) := hide (fun h => by
    have h1 := HKC.out
    rw [← h] at h1
    revert h1
    decide)
  clear hEZ
  go_wp2_with (first | (refine store_nm rfl _ _ rfl rfl (c := y14) rfl OZ rfl ?_; rw [hu14]) | (refine wpList_val (by rfl) (exec_load_nm rfl rfl o11) ?_) | (refine wpList_val (by rfl) (exec_load_nm rfl rfl o6) ?_) | fail)
  clear OZ hv14 hu14 hg14 k0 z0 O6
  go_at_call 16
  refine HSM.out.mono ?_
  rintro e w16 ⟨rfl, hb16⟩
  clear o2 o0 o11 o6 HSM hw15
  replace P0 := hide (P0.out.below hb16)
  replace P2 := hide (P2.out.below hb16)
  replace P6 := hide (P6.out.below hb16)
  replace P11 := hide (P11.out.below hb16)
  replace P13 := hide (P13.out.below hb16)
  replace P14 := hide (P14.out.below hb16)
  replace HB5 := hide (HB5.out.trans (hb16.mono HB5.out.size))
  clear hb16
  have o2 := P2.out.ob
  have o0 := P0.out.ob
  have HSO := hide (dirSame P2.out P0.out)
  obtain ⟨e1, he1⟩ : ∃ e1, (st.toList == sp.toList) = e1 := ⟨_, rfl⟩
  obtain ⟨e2, he2⟩ : ∃ e2, (st.toList == sq.toList) = e2 := ⟨_, rfl⟩
  have hn1 : (st.toList != sp.toList) = !e1 := by rw [← he1]; rfl
  have hn2 : (st.toList != sq.toList) = !e2 := by rw [← he2]; rfl
  have HE1 := hide (show e1 = false → st.data.toList ≠ sp.data.toList from fun h0 h => by
    rw [h0, Lib.toList_data, Lib.toList_data, h] at he1
    simp at he1)
  have HE2 := hide (show e2 = false → st.data.toList ≠ sq.data.toList from fun h0 h => by
    rw [h0, Lib.toList_data, Lib.toList_data, h] at he2
    simp at he2)
  obtain ⟨vo, hvo⟩ : ∃ vo, ro.isSome = vo := ⟨_, rfl⟩
  obtain ⟨vx, hvx⟩ : ∃ vx, rx.isSome = vx := ⟨_, rfl⟩
  rw [hvo, hvx]
  have HVO := hide hvo
  have HVX := hide hvx
  clear hvo hvx
  cases e1 with
  | true =>
    rw [show (!true) = false from rfl] at hn1
    clear HE1 HE2 hn2 he2
    go_wp2_with (first | (refine wpList_val (by rfl) (exec_load_ob rfl rfl o2) ?_) | (refine wpList_val (by rfl) (exec_load_ob rfl rfl o0) ?_) | fail)
    go_at_call 23
    refine HSO.out.mono ?_
    rintro e w17 ⟨rfl, hb17⟩
    replace P0 := hide (P0.out.below hb17)
    replace P2 := hide (P2.out.below hb17)
    replace P6 := hide (P6.out.below hb17)
    replace P11 := hide (P11.out.below hb17)
    replace P13 := hide (P13.out.below hb17)
    replace P14 := hide (P14.out.below hb17)
    replace HB5 := hide (HB5.out.trans (hb17.mono HB5.out.size))
    clear hb17
    clear P2 P6 P11 P14 o2 o0 HSO
    have hal : Below w17.heap.size w17 (w17.alloc (.cells #[.int .u64 77] 22)) := (Below.refl _ _).alloc (Nat.le_refl _) _
    have HI : Hid (Nums .u64 (w17.alloc (.cells #[.int .u64 77] 22)) (w17.alloc (.cells #[.int .u64 77] 22)).heap.size (some ⟨w17.heap.size, 0, none⟩) 1 [77]) := hide ⟨rfl, by rw [World.size_alloc]; exact Row.list w17 [.int .u64 77] 22⟩
    have o0 := P0.out.ob
    replace P0 := hide (P0.out.below hal)
    replace P13 := hide (P13.out.below hal)
    replace HB5 := hide (HB5.out.trans (hal.mono HB5.out.size))
    have HA := hide (dirAdd P0.out (HM.out.below HB5.out) ⟨pathZ, 3, ⟨some ⟨w17.heap.size, 0, none⟩, 1, 1⟩⟩ entZ rfl rfl HI.out (by decide) HEZ.out (by show n0 < 256; omega))
    clear hal
    go_wp2_with (first | (refine load_ob rfl _ rfl rfl o0 ?_) | fail)
    refine HA.out.mono ?_
    rintro e x18 hd
    obtain ⟨A3, n3, c3, l3, rfl, hM3, hb18⟩ := hd.ok
    clear hd HA HI o0
    obtain ⟨v18, hv18, m3, hm3, u18, hu18, OZ, OX, hb18', hs18⟩ := laid_ob (Ob.dir ⟨A3, n3, c3⟩) x18
    have D3 := hide (hM3.laid OX hb18' (Nx.insert_space HSP.out (by decide) HEZ.out) (by rw [Nx.insert_length]; have := HEL.out; omega))
    replace P0 := hide (P0.out.below hb18)
    replace P13 := hide (P13.out.below hb18)
    replace HB5 := hide (HB5.out.trans (hb18.mono HB5.out.size))
    replace P0 := hide (P0.out.below hb18')
    replace P13 := hide (P13.out.below hb18')
    replace HB5 := hide (HB5.out.trans (hb18'.mono HB5.out.size))
    clear P0 hM3 OX hb18 hb18' hs18
    have o3 := D3.out.ob
    go_wp2_with (first | (refine store_ob rfl _ _ rfl rfl (c := Ob.dir ⟨A3, n3, c3⟩) rfl OZ rfl ?_; rw [hu18]) | (refine load_ob rfl _ rfl rfl o3 ?_) | fail)
    clear OZ hv18 hu18 hm3
    have HF := hide (dirFind D3.out (HM.out.below HB5.out) ⟨pathZ.toArray⟩)
    rw [show Nx.find (Nx.insert E entZ) (⟨pathZ.toArray⟩ : ByteArray).data.toList = some entZ from Nx.find_insert_same (n := entZ) (Nx.asc_of_space HSP.out) HEZ.out] at HF
    refine HF.out.mono ?_
    clear HF o3
    rintro e x19 ⟨y19, rfl, hy19, hb19⟩
    obtain ⟨v19, hv19, g19, hg19, u19, hu19, OZ, ON, hb19', hs19⟩ := start_nm x19 y19
    have N19 := hide (hy19.laid hg19 ON hb19')
    have hxe := hg19.symm ▸ hb19'
    replace P13 := hide (P13.out.below hb19)
    replace D3 := hide (D3.out.below hb19)
    replace HB5 := hide (HB5.out.trans (hb19.mono HB5.out.size))
    replace P13 := hide (P13.out.below hxe)
    replace D3 := hide (D3.out.below hxe)
    replace HB5 := hide (HB5.out.trans (hxe.mono HB5.out.size))
    clear hy19 ON hb19 hb19' hxe hs19
    have o3 := D3.out.ob
    go_wp2_with (first | (refine store_nm rfl _ _ rfl rfl (c := y19) rfl OZ rfl ?_; rw [hu19]) | (refine load_ob rfl _ rfl rfl o3 ?_) | fail)
    clear OZ hv19 hu19 hg19
    have HF := hide (dirFind D3.out (HM.out.below HB5.out) st)
    rw [show Nx.find (Nx.insert E entZ) st.data.toList = ro from (Nx.find_insert_other (Nx.asc_of_space HSP.out) HEZ.out HNZ.out).trans HRO.out] at HF
    refine HF.out.mono ?_
    clear HF o3
    rintro e x20 ⟨y20, rfl, hy20, hb20⟩
    rw [HVO.out]
    obtain ⟨v20, hv20, g20, hg20, u20, hu20, OZ, ON, hb20', hs20⟩ := start_nm x20 y20
    have N20 := hide (hy20.laid hg20 ON hb20')
    have hxe := hg20.symm ▸ hb20'
    replace P13 := hide (P13.out.below hb20)
    replace D3 := hide (D3.out.below hb20)
    replace N19 := hide (N19.out.below hb20)
    replace HB5 := hide (HB5.out.trans (hb20.mono HB5.out.size))
    replace P13 := hide (P13.out.below hxe)
    replace D3 := hide (D3.out.below hxe)
    replace N19 := hide (N19.out.below hxe)
    replace HB5 := hide (HB5.out.trans (hxe.mono HB5.out.size))
    clear hy20 ON hb20 hb20' hxe hs20
    have hI := Nums.of_own N19.out.holds.2.2
    have hn19 : y19.ids.n = 1 := hI.len.symm
    rw [hn19] at hI
    obtain ⟨bi, oi, _, hA, _, hci⟩ := hI.at_ (i := 0) (by decide)
    rw [Nat.add_zero] at hci
    have hci' : u20.cell? ⟨bi, oi, none⟩ = some (.int .u64 77) := hci
    have k2 : u20.cell? ⟨g19, 2, none⟩ = some (.slice (some ⟨bi, oi, none⟩) 1 y19.ids.c) := (N19.out.ob.cell 2).trans (by show some (Value.slice y19.ids.A y19.ids.n y19.ids.c) = _; rw [hn19, hA])
    have o20 := N20.out.ob
    have o13 := P13.out.ob
    have HSM := hide (entSame N20.out.holds P13.out.holds HIO.out)
    clear hI hn19 hA hci
    go_wp2_with (first | (refine store_nm rfl _ _ rfl rfl (c := y20) rfl OZ rfl ?_; rw [hu20]) | (refine wpList_val (by rfl) (exec_load_nm rfl rfl o20) ?_) | (refine wpList_val (by rfl) (exec_load_nm rfl rfl o13) ?_) | fail)
    go_at_call 16
    refine HSM.out.mono ?_
    rintro e w21 ⟨rfl, hb21⟩
    clear OZ hv20 hu20 hg20 hci' k2 o20 o13 HSM
    replace D3 := hide (D3.out.below hb21)
    replace HB5 := hide (HB5.out.trans (hb21.mono HB5.out.size))
    clear hb21 P13 N19 N20
    have o3 := D3.out.ob
    have HV := hide (dirValid D3.out (HM.out.below HB5.out))
    go_wp2_with (first | (refine wpList_val (by rfl) (exec_load_ob rfl rfl o3) ?_) | fail)
    go_at_call 17
    refine HV.out.mono ?_
    rintro e w22 ⟨rfl, hb22⟩
    replace HB5 := hide (HB5.out.trans (hb22.mono HB5.out.size))
    clear hb22
    go_wp2_with fail
    go_ret
    exact ⟨rfl, HB5.out⟩
  | false =>
    rw [show (!false) = true from rfl] at hn1
    cases e2 with
    | true =>
      rw [show (!true) = false from rfl] at hn2
      clear HE1 HE2
      go_wp2_with (first | (refine wpList_val (by rfl) (exec_load_ob rfl rfl o2) ?_) | (refine wpList_val (by rfl) (exec_load_ob rfl rfl o0) ?_) | fail)
      go_at_call 23
      refine HSO.out.mono ?_
      rintro e w17 ⟨rfl, hb17⟩
      replace P0 := hide (P0.out.below hb17)
      replace P2 := hide (P2.out.below hb17)
      replace P6 := hide (P6.out.below hb17)
      replace P11 := hide (P11.out.below hb17)
      replace P13 := hide (P13.out.below hb17)
      replace P14 := hide (P14.out.below hb17)
      replace HB5 := hide (HB5.out.trans (hb17.mono HB5.out.size))
      clear hb17
      clear P2 P6 P11 P14 o2 o0 HSO
      have hal : Below w17.heap.size w17 (w17.alloc (.cells #[.int .u64 77] 22)) := (Below.refl _ _).alloc (Nat.le_refl _) _
      have HI : Hid (Nums .u64 (w17.alloc (.cells #[.int .u64 77] 22)) (w17.alloc (.cells #[.int .u64 77] 22)).heap.size (some ⟨w17.heap.size, 0, none⟩) 1 [77]) := hide ⟨rfl, by rw [World.size_alloc]; exact Row.list w17 [.int .u64 77] 22⟩
      have o0 := P0.out.ob
      replace P0 := hide (P0.out.below hal)
      replace P13 := hide (P13.out.below hal)
      replace HB5 := hide (HB5.out.trans (hal.mono HB5.out.size))
      have HA := hide (dirAdd P0.out (HM.out.below HB5.out) ⟨pathZ, 3, ⟨some ⟨w17.heap.size, 0, none⟩, 1, 1⟩⟩ entZ rfl rfl HI.out (by decide) HEZ.out (by show n0 < 256; omega))
      clear hal
      go_wp2_with (first | (refine load_ob rfl _ rfl rfl o0 ?_) | fail)
      refine HA.out.mono ?_
      rintro e x18 hd
      obtain ⟨A3, n3, c3, l3, rfl, hM3, hb18⟩ := hd.ok
      clear hd HA HI o0
      obtain ⟨v18, hv18, m3, hm3, u18, hu18, OZ, OX, hb18', hs18⟩ := laid_ob (Ob.dir ⟨A3, n3, c3⟩) x18
      have D3 := hide (hM3.laid OX hb18' (Nx.insert_space HSP.out (by decide) HEZ.out) (by rw [Nx.insert_length]; have := HEL.out; omega))
      replace P0 := hide (P0.out.below hb18)
      replace P13 := hide (P13.out.below hb18)
      replace HB5 := hide (HB5.out.trans (hb18.mono HB5.out.size))
      replace P0 := hide (P0.out.below hb18')
      replace P13 := hide (P13.out.below hb18')
      replace HB5 := hide (HB5.out.trans (hb18'.mono HB5.out.size))
      clear P0 hM3 OX hb18 hb18' hs18
      have o3 := D3.out.ob
      go_wp2_with (first | (refine store_ob rfl _ _ rfl rfl (c := Ob.dir ⟨A3, n3, c3⟩) rfl OZ rfl ?_; rw [hu18]) | (refine load_ob rfl _ rfl rfl o3 ?_) | fail)
      clear OZ hv18 hu18 hm3
      have HF := hide (dirFind D3.out (HM.out.below HB5.out) ⟨pathZ.toArray⟩)
      rw [show Nx.find (Nx.insert E entZ) (⟨pathZ.toArray⟩ : ByteArray).data.toList = some entZ from Nx.find_insert_same (n := entZ) (Nx.asc_of_space HSP.out) HEZ.out] at HF
      refine HF.out.mono ?_
      clear HF o3
      rintro e x19 ⟨y19, rfl, hy19, hb19⟩
      obtain ⟨v19, hv19, g19, hg19, u19, hu19, OZ, ON, hb19', hs19⟩ := start_nm x19 y19
      have N19 := hide (hy19.laid hg19 ON hb19')
      have hxe := hg19.symm ▸ hb19'
      replace P13 := hide (P13.out.below hb19)
      replace D3 := hide (D3.out.below hb19)
      replace HB5 := hide (HB5.out.trans (hb19.mono HB5.out.size))
      replace P13 := hide (P13.out.below hxe)
      replace D3 := hide (D3.out.below hxe)
      replace HB5 := hide (HB5.out.trans (hxe.mono HB5.out.size))
      clear hy19 ON hb19 hb19' hxe hs19
      have o3 := D3.out.ob
      go_wp2_with (first | (refine store_nm rfl _ _ rfl rfl (c := y19) rfl OZ rfl ?_; rw [hu19]) | (refine load_ob rfl _ rfl rfl o3 ?_) | fail)
      clear OZ hv19 hu19 hg19
      have HF := hide (dirFind D3.out (HM.out.below HB5.out) st)
      rw [show Nx.find (Nx.insert E entZ) st.data.toList = ro from (Nx.find_insert_other (Nx.asc_of_space HSP.out) HEZ.out HNZ.out).trans HRO.out] at HF
      refine HF.out.mono ?_
      clear HF o3
      rintro e x20 ⟨y20, rfl, hy20, hb20⟩
      rw [HVO.out]
      obtain ⟨v20, hv20, g20, hg20, u20, hu20, OZ, ON, hb20', hs20⟩ := start_nm x20 y20
      have N20 := hide (hy20.laid hg20 ON hb20')
      have hxe := hg20.symm ▸ hb20'
      replace P13 := hide (P13.out.below hb20)
      replace D3 := hide (D3.out.below hb20)
      replace N19 := hide (N19.out.below hb20)
      replace HB5 := hide (HB5.out.trans (hb20.mono HB5.out.size))
      replace P13 := hide (P13.out.below hxe)
      replace D3 := hide (D3.out.below hxe)
      replace N19 := hide (N19.out.below hxe)
      replace HB5 := hide (HB5.out.trans (hxe.mono HB5.out.size))
      clear hy20 ON hb20 hb20' hxe hs20
      have hI := Nums.of_own N19.out.holds.2.2
      have hn19 : y19.ids.n = 1 := hI.len.symm
      rw [hn19] at hI
      obtain ⟨bi, oi, _, hA, _, hci⟩ := hI.at_ (i := 0) (by decide)
      rw [Nat.add_zero] at hci
      have hci' : u20.cell? ⟨bi, oi, none⟩ = some (.int .u64 77) := hci
      have k2 : u20.cell? ⟨g19, 2, none⟩ = some (.slice (some ⟨bi, oi, none⟩) 1 y19.ids.c) := (N19.out.ob.cell 2).trans (by show some (Value.slice y19.ids.A y19.ids.n y19.ids.c) = _; rw [hn19, hA])
      have o20 := N20.out.ob
      have o13 := P13.out.ob
      have HSM := hide (entSame N20.out.holds P13.out.holds HIO.out)
      clear hI hn19 hA hci
      go_wp2_with (first | (refine store_nm rfl _ _ rfl rfl (c := y20) rfl OZ rfl ?_; rw [hu20]) | (refine wpList_val (by rfl) (exec_load_nm rfl rfl o20) ?_) | (refine wpList_val (by rfl) (exec_load_nm rfl rfl o13) ?_) | fail)
      go_at_call 16
      refine HSM.out.mono ?_
      rintro e w21 ⟨rfl, hb21⟩
      clear OZ hv20 hu20 hg20 hci' k2 o20 o13 HSM
      replace D3 := hide (D3.out.below hb21)
      replace HB5 := hide (HB5.out.trans (hb21.mono HB5.out.size))
      clear hb21 P13 N19 N20
      have o3 := D3.out.ob
      have HV := hide (dirValid D3.out (HM.out.below HB5.out))
      go_wp2_with (first | (refine wpList_val (by rfl) (exec_load_ob rfl rfl o3) ?_) | fail)
      go_at_call 17
      refine HV.out.mono ?_
      rintro e w22 ⟨rfl, hb22⟩
      replace HB5 := hide (HB5.out.trans (hb22.mono HB5.out.size))
      clear hb22
      go_wp2_with fail
      go_ret
      exact ⟨rfl, HB5.out⟩
    | false =>
      obtain rfl : rx = ro := by rw [← HRX.out, ← HRO.out]; exact HKP.out.2.2.2.2.2.2.2 _ (HE1.out rfl) (HE2.out rfl)
      obtain rfl : vx = vo := HVX.out.symm.trans HVO.out
      rw [show (!false) = true from rfl] at hn2
      have vne : (vx != vx) = false := by simp
      clear HE1 HE2
      go_wp2_with (first | (refine wpList_val (by rfl) (exec_load_ob rfl rfl o2) ?_) | (refine wpList_val (by rfl) (exec_load_ob rfl rfl o0) ?_) | fail)
      go_at_call 23
      refine HSO.out.mono ?_
      rintro e w17 ⟨rfl, hb17⟩
      replace P0 := hide (P0.out.below hb17)
      replace P2 := hide (P2.out.below hb17)
      replace P6 := hide (P6.out.below hb17)
      replace P11 := hide (P11.out.below hb17)
      replace P13 := hide (P13.out.below hb17)
      replace P14 := hide (P14.out.below hb17)
      replace HB5 := hide (HB5.out.trans (hb17.mono HB5.out.size))
      clear hb17
      have o13 := P13.out.ob
      have o14 := P14.out.ob
      have HSP3 := hide (entSame P13.out.holds P14.out.holds HIO.out)
      go_wp2_with (first | (refine wpList_val (by rfl) (exec_load_nm rfl rfl o13) ?_) | (refine wpList_val (by rfl) (exec_load_nm rfl rfl o14) ?_) | fail)
      go_at_call 16
      refine HSP3.out.mono ?_
      rintro e w18 ⟨rfl, hb23⟩
      clear o13 o14 HSP3
      replace P0 := hide (P0.out.below hb23)
      replace P2 := hide (P2.out.below hb23)
      replace P6 := hide (P6.out.below hb23)
      replace P11 := hide (P11.out.below hb23)
      replace P13 := hide (P13.out.below hb23)
      replace P14 := hide (P14.out.below hb23)
      replace HB5 := hide (HB5.out.trans (hb23.mono HB5.out.size))
      clear hb23
      clear P2 P6 P11 P14 o2 o0 HSO
      have hal : Below w18.heap.size w18 (w18.alloc (.cells #[.int .u64 77] 22)) := (Below.refl _ _).alloc (Nat.le_refl _) _
      have HI : Hid (Nums .u64 (w18.alloc (.cells #[.int .u64 77] 22)) (w18.alloc (.cells #[.int .u64 77] 22)).heap.size (some ⟨w18.heap.size, 0, none⟩) 1 [77]) := hide ⟨rfl, by rw [World.size_alloc]; exact Row.list w18 [.int .u64 77] 22⟩
      have o0 := P0.out.ob
      replace P0 := hide (P0.out.below hal)
      replace P13 := hide (P13.out.below hal)
      replace HB5 := hide (HB5.out.trans (hal.mono HB5.out.size))
      have HA := hide (dirAdd P0.out (HM.out.below HB5.out) ⟨pathZ, 3, ⟨some ⟨w18.heap.size, 0, none⟩, 1, 1⟩⟩ entZ rfl rfl HI.out (by decide) HEZ.out (by show n0 < 256; omega))
      clear hal
      go_wp2_with (first | (refine load_ob rfl _ rfl rfl o0 ?_) | fail)
      refine HA.out.mono ?_
      rintro e x18 hd
      obtain ⟨A3, n3, c3, l3, rfl, hM3, hb18⟩ := hd.ok
      clear hd HA HI o0
      obtain ⟨v18, hv18, m3, hm3, u18, hu18, OZ, OX, hb18', hs18⟩ := laid_ob (Ob.dir ⟨A3, n3, c3⟩) x18
      have D3 := hide (hM3.laid OX hb18' (Nx.insert_space HSP.out (by decide) HEZ.out) (by rw [Nx.insert_length]; have := HEL.out; omega))
      replace P0 := hide (P0.out.below hb18)
      replace P13 := hide (P13.out.below hb18)
      replace HB5 := hide (HB5.out.trans (hb18.mono HB5.out.size))
      replace P0 := hide (P0.out.below hb18')
      replace P13 := hide (P13.out.below hb18')
      replace HB5 := hide (HB5.out.trans (hb18'.mono HB5.out.size))
      clear P0 hM3 OX hb18 hb18' hs18
      have o3 := D3.out.ob
      go_wp2_with (first | (refine store_ob rfl _ _ rfl rfl (c := Ob.dir ⟨A3, n3, c3⟩) rfl OZ rfl ?_; rw [hu18]) | (refine load_ob rfl _ rfl rfl o3 ?_) | fail)
      clear OZ hv18 hu18 hm3
      have HF := hide (dirFind D3.out (HM.out.below HB5.out) ⟨pathZ.toArray⟩)
      rw [show Nx.find (Nx.insert E entZ) (⟨pathZ.toArray⟩ : ByteArray).data.toList = some entZ from Nx.find_insert_same (n := entZ) (Nx.asc_of_space HSP.out) HEZ.out] at HF
      refine HF.out.mono ?_
      clear HF o3
      rintro e x19 ⟨y19, rfl, hy19, hb19⟩
      obtain ⟨v19, hv19, g19, hg19, u19, hu19, OZ, ON, hb19', hs19⟩ := start_nm x19 y19
      have N19 := hide (hy19.laid hg19 ON hb19')
      have hxe := hg19.symm ▸ hb19'
      replace P13 := hide (P13.out.below hb19)
      replace D3 := hide (D3.out.below hb19)
      replace HB5 := hide (HB5.out.trans (hb19.mono HB5.out.size))
      replace P13 := hide (P13.out.below hxe)
      replace D3 := hide (D3.out.below hxe)
      replace HB5 := hide (HB5.out.trans (hxe.mono HB5.out.size))
      clear hy19 ON hb19 hb19' hxe hs19
      have o3 := D3.out.ob
      go_wp2_with (first | (refine store_nm rfl _ _ rfl rfl (c := y19) rfl OZ rfl ?_; rw [hu19]) | (refine load_ob rfl _ rfl rfl o3 ?_) | fail)
      clear OZ hv19 hu19 hg19
      have HF := hide (dirFind D3.out (HM.out.below HB5.out) st)
      rw [show Nx.find (Nx.insert E entZ) st.data.toList = rx from (Nx.find_insert_other (Nx.asc_of_space HSP.out) HEZ.out HNZ.out).trans HRO.out] at HF
      refine HF.out.mono ?_
      clear HF o3
      rintro e x20 ⟨y20, rfl, hy20, hb20⟩
      rw [HVO.out]
      obtain ⟨v20, hv20, g20, hg20, u20, hu20, OZ, ON, hb20', hs20⟩ := start_nm x20 y20
      have N20 := hide (hy20.laid hg20 ON hb20')
      have hxe := hg20.symm ▸ hb20'
      replace P13 := hide (P13.out.below hb20)
      replace D3 := hide (D3.out.below hb20)
      replace N19 := hide (N19.out.below hb20)
      replace HB5 := hide (HB5.out.trans (hb20.mono HB5.out.size))
      replace P13 := hide (P13.out.below hxe)
      replace D3 := hide (D3.out.below hxe)
      replace N19 := hide (N19.out.below hxe)
      replace HB5 := hide (HB5.out.trans (hxe.mono HB5.out.size))
      clear hy20 ON hb20 hb20' hxe hs20
      have hI := Nums.of_own N19.out.holds.2.2
      have hn19 : y19.ids.n = 1 := hI.len.symm
      rw [hn19] at hI
      obtain ⟨bi, oi, _, hA, _, hci⟩ := hI.at_ (i := 0) (by decide)
      rw [Nat.add_zero] at hci
      have hci' : u20.cell? ⟨bi, oi, none⟩ = some (.int .u64 77) := hci
      have k2 : u20.cell? ⟨g19, 2, none⟩ = some (.slice (some ⟨bi, oi, none⟩) 1 y19.ids.c) := (N19.out.ob.cell 2).trans (by show some (Value.slice y19.ids.A y19.ids.n y19.ids.c) = _; rw [hn19, hA])
      have o20 := N20.out.ob
      have o13 := P13.out.ob
      have HSM := hide (entSame N20.out.holds P13.out.holds HIO.out)
      clear hI hn19 hA hci
      go_wp2_with (first | (refine store_nm rfl _ _ rfl rfl (c := y20) rfl OZ rfl ?_; rw [hu20]) | (refine wpList_val (by rfl) (exec_load_nm rfl rfl o20) ?_) | (refine wpList_val (by rfl) (exec_load_nm rfl rfl o13) ?_) | fail)
      go_at_call 16
      refine HSM.out.mono ?_
      rintro e w21 ⟨rfl, hb21⟩
      clear OZ hv20 hu20 hg20 hci' k2 o20 o13 HSM
      replace D3 := hide (D3.out.below hb21)
      replace HB5 := hide (HB5.out.trans (hb21.mono HB5.out.size))
      clear hb21 P13 N19 N20
      have o3 := D3.out.ob
      have HV := hide (dirValid D3.out (HM.out.below HB5.out))
      go_wp2_with (first | (refine wpList_val (by rfl) (exec_load_ob rfl rfl o3) ?_) | fail)
      go_at_call 17
      refine HV.out.mono ?_
      rintro e w22 ⟨rfl, hb22⟩
      replace HB5 := hide (HB5.out.trans (hb22.mono HB5.out.size))
      clear hb22
      go_wp2_with fail
      go_ret
      exact ⟨rfl, HB5.out⟩
end Go.Proofs.YtmkpndajmggadaaDoor
