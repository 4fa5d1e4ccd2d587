/- Made objects of every kind: a contract. (Written by tools/mkobj.py.) -/
import Derived.Test.YtddbohnappogkaaNmMade
import Derived.Test.YtddbohnappogkaaObKinds
namespace Go.Proofs.Ytddbohnappogkaa
open Go.RowKit

set_option maxRecDepth 100000 in
set_option maxHeartbeats 8000000 in
theorem object_dice (C b : Nat) (W : World) (h : Dice W C b) : Calls Try.prog 8 #[.pointer (some ⟨b, 0, none⟩)] W (ObThrown C b W) := by
  obtain ⟨w1, hw, OR, hb, hs⟩ := start_z W
  have hbl := h.lt
  have hCb := h.le
  have HD := hide (h.below hb)
  have HB := hide (Bel.of (b := b) hb)
  clear hb h
  go_enter Try.func8, Try.ntmps8
  go_wp2_with fail
  refine (id_dice C b _ HD.out).mono ?_
  rintro e w2 ⟨id, rfl, hD2, hB2⟩
  have OR2 := hB2.obl' OR (by omega)
  have HD2 := hide hD2
  have HB2 := hide (HB.out.trans (hB2.mono HB.out.size))
  have hs2 := OR2.lt
  clear hD2 hB2 HD HB OR hw hs
  go_wp2_with fail
  refine (next_dice C b 9 _ HD2.out (by omega) (by omega)).mono ?_
  rintro e w3 ⟨k0, rfl, hk0, hD3, hB3⟩
  have OR3 := hB3.obl' OR2 (by omega)
  have HD3 := hide hD3
  have HB3 := hide (HB2.out.trans (hB3.mono HB2.out.size))
  have hs3 := OR3.lt
  clear hD3 hB3 HD2 HB2 OR2 hs2
  obtain rfl | rfl | rfl | rfl | rfl | rfl | rfl | rfl | rfl : k0 = 0 ∨ k0 = 1 ∨ k0 = 2 ∨ k0 = 3 ∨ k0 = 4 ∨ k0 = 5 ∨ k0 = 6 ∨ k0 = 7 ∨ k0 = 8 := by omega
  all_goals clear hk0
  · go_wp2_with fail
    refine (page_dice C b id _ HD3.out).mono ?_
    rintro e w4 ⟨g, L, rfl, hG, hL, hg, hD4, hB4⟩
    have OR4 := hB4.obl' OR3 (by omega)
    have HB4 := hide (HB3.out.trans (hB4.mono HB3.out.size))
    have HO : Hid (OwnOb w4 (W.heap.size + 1) (Ob.page id ⟨some ⟨g, 0, none⟩, 16, 16⟩)) := hide ⟨⟨L, own_words hG hL (by omega)⟩, ⟨[], own_nil⟩, ⟨[], own_nil⟩, ⟨[], own_nil⟩, ⟨[], own_nil⟩, ⟨[], ⟨own_nil, by simp⟩, by simp⟩, noProc_zero, by simp [Ob.Fit, Ob.Small, Ob.page, Ob.zero]⟩
    clear hB4 HB3 OR3 HD3 hG
    go_wp2_with (first | (refine store_ob rfl _ _ rfl rfl (c := Ob.page id ⟨some ⟨g, 0, none⟩, 16, 16⟩) rfl OR4 rfl ?_) | fail)
    refine bodyPost_ret (ret_ob rfl _ rfl (OR4.row_same _)) rfl ?_
    exact thrown_own HO.out (by omega) hD4 HB4.out hbl hCb
  · go_wp2_with fail
    refine (file_dice C b id _ HD3.out).mono ?_
    rintro e w4 ⟨o, rfl, hO, hD4, hB4⟩
    have OR4 := hB4.obl' OR3 (by omega)
    have HB4 := hide (HB3.out.trans (hB4.mono HB3.out.size))
    clear hB4 HB3 OR3 HD3
    go_wp2_with (first | (refine store_ob rfl _ _ rfl rfl (c := o) rfl OR4 rfl ?_) | fail)
    refine bodyPost_ret (ret_ob rfl _ rfl (OR4.row_same _)) rfl ?_
    exact thrown_own (hO.weaken (show W.heap.size + 1 ≤ _ by omega)) (by omega) hD4 HB4.out hbl hCb
  · go_wp2_with fail
    refine (id_dice C b _ HD3.out).mono ?_
    rintro e w4 ⟨f, rfl, hD4, hB4⟩
    have OR4 := hB4.obl' OR3 (by omega)
    have HD4 := hide hD4
    have HB4 := hide (HB3.out.trans (hB4.mono HB3.out.size))
    have hs4 := OR4.lt
    clear hD4 hB4 HD3 HB3 OR3 hs3
    go_wp2_with fail
    refine (opened id f _).mono ?_
    rintro e w5 ⟨rfl, hb5⟩
    obtain ⟨w6, hw6, y, hy, w7, hw7, OZ, OY, hb7, hs7⟩ := laid_ob { Ob.zero with id := id, kind := 4, refs := 1, target := f } w5
    have hms := hb5.size
    have OR5 := OR4.below hb5 OR4.lt
    have OR7 := OR5.below hb7 OR5.lt
    have HD7 := hide ((HD4.out.below hb5).below hb7)
    have HB7 := hide (HB4.out.trans (Bel.of (b := b) ((hb5.trans (hb7.mono hb5.size)).mono HB4.out.size)))
    clear hb5 hb7 HD4 HB4 OR4 OR5
    go_wp2_with (first | (refine store_ob rfl _ _ rfl rfl (c := { Ob.zero with id := id, kind := 4, refs := 1, target := f }) rfl OZ rfl ?_; rw [hw7]) | fail)
    refine (next_dice C b 3 _ HD7.out (by omega) (by omega)).mono ?_
    rintro e w8 ⟨r, rfl, hr, hD8, hB8⟩
    obtain ⟨hr0, hr1⟩ := hr
    have OR8 := hB8.obl' OR7 (by omega)
    have OY8 := hB8.obl' OY (by omega)
    have HD8 := hide hD8
    have HB8 := hide (HB7.out.trans (hB8.mono HB7.out.size))
    have hs8 := hB8.size
    clear hD8 hB8 HD7 HB7 OR7 OY OZ hw7 hw6
    go_wp2_with fail
    refine (next_dice C b 9 _ HD8.out (by omega) (by omega)).mono ?_
    rintro e w9 ⟨q, rfl, hq, hD9, hB9⟩
    obtain ⟨hq0, hq1⟩ := hq
    have OR9 := hB9.obl' OR8 (by omega)
    have OY9 := hB9.obl' OY8 (by omega)
    have HB9 := hide (HB8.out.trans (hB9.mono HB8.out.size))
    clear hB9 HB8 OR8 OY8
    have k2 : w9.cell? ⟨y, 2, none⟩ = some (.int .i64 1) := OY9.cell 2
    have z2 := OY9.free 2
    obtain ⟨u1, hu1⟩ : ∃ u1, w9.setCell ⟨y, 2, none⟩ (.int .i64 (1 + r)) = u1 := ⟨_, rfl⟩
    have P1 := OY9.put 2 (.int .i64 (1 + r))
    rw [hu1] at P1
    have k25 : u1.cell? ⟨y, 25, none⟩ = some (.int .i64 0) := P1.cell 25
    have z25 := P1.free 25
    obtain ⟨u2, hu2⟩ : ∃ u2, u1.setCell ⟨y, 25, none⟩ (.int .i64 q) = u2 := ⟨_, rfl⟩
    have P2 : Obl u2 y 41 (oc { Ob.zero with id := id, kind := 4, refs := 1 + r, offset := q, target := f }) := by
      have := P1.put 25 (.int .i64 q)
      rw [hu2] at this
      exact this
    have hD10 : Dice u2 C b := by rw [← hu2, ← hu1]; exact (hD9.put_other (by omega) (by omega) 2 _).put_other (by omega) (by omega) 25 _
    have OR10 : Obl u2 W.heap.size 41 (oc Ob.zero) := by rw [← hu2, ← hu1]; exact (OR9.put_other (b' := y) (by omega) 2 _).put_other (b' := y) (by omega) 25 _
    have HB10 : Hid (Bel W.heap.size b W u2) := by rw [← hu2, ← hu1]; exact hide ((HB9.out.setGe (g := y) (by omega) 2 _).setGe (g := y) (by omega) 25 _)
    clear P1 OY9 OR9 HB9 hD9
    go_wp2_with (first | (refine load_ob rfl _ rfl rfl P2 ?_) | (refine store_ob rfl _ _ rfl rfl (c := { Ob.zero with id := id, kind := 4, refs := 1 + r, offset := q, target := f }) rfl OR10 rfl ?_) | fail)
    refine bodyPost_ret (ret_ob rfl _ rfl (OR10.row_same _)) rfl ?_
    exact thrown_own (OwnOb.none (base := W.heap.size + 1) ⟨rfl, rfl, rfl, rfl, rfl, rfl⟩ noProc_zero (by simp [Ob.Small, Ob.zero]; omega)) (by omega) hD10 HB10.out hbl hCb
  · go_wp2_with fail
    refine (pipe_dice C b id _ HD3.out).mono ?_
    rintro e w4 ⟨o, rfl, hO, hD4, hB4⟩
    have OR4 := hB4.obl' OR3 (by omega)
    have HB4 := hide (HB3.out.trans (hB4.mono HB3.out.size))
    clear hB4 HB3 OR3 HD3
    go_wp2_with (first | (refine store_ob rfl _ _ rfl rfl (c := o) rfl OR4 rfl ?_) | fail)
    refine bodyPost_ret (ret_ob rfl _ rfl (OR4.row_same _)) rfl ?_
    exact thrown_own (hO.weaken (show W.heap.size + 1 ≤ _ by omega)) (by omega) hD4 HB4.out hbl hCb
  · go_wp2_with fail
    refine (port_dice C b id _ HD3.out).mono ?_
    rintro e w4 ⟨o, rfl, hO, hD4, hB4⟩
    have OR4 := hB4.obl' OR3 (by omega)
    have HB4 := hide (HB3.out.trans (hB4.mono HB3.out.size))
    clear hB4 HB3 OR3 HD3
    go_wp2_with (first | (refine store_ob rfl _ _ rfl rfl (c := o) rfl OR4 rfl ?_) | fail)
    refine bodyPost_ret (ret_ob rfl _ rfl (OR4.row_same _)) rfl ?_
    exact thrown_own (hO.weaken (show W.heap.size + 1 ≤ _ by omega)) (by omega) hD4 HB4.out hbl hCb
  · go_wp2_with fail
    refine (channel_dice C b id _ HD3.out).mono ?_
    rintro e w4 ⟨o, rfl, hO, hD4, hB4⟩
    have OR4 := hB4.obl' OR3 (by omega)
    have HB4 := hide (HB3.out.trans (hB4.mono HB3.out.size))
    clear hB4 HB3 OR3 HD3
    go_wp2_with (first | (refine store_ob rfl _ _ rfl rfl (c := o) rfl OR4 rfl ?_) | fail)
    refine bodyPost_ret (ret_ob rfl _ rfl (OR4.row_same _)) rfl ?_
    exact thrown_own (hO.weaken (show W.heap.size + 1 ≤ _ by omega)) (by omega) hD4 HB4.out hbl hCb
  · go_wp2_with fail
    refine (next_dice C b 4 _ HD3.out (by omega) (by omega)).mono ?_
    rintro e w4 ⟨n, rfl, hn, hD4, hB4⟩
    have OR4 := hB4.obl' OR3 (by omega)
    have HD4 := hide hD4
    have HB4 := hide (HB3.out.trans (hB4.mono HB3.out.size))
    have hs4 := OR4.lt
    clear hD4 hB4 HD3 HB3 OR3 hs3
    go_wp2_with fail
    refine (semNew id n (by omega) _).mono ?_
    rintro e w5 ⟨o, r, rfl, ho, hb5⟩
    obtain ⟨w6, hw6, y, hy, w7, hw7, OZ, OY, hb7, hs7⟩ := laid_ob o w5
    have hms := hb5.size
    have OR5 := OR4.below hb5 OR4.lt
    have OR7 := OR5.below hb7 OR5.lt
    have HD7 := hide ((HD4.out.below hb5).below hb7)
    have HB7 := hide (HB4.out.trans (Bel.of (b := b) ((hb5.trans (hb7.mono hb5.size)).mono HB4.out.size)))
    clear hb5 hb7 HD4 HB4 OR4 OR5
    go_wp2_with (first | (refine store_ob rfl _ _ rfl rfl (c := o) rfl OZ rfl ?_; rw [hw7]) | (refine load_ob rfl _ rfl rfl OY ?_) | (refine store_ob rfl _ _ rfl rfl (c := o) rfl OR7 rfl ?_) | fail)
    refine bodyPost_ret (ret_ob rfl _ rfl (OR7.row_same _)) rfl ?_
    exact thrown_none ho.1 ho.2 HD7.out HB7.out hbl hCb
  · go_wp2_with fail
    refine (devNew id _).mono ?_
    rintro e w0 ⟨rfl, hb0⟩
    have OR0 := OR3.below hb0 OR3.lt
    have HD0 := hide (HD3.out.below hb0)
    have HB0 := hide (HB3.out.trans (Bel.of (b := b) (hb0.mono HB3.out.size)))
    have hs0 := OR0.lt
    clear hb0 HD3 HB3 OR3 hs3
    go_wp2_with fail
    refine (word_dice C b _ HD0.out).mono ?_
    rintro e w4 ⟨n, rfl, hn, hD4, hB4⟩
    have OR4 := hB4.obl' OR0 (by omega)
    have HD4 := hide hD4
    have HB4 := hide (HB0.out.trans (hB4.mono HB0.out.size))
    have hs4 := OR4.lt
    clear hD4 hB4 HD0 HB0 OR0 hs0
    go_wp2_with fail
    refine (devDo id n (by omega) _).mono ?_
    rintro e w5 ⟨n5, o, r, rfl, ho, hb5⟩
    obtain ⟨w6, hw6, y, hy, w7, hw7, OZ, OY, hb7, hs7⟩ := laid_ob o w5
    have hms := hb5.size
    have OR5 := OR4.below hb5 OR4.lt
    have OR7 := OR5.below hb7 OR5.lt
    have HD7 := hide ((HD4.out.below hb5).below hb7)
    have HB7 := hide (HB4.out.trans (Bel.of (b := b) ((hb5.trans (hb7.mono hb5.size)).mono HB4.out.size)))
    clear hb5 hb7 HD4 HB4 OR4 OR5
    go_wp2_with (first | (refine store_ob rfl _ _ rfl rfl (c := o) rfl OZ rfl ?_; rw [hw7]) | (refine load_ob rfl _ rfl rfl OY ?_) | (refine store_ob rfl _ _ rfl rfl (c := o) rfl OR7 rfl ?_) | fail)
    refine bodyPost_ret (ret_ob rfl _ rfl (OR7.row_same _)) rfl ?_
    exact thrown_none ho.1 ho.2 HD7.out HB7.out hbl hCb
  · go_wp2_with fail
    refine (names_dice C b _ HD3.out).mono ?_
    rintro e w4 ⟨o, rfl, hO, hD4, hB4⟩
    have OR4 := hB4.obl' OR3 (by omega)
    have HB4 := hide (HB3.out.trans (hB4.mono HB3.out.size))
    clear hB4 HB3 OR3 HD3
    go_wp2_with (first | (refine store_ob rfl _ _ rfl rfl (c := o) rfl OR4 rfl ?_) | fail)
    refine bodyPost_ret (ret_ob rfl _ rfl (OR4.row_same _)) rfl ?_
    exact thrown_own (hO.weaken (show W.heap.size + 1 ≤ _ by omega)) (by omega) hD4 HB4.out hbl hCb
end Go.Proofs.Ytddbohnappogkaa
