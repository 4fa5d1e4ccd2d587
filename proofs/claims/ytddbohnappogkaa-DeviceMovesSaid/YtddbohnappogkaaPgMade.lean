/- Made pages: a contract. -/
import Derived.Test.YtddbohnappogkaaObMem
import Derived.Test.YtddbohnappogkaaDice
import Derived.Test.YtddbohnappogkaaRegionX
import Derived.Test.YtddbohnappogkaaRegionD
namespace Go.Proofs.Ytddbohnappogkaa
open Go.RowKit

set_option maxRecDepth 100000 in
set_option maxHeartbeats 4000000 in
theorem pgRefNew_any (id : Int) (W : World) : Calls Try.prog 35 #[.int .u64 id] W (PagePost id no16 W) := by
  obtain ⟨w1, hw, O, hb, hs⟩ := start_z W
  have HB := hide hb
  clear hb
  go_enter Try.func35, Try.ntmps35
  go_wp2_with (first | (refine wpList_make16 rfl _ _ rfl rfl rfl hs ?_; intro w2 O2 hb2 hs2; have O' := O.below hb2 (by omega); have H2 := hide O2; clear O2) | (refine store_ob rfl _ _ rfl rfl (c := Ob.page id ⟨some ⟨W.heap.size + 1, 0, none⟩, 16, 16⟩) rfl O' rfl ?_) | fail)
  refine bodyPost_ret (ret_ob rfl _ rfl (O'.row_same _)) rfl ?_
  exact ⟨W.heap.size + 1, rfl, H2.out.row_other (by omega) _, by omega, below_row (HB.out.trans (hb2.mono (by omega))) (Nat.le_refl _) _⟩

/-- A made page, and the dice. -/
def PageThrown (id : Int) (C b : Nat) (w : World) (e : Ending) (w' : World) : Prop := ∃ g L, e = .returned (.agg (oc (Ob.page id ⟨some ⟨g, 0, none⟩, 16, 16⟩))) ∧ Obl w' g 2 (nv .i64 L).toArray ∧ L.length = 16 ∧ w.heap.size ≤ g ∧ Dice w' C b ∧ Bel w.heap.size b w w'
set_option maxRecDepth 100000 in
set_option maxHeartbeats 8000000 in
theorem page_dice (C b : Nat) (id : Int) (W : World) (h : Dice W C b) : Calls Try.prog 19 #[.pointer (some ⟨b, 0, none⟩), .int .u64 id] W (PageThrown id C b W) := by
  obtain ⟨w1, hw, OR, hb, hs⟩ := start_z W
  have hbl := h.lt
  have hCb := h.le
  have HD := hide (h.below hb)
  have HB := hide hb
  clear hb h
  go_enter Try.func19, Try.ntmps19
  go_wp2_with fail
  refine (pgRefNew_any id _).mono ?_
  rintro e w2 ⟨g, rfl, OG, hg, hb2⟩
  obtain ⟨w3, hw3, O3, hb3, hs3⟩ := start_z w2
  obtain ⟨m, hm⟩ : ∃ m, w2.heap.size = m := ⟨_, rfl⟩
  have hgm : g < m := by have := OG.lt; omega
  have hsz : w1.heap.size ≤ m := by have := hb2.size; omega
  rw [hm] at O3 hb3 hs3
  have hlt1 := OR.lt
  have OG4 := (OG.below hb3 (by omega)).row_other (g := m) (by omega) (oc (Ob.page id ⟨some ⟨g, 0, none⟩, 16, 16⟩))
  have OR4 := ((OR.below hb2 OR.lt).below hb3 (by omega)).row_other (g := m) (by omega) (oc (Ob.page id ⟨some ⟨g, 0, none⟩, 16, 16⟩))
  have OM4 := O3.row_same (oc (Ob.page id ⟨some ⟨g, 0, none⟩, 16, 16⟩))
  have hb4 := below_row (hb2.trans (hb3.mono hsz)) (g := m) hsz (oc (Ob.page id ⟨some ⟨g, 0, none⟩, 16, 16⟩))
  obtain ⟨w4, hw4⟩ : ∃ w4, w3.setRow m (oc (Ob.page id ⟨some ⟨g, 0, none⟩, 16, 16⟩)) = w4 := ⟨_, rfl⟩
  rw [hw4] at OG4 OR4 OM4 hb4
  have k0 : w4.cell? ⟨m, 23, none⟩ = some (.slice (some ⟨g, 0, none⟩) 16 16) := OM4.cell 23
  have HD4 := hide (HD.out.below hb4)
  have HB4 := hide (Bel.of (b := b) (HB.out.trans (hb4.mono (by omega))))
  have hgW : W.heap.size < g := by omega
  have hbg : b ≠ g := by omega
  have hbm : b ≠ m := by omega
  have hCg : C ≤ g := by omega
  have hmW : W.heap.size < m := by omega
  have hbW : b ≠ W.heap.size := by omega
  have OR4' := hide OR4
  clear hb2 hb3 hb4 OR OG HD HB hw hs OR4
  go_wp2_with (first | (refine store_ob rfl _ _ rfl rfl (c := Ob.page id ⟨some ⟨g, 0, none⟩, 16, 16⟩) rfl O3 rfl ?_; rw [hw4]) | fail)
  clear hw4 hw3 hm hs3 O3
  go_loopw [12] (fun s12 wr => ∃ (k : Nat) (L : List Int), s12 = .int .i64 (k : Int) ∧ k ≤ 16 ∧ L.length = 16 ∧ Obl wr g 2 (nv .i64 L).toArray ∧ Obl wr m 41 (oc (Ob.page id ⟨some ⟨g, 0, none⟩, 16, 16⟩)) ∧ Hid (Obl wr W.heap.size 41 (oc Ob.zero)) ∧ Hid (Dice wr C b) ∧ Hid (Bel W.heap.size b W wr)) (fun s12 _ => 16 - (intOf s12).toNat)
  case atStart => exact ⟨0, no16, rfl, by omega, rfl, OG4, OM4, OR4', HD4, HB4⟩
  case round =>
    clear k0 OG4 OM4 OR4' HD4 HB4
    obtain ⟨k, L, rfl, hk, hlen, OG, OM, OR, HD, HB⟩ := hrel
    by_cases hlt : k < 16
    · have hlt' : (k : Int) < 16 := by omega
      go_wp2_with fail
      refine region_D (by kernel_rfl) wr.drew.heap.size b [6] ?_
      replace OG : Obl wr.drew g 2 (nv .i64 L).toArray := OG
      replace OM : Obl wr.drew m 41 (oc (Ob.page id ⟨some ⟨g, 0, none⟩, 16, 16⟩)) := OM
      replace OR : Hid (Obl wr.drew W.heap.size 41 (oc Ob.zero)) := OR
      replace HD : Hid (Dice wr.drew C b) := HD
      replace HB : Hid (Bel W.heap.size b W wr.drew) := hide ⟨HB.out.os, HB.out.tape, HB.out.output, HB.out.size, HB.out.block⟩
      have k0 : wr.drew.cell? ⟨m, 23, none⟩ = some (.slice (some ⟨g, 0, none⟩) 16 16) := OM.cell 23
      have hml : m < wr.drew.heap.size := OM.lt
      generalize wr.drew = u0 at *
      refine takeDX 0 rfl (by kernel_rfl) (fun _ _ _ h => h) (by rfl) (by intro w'; go_simp; try with_reducible rfl) ?_
      refine takeD 1 [1, 5, 6] rfl (by kernel_rfl) (fun _ _ _ h => h) (by rfl) (by intro w' hg; have g0 := (hg.cell (p := ⟨m, 23, none⟩) (by show m < _; exact hml) (by show m ≠ b; exact fun e => hbm e.symm)).trans k0; go_simp; try with_reducible rfl) ?_
      refine takeDX 2 rfl (by kernel_rfl) (fun _ _ _ h => h) (by rfl) (by intro w'; go_simp; try with_reducible rfl) ?_
      refine takeDX 3 rfl (by kernel_rfl) (fun _ _ _ h => h) (by rfl) (by intro w'; go_simp; try with_reducible rfl) ?_
      refine onlyD 4 rfl (by kernel_rfl) (by rfl) ?_
      intro K hK
      go_simp
      refine (word_dice C b _ HD.out).mono ?_
      rintro e u1 ⟨v, rfl, hv, hD, hB⟩
      have OG1 := hB.obl' OG (fun e => hbg e.symm)
      have OM1 := hB.obl' OM (fun e => hbm e.symm)
      have OR1 := hide (hB.obl' OR.out (fun e => hbW e.symm))
      have HD1 := hide hD
      have HB1 := hide (HB.out.trans (hB.mono HB.out.size))
      refine hK _ _ (fun _ => hB) ?_
      clear hK K hD hB OG OM OR HD HB k0
      refine onlyD 5 rfl (by kernel_rfl) (by rfl) ?_
      intro K hK
      go_simp
      refine hK _ _ (fun _ => Bel.refl _ _ _) ?_
      clear hK K
      have kl : k < L.length := by omega
      have c1 := OG1.num kl
      have z1 := OG1.free k
      have hgl := OG1.lt
      have OG2 := OG1.put k (.int .i64 v)
      rw [nv_put] at OG2
      have OM2 := OM1.put_other (b' := g) (by omega) k (.int .i64 v)
      have OR2 := hide (OR1.out.put_other (b' := g) (by omega) k (.int .i64 v))
      have HD2 := hide (HD1.out.put_other hbg hCg k (.int .i64 v))
      have HB2 := hide (HB1.out.setGe (g := g) (by omega) k (.int .i64 v))
      have hlen2 : (L.set k v).length = 16 := by rw [List.length_set]; exact hlen
      clear OM1 OR1 HD1 HB1
      refine onlyD 6 rfl (by kernel_rfl) (by rfl) ?_
      intro K hK
      go_simp
      refine hK _ _ (fun h => by cases h) ?_
      clear hK K
      refine doneD (by kernel_rfl) ?_
      clear OG1 c1 z1
      generalize u1.setCell ⟨g, k, none⟩ (.int .i64 v) = u2 at *
      go_simp
      go_wp2_with fail
      go_roundw
      case rel => exact ⟨k + 1, L.set k v, by go_num, by omega, hlen2, OG2, OM2, OR2, HD2, HB2⟩
      case measure => simp [intOf]; omega
    · obtain rfl : k = 16 := by omega
      have OR' := OR.out
      have HG := hide (OG.row_other (g := W.heap.size) (by omega) (oc (Ob.page id ⟨some ⟨g, 0, none⟩, 16, 16⟩)))
      have HD2 := hide (HD.out.row_other hbW (by omega) (oc (Ob.page id ⟨some ⟨g, 0, none⟩, 16, 16⟩)))
      have HB2 := hide (HB.out.rowGe (Nat.le_refl _) (oc (Ob.page id ⟨some ⟨g, 0, none⟩, 16, 16⟩)))
      have hgW' : W.heap.size ≤ g := by omega
      clear OG HD HB OR
      go_wp2_with (first | (refine load_ob rfl _ rfl rfl OM ?_) | (refine store_ob rfl _ _ rfl rfl (c := Ob.page id ⟨some ⟨g, 0, none⟩, 16, 16⟩) rfl OR' rfl ?_) | fail)
      refine bodyPost_ret (ret_ob rfl _ rfl (OR'.row_same _)) rfl ?_
      exact ⟨g, L, rfl, HG.out, hlen, hgW', HD2.out, HB2.out⟩
end Go.Proofs.Ytddbohnappogkaa
