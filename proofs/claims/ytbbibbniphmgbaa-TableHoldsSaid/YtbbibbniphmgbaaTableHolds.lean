/- The law TableHolds: so many holds and drops leave a count that is as much greater, and a holder is gone exactly when its counts are 0. -/
import Derived.Test.YtbbibbniphmgbaaTbSane
namespace Go.Proofs.Ytbbibbniphmgbaa
open Go.RowKit

/-- The holder with these counts. -/
structure HolderIs (o : Ob) (a b : Nat) : Prop where
  id : o.id = 7
  kind : o.kind = 7
  bald : o.Bald
  e0 : o.e0 = (a : Int)
  e1 : o.e1 = (b : Int)
def chan0 : Ob := { Ob.zero with id := 7, kind := 7, e0 := 1, e1 := 1 }
theorem chan0_is : HolderIs chan0 1 1 := ⟨rfl, rfl, by constructor <;> rfl, rfl, rfl⟩
section
variable {o c : Ob} {a b : Nat}
theorem HolderIs.fits0 (h : HolderIs o a b) : o.fits ⟨4, 0, 7, 0⟩ = 0 := by
  have : o.fits ⟨4, 0, 7, 0⟩ = (if (7 : Int) = 0 ∨ o.id ≠ 7 ∨ o.kind ≠ 7 then 10 else 0) := rfl
  rw [this, h.id, h.kind]; rfl
theorem HolderIs.fits1 (h : HolderIs o a b) : o.fits ⟨4, 0, 7, 1⟩ = 0 := by
  have : o.fits ⟨4, 0, 7, 1⟩ = (if (7 : Int) = 0 ∨ o.id ≠ 7 ∨ o.kind ≠ 7 then 10 else 0) := rfl
  rw [this, h.id, h.kind]; rfl
theorem HolderIs.cnt0 (h : HolderIs o a b) : o.cnt ⟨4, 0, 7, 0⟩ = (a : Int) := h.e0
theorem HolderIs.cnt1 (h : HolderIs o a b) : o.cnt ⟨4, 0, 7, 1⟩ = (b : Int) := h.e1
theorem bald_relist {o c : Ob} (h : c.Bald) : (o.relist c).Bald := ⟨h.children, h.code, h.strs, h.pages, h.table, h.words, h.data, h.backlog, h.q0, h.q1, h.names⟩
theorem HolderIs.set0 (h : HolderIs o a b) (hc : c.Bald) {v : Int} {v' : Nat} (hv : v = (v' : Int)) : HolderIs ((o.relist c).setCnt ⟨4, 0, 7, 0⟩ v) v' b := ⟨h.id, h.kind, ⟨hc.children, hc.code, hc.strs, hc.pages, hc.table, hc.words, hc.data, hc.backlog, hc.q0, hc.q1, hc.names⟩, hv, h.e1⟩
theorem HolderIs.set1 (h : HolderIs o a b) (hc : c.Bald) {v : Int} {v' : Nat} (hv : v = (v' : Int)) : HolderIs ((o.relist c).setCnt ⟨4, 0, 7, 1⟩ v) a v' := ⟨h.id, h.kind, ⟨hc.children, hc.code, hc.strs, hc.pages, hc.table, hc.words, hc.data, hc.backlog, hc.q0, hc.q1, hc.names⟩, h.e0, hv⟩
theorem HolderIs.gone0 (h : HolderIs o a b) {v : Int} {v' : Nat} (hv : v = (v' : Int)) : (o.setCnt ⟨4, 0, 7, 0⟩ v).gone = (decide (v' = 0) && decide (b = 0)) := by
  have : (o.setCnt ⟨4, 0, 7, 0⟩ v).gone = if o.kind = 4 then o.refs == 0 else if o.kind = 5 then (o.readers == 0 && o.writers == 0) else if o.kind = 7 then decide ([v, o.e1] = [0, 0]) else false := rfl
  rw [this, h.kind, h.e1, hv]
  simp
theorem HolderIs.gone1 (h : HolderIs o a b) {v : Int} {v' : Nat} (hv : v = (v' : Int)) : (o.setCnt ⟨4, 0, 7, 1⟩ v).gone = (decide (a = 0) && decide (v' = 0)) := by
  have : (o.setCnt ⟨4, 0, 7, 1⟩ v).gone = if o.kind = 4 then o.refs == 0 else if o.kind = 5 then (o.readers == 0 && o.writers == 0) else if o.kind = 7 then decide ([o.e0, v] = [0, 0]) else false := rfl
  rw [this, h.kind, h.e0, hv]
  simp
end
theorem holdE_0 {o : Ob} {s : Tb.Slot} (h : o.fits s = 0) (hc : o.cnt s < 1073741824) : o.holdE s = 0 := by unfold Ob.holdE; rw [if_pos h, if_neg (by omega)]
theorem dropE_0 {o : Ob} {s : Tb.Slot} (h : o.fits s = 0) (hc : 1 ≤ o.cnt s) : o.dropE s = 0 := by unfold Ob.dropE; rw [if_pos h, if_neg (by omega)]
theorem dropE_8 {o : Ob} {s : Tb.Slot} (h : o.fits s = 0) (hc : o.cnt s = 0) : o.dropE s = 8 := by unfold Ob.dropE; rw [if_pos h, if_pos (by omega)]
theorem obl_two {w : World} {g : Nat} {t : TypeId} {x y x' y' : Value} (h : Obl w g t #[x, y]) (hx : x = x') (hy : y = y') : Obl w g t #[x', y'] := by subst hx hy; exact h
set_option maxRecDepth 100000 in
set_option maxHeartbeats 16000000 in
theorem tableHolds_any (l : List UInt8) (A : Option Addr) (n cap : Nat) (en : Nat) (W : World) (h : Bytes W W.heap.size A n l) (hn : n ≤ cap ∧ cap ≤ 9223372036854775807) (he : en < 256) :
    Calls Try.prog 7 #[.slice A n cap, .int .u8 (en : Int)] W (BoolPost true W) := by
  have hl := h.len
  have HR := hide h
  have hn' : (n : Int) ≤ 9223372036854775807 := by omega
  clear h
  go_enter Try.func7, Try.ntmps7
  go_wp2_with fail
  refine (sane10_any _).mono ?_
  rintro e w1 ⟨rfl, hb1⟩
  have HB1 := hide hb1
  clear hb1
  obtain ⟨w5, hw5, g5, hg5, w6, hw6, OZ5, ON5, hb6, hs6⟩ := start_zob w1 chan0
  go_wp2_with (first | (refine store_ob rfl _ _ rfl rfl (c := chan0) rfl OZ5 rfl ?_; rw [hw6]) | fail)
  have ON7 := ON5.alloc (.cells #[.int .i64 1, .int .i64 1] 58)
  have OC7 : Obl (w6.alloc (.cells #[.int .i64 1, .int .i64 1] 58)) (g5 + 1) 58 #[.int .i64 1, .int .i64 1] := by have := Obl.make w6 58 #[.int .i64 1, .int .i64 1]; rwa [hs6] at this
  have HB7 := hide ((HB1.out.trans (hb6.mono (by have := HB1.out.size; omega))).alloc (by have := HB1.out.size; omega) (.cells #[.int .i64 1, .int .i64 1] 58))
  have HG : Hid (W.heap.size ≤ g5) := hide (by have := HB1.out.size; omega)
  generalize w6.alloc (.cells #[.int .i64 1, .int .i64 1] 58) = w7 at *
  clear hw5 hw6 hg5 OZ5 ON5 hb6 hs6
  go_loopw [7] (fun s7 wr => ∃ (k : Nat) (o : Ob) (a b : Nat), s7 = .int .i64 (k : Int) ∧ k ≤ n ∧ k ≤ 40 ∧ a ≤ 1 + k ∧ b ≤ 1 + k ∧ Hid (HolderIs o a b) ∧ Hid (Obl wr g5 61 (oc o)) ∧ Hid (Obl wr (g5 + 1) 58 #[.int .i64 (a : Int), .int .i64 (b : Int)]) ∧ Hid (Below W.heap.size W wr)) (fun s7 _ => n - (intOf s7).toNat)
  case atStart => exact ⟨0, chan0, 1, 1, rfl, by omega, by omega, by omega, by omega, hide chan0_is, hide ON7, hide OC7, HB7⟩
  case round =>
    obtain ⟨k, o, a, b, rfl, hk, hk40, ha, hb, HI, HO, HC, HB⟩ := hrel
    by_cases hlt : k < n ∧ k < 40
    · have hlt' : (k : Int) < (n : Int) := by omega
      have hlt40 : (k : Int) < 40 := by omega
      obtain ⟨bb, oo, hkl, rfl, hbb, c0⟩ := (HR.out.below HB.out).at_ hlt.1
      obtain ⟨x, hx⟩ : ∃ x : Nat, (l[k]).toNat = x := ⟨_, rfl⟩
      have hx256 : x < 256 := by have := (l[k]).toNat_lt; omega
      rw [hx] at c0
      have hOO := HO.out
      have m0 := HC.out.cell 0
      have m1 := HC.out.cell 1
      have z0 := HC.out.free 0
      have z1 := HC.out.free 1
      simp at m0 m1
      clear hx
--BODY
      have ha' : (a : Int) ≤ 41 := by omega
      have hb' : (b : Int) ≤ 41 := by omega
      have hg := HG.out
      have hgo := hOO.lt
      have hgc := HC.out.lt
      rcases (show x / 2 % 2 = 0 ∨ x / 2 % 2 = 1 by omega) with hf | hf
      · rcases (show x % 2 = 0 ∨ x % 2 = 1 by omega) with hx2 | hx2
        · skip
          have d1 : (x : Int) / 2 % 2 = 0 := by omega
          have d2 : (x : Int) % 2 = 0 := by omega
          obtain ⟨wz, hwz, gs, hgs, ws, hws, OSZ, OS, hbs, hss⟩ := start_zslot wr (⟨4, 0, 7, 0⟩ : Tb.Slot)
          subst hgs
          have OOs := hOO.below hbs hOO.lt
          have OCs := HC.out.below hbs HC.out.lt
          have HBs := hide (HB.out.trans (hbs.mono HB.out.size))
          have c1 : ws.cell? ⟨bb, oo + k, none⟩ = some (.int .u8 (x : Int)) := by rw [hbs.cell (p := ⟨bb, oo + k, none⟩) (by have := HB.out.size; simp only; omega)]; exact c0
          clear hbs hss hx2 hf m0 m1 z0 z1 hOO HO HC HB
          go_wp2_with (first | (refine load_ob rfl _ rfl rfl OOs ?_) | (refine store_slot rfl _ _ rfl rfl (c := (⟨4, 0, 7, 0⟩ : Tb.Slot)) rfl OSZ rfl ?_; rw [hws]) | (refine wpList_val (by rfl) (exec_load_slot0 (y := (⟨4, 0, 7, 0⟩ : Tb.Slot)) rfl rfl OS) ?_) | fail)
          refine (tbHold_any o (⟨4, 0, 7, 0⟩ : Tb.Slot) Cont.none _ (Holds.bald HI.out.bald _ _) Cont.none_short (by rw [HI.out.cnt0]; omega)).mono ?_
          rintro e w2 ⟨⟨h0, _⟩ | ⟨h0, c, rfl, hH⟩, hb2⟩
          · exact absurd (holdE_0 HI.out.fits0 (by rw [HI.out.cnt0]; omega)) h0
          obtain ⟨o2, ho2⟩ : ∃ o2, (o.relist c).setCnt (⟨4, 0, 7, 0⟩ : Tb.Slot) (o.cnt (⟨4, 0, 7, 0⟩ : Tb.Slot) + 1) = o2 := ⟨_, rfl⟩
          rw [ho2]
          have HI2 : Hid (HolderIs o2 (a + 1) b) := hide (by rw [← ho2]; exact HI.out.set0 hH.is_bald (by rw [HI.out.cnt0]; rfl))
          have OO2 := OOs.below hb2 OOs.lt
          have OC2 := OCs.below hb2 OCs.lt
          have HB2 := hide (HBs.out.trans (hb2.mono HBs.out.size))
          clear h0 hH hb2 ho2 OOs OCs HBs c1 OS OSZ hws hwz
          obtain ⟨w3, hw3, g3, hg3, w4, hw4, OZ4, ON4, hb4, hs4⟩ := start_zob w2 o2
          subst hg3
          have OO4 := OO2.below hb4 (by have := OO2.lt; omega)
          have OC4 := OC2.below hb4 (by have := OC2.lt; omega)
          have HB4 := hide (HB2.out.trans (hb4.mono (by have := HB2.out.size; omega)))
          obtain ⟨w5, hw5⟩ : ∃ w, w4.setRow g5 (oc o2) = w := ⟨_, rfl⟩
          have OO5 : Obl w5 g5 61 (oc o2) := by rw [← hw5]; exact OO4.row_same _
          have OC5 : Obl w5 (g5 + 1) 58 #[.int .i64 (a : Int), .int .i64 (b : Int)] := by rw [← hw5]; exact OC4.row_other (by omega) _
          have HB5 : Hid (Below W.heap.size W w5) := hide (by rw [← hw5]; exact below_row HB4.out (by omega) _)
          have m : w5.cell? ⟨g5 + 1, 0, none⟩ = some (.int .i64 (a : Int)) := OC5.cell 0
          have z := OC5.free 0
          clear hs4 hb4 OO2 OC2 HB2 OC4 HB4
          go_wp2_with (first | (refine store_ob rfl _ _ rfl rfl (c := o2) rfl OZ4 rfl ?_; rw [hw4]) | (refine load_ob rfl _ rfl rfl ON4 ?_) | (refine store_ob rfl _ _ rfl rfl (c := o2) rfl OO4 rfl ?_; rw [hw5]) | fail)
          go_roundw
          case rel => exact ⟨k + 1, o2, (a + 1), b, by go_num, by omega, by omega, by omega, by omega, HI2, hide (OO5.put_other (b' := g5 + 1) (by omega) 0 _), hide (obl_two (OC5.put 0 (.int .i64 ((a : Int) + 1))) (by simp) (by simp)), hide (HB5.out.setCell (p := ⟨g5 + 1, 0, none⟩) (by simp only; omega) _)⟩
          case measure => simp [intOf]; omega
        · skip
          by_cases hv : a = 0
          · skip
            have d1 : (x : Int) / 2 % 2 = 0 := by omega
            have d2 : (x : Int) % 2 = 1 := by omega
            obtain ⟨wz, hwz, gs, hgs, ws, hws, OSZ, OS, hbs, hss⟩ := start_zslot wr (⟨4, 0, 7, 0⟩ : Tb.Slot)
            subst hgs
            have OOs := hOO.below hbs hOO.lt
            have OCs := HC.out.below hbs HC.out.lt
            have HBs := hide (HB.out.trans (hbs.mono HB.out.size))
            have c1 : ws.cell? ⟨bb, oo + k, none⟩ = some (.int .u8 (x : Int)) := by rw [hbs.cell (p := ⟨bb, oo + k, none⟩) (by have := HB.out.size; simp only; omega)]; exact c0
            clear hbs hss hx2 hf m0 m1 z0 z1 hOO HO HC HB
            go_wp2_with (first | (refine load_ob rfl _ rfl rfl OOs ?_) | (refine store_slot rfl _ _ rfl rfl (c := (⟨4, 0, 7, 0⟩ : Tb.Slot)) rfl OSZ rfl ?_; rw [hws]) | (refine wpList_val (by rfl) (exec_load_slot0 (y := (⟨4, 0, 7, 0⟩ : Tb.Slot)) rfl rfl OS) ?_) | fail)
            refine (tbDrop_any o (⟨4, 0, 7, 0⟩ : Tb.Slot) Cont.none _ (Holds.bald HI.out.bald _ _) Cont.none_short (by rw [HI.out.cnt0]; omega)).mono ?_
            rintro e w2 ⟨⟨h0, rfl⟩ | ⟨h0, c, rfl, hH⟩, hb2⟩
            case inr => rw [dropE_8 HI.out.fits0 (by rw [HI.out.cnt0, hv]; rfl)] at h0; cases h0
            rw [dropE_8 HI.out.fits0 (by rw [HI.out.cnt0, hv]; rfl)]
            have OO2 := OOs.below hb2 OOs.lt
            have OC2 := OCs.below hb2 OCs.lt
            have HB2 := hide (HBs.out.trans (hb2.mono HBs.out.size))
            clear h0 hb2 OOs OCs HBs c1 OS OSZ hws hwz
            obtain ⟨w3, hw3, g3, hg3, w4, hw4, OZ4, ON4, hb4, hs4⟩ := start_zob w2 Ob.zero
            subst hg3
            have OO4 := OO2.below hb4 (by have := OO2.lt; omega)
            have OC4 := OC2.below hb4 (by have := OC2.lt; omega)
            have HB4 := hide (HB2.out.trans (hb4.mono (by have := HB2.out.size; omega)))
            have m : w4.cell? ⟨g5 + 1, 0, none⟩ = some (.int .i64 0) := (OC4.cell 0).trans (by simp [hv])
            have HV := hide hv
            clear hs4 hb4 OO2 OC2 HB2 ON4 hv
            go_wp2_with (first | (refine store_ob rfl _ _ rfl rfl (c := Ob.zero) rfl OZ4 rfl ?_; rw [hw4]) | fail)
            go_roundw
            case rel => exact ⟨k + 1, o, a, b, by go_num, by omega, by omega, by omega, by omega, HI, hide OO4, hide OC4, HB4⟩
            case measure => simp [intOf]; omega
          · obtain ⟨v, rfl⟩ : ∃ v, a = v + 1 := ⟨a - 1, by omega⟩
            have hvv : ((v + 1 : Nat) : Int) - 1 = (v : Int) := by omega
            have hvi : (v : Int) ≤ 41 := by omega
            have hvn : (((v + 1 : Nat) : Int) == 0) = false := by simp; omega
            have HVV := hide hvv
            clear hvv
            have d1 : (x : Int) / 2 % 2 = 0 := by omega
            have d2 : (x : Int) % 2 = 1 := by omega
            obtain ⟨wz, hwz, gs, hgs, ws, hws, OSZ, OS, hbs, hss⟩ := start_zslot wr (⟨4, 0, 7, 0⟩ : Tb.Slot)
            subst hgs
            have OOs := hOO.below hbs hOO.lt
            have OCs := HC.out.below hbs HC.out.lt
            have HBs := hide (HB.out.trans (hbs.mono HB.out.size))
            have c1 : ws.cell? ⟨bb, oo + k, none⟩ = some (.int .u8 (x : Int)) := by rw [hbs.cell (p := ⟨bb, oo + k, none⟩) (by have := HB.out.size; simp only; omega)]; exact c0
            clear hbs hss hx2 hf m0 m1 z0 z1 hOO HO HC HB
            go_wp2_with (first | (refine load_ob rfl _ rfl rfl OOs ?_) | (refine store_slot rfl _ _ rfl rfl (c := (⟨4, 0, 7, 0⟩ : Tb.Slot)) rfl OSZ rfl ?_; rw [hws]) | (refine wpList_val (by rfl) (exec_load_slot0 (y := (⟨4, 0, 7, 0⟩ : Tb.Slot)) rfl rfl OS) ?_) | fail)
            refine (tbDrop_any o (⟨4, 0, 7, 0⟩ : Tb.Slot) Cont.none _ (Holds.bald HI.out.bald _ _) Cont.none_short (by rw [HI.out.cnt0]; omega)).mono ?_
            rintro e w2 ⟨⟨h0, rfl⟩ | ⟨h0, c, rfl, hH⟩, hb2⟩
            case inl => exact absurd (dropE_0 HI.out.fits0 (by rw [HI.out.cnt0]; omega)) h0
            have hcv : o.cnt (⟨4, 0, 7, 0⟩ : Tb.Slot) - 1 = (v : Int) := by rw [HI.out.cnt0]; exact HVV.out
            rw [HI.out.gone0 hcv]
            obtain ⟨o2, ho2⟩ : ∃ o2, (o.relist c).setCnt (⟨4, 0, 7, 0⟩ : Tb.Slot) (o.cnt (⟨4, 0, 7, 0⟩ : Tb.Slot) - 1) = o2 := ⟨_, rfl⟩
            rw [ho2]
            have HI2 : Hid (HolderIs o2 v b) := hide (by rw [← ho2]; exact HI.out.set0 hH.is_bald hcv)
            have OO2 := OOs.below hb2 OOs.lt
            have OC2 := OCs.below hb2 OCs.lt
            have HB2 := hide (HBs.out.trans (hb2.mono HBs.out.size))
            clear h0 hH hb2 ho2 hcv OOs OCs HBs c1 OS OSZ hws hwz
            obtain ⟨w3, hw3, g3, hg3, w4, hw4, OZ4, ON4, hb4, hs4⟩ := start_zob w2 o2
            subst hg3
            have OO4 := OO2.below hb4 (by have := OO2.lt; omega)
            have OC4 := OC2.below hb4 (by have := OC2.lt; omega)
            have HB4 := hide (HB2.out.trans (hb4.mono (by have := HB2.out.size; omega)))
            have m : w4.cell? ⟨g5 + 1, 0, none⟩ = some (.int .i64 ((v : Int) + 1)) := (OC4.cell 0).trans (by simp)
            have z := OC4.free 0
            have hv1 : ((v : Int) + 1 == 0) = false := by simp; omega
            obtain ⟨w5, hw5⟩ : ∃ w, w4.setCell ⟨g5 + 1, 0, none⟩ (.int .i64 (v : Int)) = w := ⟨_, rfl⟩
            have OO5 : Obl w5 g5 61 (oc o) := by rw [← hw5]; exact OO4.put_other (b' := g5 + 1) (by omega) 0 _
            have ON5 : Obl w5 w2.heap.size 61 (oc o2) := by rw [← hw5]; exact ON4.put_other (b' := g5 + 1) (by have := OC2.lt; omega) 0 _
            have OC5 : Obl w5 (g5 + 1) 58 #[.int .i64 (v : Int), .int .i64 (b : Int)] := by rw [← hw5]; exact OC4.put 0 _
            have HB5 : Hid (Below W.heap.size W w5) := hide (by rw [← hw5]; exact HB4.out.setCell (p := ⟨g5 + 1, 0, none⟩) (by simp only; omega) _)
            have m0 : w5.cell? ⟨g5 + 1, 0, none⟩ = some (.int .i64 (v : Int)) := OC5.cell 0
            have m1 : w5.cell? ⟨g5 + 1, 1, none⟩ = some (.int .i64 (b : Int)) := OC5.cell 1
            have HB6 := hide (below_row HB5.out (g := g5) (by omega) (oc o2))
            have OO6 := hide (OO5.row_same (oc o2))
            have OC6 := hide (OC5.row_other (g := g5) (by omega) (oc o2))
            clear hs4 hb4 OO2 OC2 HB2 OC4 HB4 OO4 hvn
            by_cases q0 : v = 0
            · by_cases q1 : b = 0
              · rw [show (decide (v = 0) && decide (b = 0)) = true by simp [q0, q1]]
                have r0 : ((v : Int) == 0) = true := by simp [q0]
                have r1 : ((b : Int) == 0) = true := by simp [q1]
                clear q0 q1
                go_wp2_with (first | (refine store_ob rfl _ _ rfl rfl (c := o2) rfl OZ4 rfl ?_; rw [hw4]) | (refine load_ob rfl _ rfl rfl ON5 ?_) | (refine store_ob rfl _ _ rfl rfl (c := o2) rfl OO5 rfl ?_) | fail)
                go_roundw
                case rel => exact ⟨k + 1, o2, v, b, by go_num, by omega, by omega, by omega, by omega, HI2, OO6, OC6, HB6⟩
                case measure => simp [intOf]; omega
              · rw [show (decide (v = 0) && decide (b = 0)) = false by simp [q0, q1]]
                have r0 : ((v : Int) == 0) = true := by simp [q0]
                have r1 : ((b : Int) == 0) = false := by simp [q1]
                clear q0 q1
                go_wp2_with (first | (refine store_ob rfl _ _ rfl rfl (c := o2) rfl OZ4 rfl ?_; rw [hw4]) | (refine load_ob rfl _ rfl rfl ON5 ?_) | (refine store_ob rfl _ _ rfl rfl (c := o2) rfl OO5 rfl ?_) | fail)
                go_roundw
                case rel => exact ⟨k + 1, o2, v, b, by go_num, by omega, by omega, by omega, by omega, HI2, OO6, OC6, HB6⟩
                case measure => simp [intOf]; omega
            · rw [show (decide (v = 0) && decide (b = 0)) = false by simp [q0]]
              have r0 : ((v : Int) == 0) = false := by simp [q0]
              clear q0
              go_wp2_with (first | (refine store_ob rfl _ _ rfl rfl (c := o2) rfl OZ4 rfl ?_; rw [hw4]) | (refine load_ob rfl _ rfl rfl ON5 ?_) | (refine store_ob rfl _ _ rfl rfl (c := o2) rfl OO5 rfl ?_) | fail)
              go_roundw
              case rel => exact ⟨k + 1, o2, v, b, by go_num, by omega, by omega, by omega, by omega, HI2, OO6, OC6, HB6⟩
              case measure => simp [intOf]; omega
      · rcases (show x % 2 = 0 ∨ x % 2 = 1 by omega) with hx2 | hx2
        · skip
          have d1 : (x : Int) / 2 % 2 = 1 := by omega
          have d2 : (x : Int) % 2 = 0 := by omega
          obtain ⟨wz, hwz, gs, hgs, ws, hws, OSZ, OS, hbs, hss⟩ := start_zslot wr (⟨4, 0, 7, 1⟩ : Tb.Slot)
          subst hgs
          have OOs := hOO.below hbs hOO.lt
          have OCs := HC.out.below hbs HC.out.lt
          have HBs := hide (HB.out.trans (hbs.mono HB.out.size))
          have c1 : ws.cell? ⟨bb, oo + k, none⟩ = some (.int .u8 (x : Int)) := by rw [hbs.cell (p := ⟨bb, oo + k, none⟩) (by have := HB.out.size; simp only; omega)]; exact c0
          clear hbs hss hx2 hf m0 m1 z0 z1 hOO HO HC HB
          go_wp2_with (first | (refine load_ob rfl _ rfl rfl OOs ?_) | (refine store_slot rfl _ _ rfl rfl (c := (⟨4, 0, 7, 1⟩ : Tb.Slot)) rfl OSZ rfl ?_; rw [hws]) | (refine wpList_val (by rfl) (exec_load_slot0 (y := (⟨4, 0, 7, 1⟩ : Tb.Slot)) rfl rfl OS) ?_) | fail)
          refine (tbHold_any o (⟨4, 0, 7, 1⟩ : Tb.Slot) Cont.none _ (Holds.bald HI.out.bald _ _) Cont.none_short (by rw [HI.out.cnt1]; omega)).mono ?_
          rintro e w2 ⟨⟨h0, _⟩ | ⟨h0, c, rfl, hH⟩, hb2⟩
          · exact absurd (holdE_0 HI.out.fits1 (by rw [HI.out.cnt1]; omega)) h0
          obtain ⟨o2, ho2⟩ : ∃ o2, (o.relist c).setCnt (⟨4, 0, 7, 1⟩ : Tb.Slot) (o.cnt (⟨4, 0, 7, 1⟩ : Tb.Slot) + 1) = o2 := ⟨_, rfl⟩
          rw [ho2]
          have HI2 : Hid (HolderIs o2 a (b + 1)) := hide (by rw [← ho2]; exact HI.out.set1 hH.is_bald (by rw [HI.out.cnt1]; rfl))
          have OO2 := OOs.below hb2 OOs.lt
          have OC2 := OCs.below hb2 OCs.lt
          have HB2 := hide (HBs.out.trans (hb2.mono HBs.out.size))
          clear h0 hH hb2 ho2 OOs OCs HBs c1 OS OSZ hws hwz
          obtain ⟨w3, hw3, g3, hg3, w4, hw4, OZ4, ON4, hb4, hs4⟩ := start_zob w2 o2
          subst hg3
          have OO4 := OO2.below hb4 (by have := OO2.lt; omega)
          have OC4 := OC2.below hb4 (by have := OC2.lt; omega)
          have HB4 := hide (HB2.out.trans (hb4.mono (by have := HB2.out.size; omega)))
          obtain ⟨w5, hw5⟩ : ∃ w, w4.setRow g5 (oc o2) = w := ⟨_, rfl⟩
          have OO5 : Obl w5 g5 61 (oc o2) := by rw [← hw5]; exact OO4.row_same _
          have OC5 : Obl w5 (g5 + 1) 58 #[.int .i64 (a : Int), .int .i64 (b : Int)] := by rw [← hw5]; exact OC4.row_other (by omega) _
          have HB5 : Hid (Below W.heap.size W w5) := hide (by rw [← hw5]; exact below_row HB4.out (by omega) _)
          have m : w5.cell? ⟨g5 + 1, 1, none⟩ = some (.int .i64 (b : Int)) := OC5.cell 1
          have z := OC5.free 1
          clear hs4 hb4 OO2 OC2 HB2 OC4 HB4
          go_wp2_with (first | (refine store_ob rfl _ _ rfl rfl (c := o2) rfl OZ4 rfl ?_; rw [hw4]) | (refine load_ob rfl _ rfl rfl ON4 ?_) | (refine store_ob rfl _ _ rfl rfl (c := o2) rfl OO4 rfl ?_; rw [hw5]) | fail)
          go_roundw
          case rel => exact ⟨k + 1, o2, a, (b + 1), by go_num, by omega, by omega, by omega, by omega, HI2, hide (OO5.put_other (b' := g5 + 1) (by omega) 1 _), hide (obl_two (OC5.put 1 (.int .i64 ((b : Int) + 1))) (by simp) (by simp)), hide (HB5.out.setCell (p := ⟨g5 + 1, 1, none⟩) (by simp only; omega) _)⟩
          case measure => simp [intOf]; omega
        · skip
          by_cases hv : b = 0
          · skip
            have d1 : (x : Int) / 2 % 2 = 1 := by omega
            have d2 : (x : Int) % 2 = 1 := by omega
            obtain ⟨wz, hwz, gs, hgs, ws, hws, OSZ, OS, hbs, hss⟩ := start_zslot wr (⟨4, 0, 7, 1⟩ : Tb.Slot)
            subst hgs
            have OOs := hOO.below hbs hOO.lt
            have OCs := HC.out.below hbs HC.out.lt
            have HBs := hide (HB.out.trans (hbs.mono HB.out.size))
            have c1 : ws.cell? ⟨bb, oo + k, none⟩ = some (.int .u8 (x : Int)) := by rw [hbs.cell (p := ⟨bb, oo + k, none⟩) (by have := HB.out.size; simp only; omega)]; exact c0
            clear hbs hss hx2 hf m0 m1 z0 z1 hOO HO HC HB
            go_wp2_with (first | (refine load_ob rfl _ rfl rfl OOs ?_) | (refine store_slot rfl _ _ rfl rfl (c := (⟨4, 0, 7, 1⟩ : Tb.Slot)) rfl OSZ rfl ?_; rw [hws]) | (refine wpList_val (by rfl) (exec_load_slot0 (y := (⟨4, 0, 7, 1⟩ : Tb.Slot)) rfl rfl OS) ?_) | fail)
            refine (tbDrop_any o (⟨4, 0, 7, 1⟩ : Tb.Slot) Cont.none _ (Holds.bald HI.out.bald _ _) Cont.none_short (by rw [HI.out.cnt1]; omega)).mono ?_
            rintro e w2 ⟨⟨h0, rfl⟩ | ⟨h0, c, rfl, hH⟩, hb2⟩
            case inr => rw [dropE_8 HI.out.fits1 (by rw [HI.out.cnt1, hv]; rfl)] at h0; cases h0
            rw [dropE_8 HI.out.fits1 (by rw [HI.out.cnt1, hv]; rfl)]
            have OO2 := OOs.below hb2 OOs.lt
            have OC2 := OCs.below hb2 OCs.lt
            have HB2 := hide (HBs.out.trans (hb2.mono HBs.out.size))
            clear h0 hb2 OOs OCs HBs c1 OS OSZ hws hwz
            obtain ⟨w3, hw3, g3, hg3, w4, hw4, OZ4, ON4, hb4, hs4⟩ := start_zob w2 Ob.zero
            subst hg3
            have OO4 := OO2.below hb4 (by have := OO2.lt; omega)
            have OC4 := OC2.below hb4 (by have := OC2.lt; omega)
            have HB4 := hide (HB2.out.trans (hb4.mono (by have := HB2.out.size; omega)))
            have m : w4.cell? ⟨g5 + 1, 1, none⟩ = some (.int .i64 0) := (OC4.cell 1).trans (by simp [hv])
            have HV := hide hv
            clear hs4 hb4 OO2 OC2 HB2 ON4 hv
            go_wp2_with (first | (refine store_ob rfl _ _ rfl rfl (c := Ob.zero) rfl OZ4 rfl ?_; rw [hw4]) | fail)
            go_roundw
            case rel => exact ⟨k + 1, o, a, b, by go_num, by omega, by omega, by omega, by omega, HI, hide OO4, hide OC4, HB4⟩
            case measure => simp [intOf]; omega
          · obtain ⟨v, rfl⟩ : ∃ v, b = v + 1 := ⟨b - 1, by omega⟩
            have hvv : ((v + 1 : Nat) : Int) - 1 = (v : Int) := by omega
            have hvi : (v : Int) ≤ 41 := by omega
            have hvn : (((v + 1 : Nat) : Int) == 0) = false := by simp; omega
            have HVV := hide hvv
            clear hvv
            have d1 : (x : Int) / 2 % 2 = 1 := by omega
            have d2 : (x : Int) % 2 = 1 := by omega
            obtain ⟨wz, hwz, gs, hgs, ws, hws, OSZ, OS, hbs, hss⟩ := start_zslot wr (⟨4, 0, 7, 1⟩ : Tb.Slot)
            subst hgs
            have OOs := hOO.below hbs hOO.lt
            have OCs := HC.out.below hbs HC.out.lt
            have HBs := hide (HB.out.trans (hbs.mono HB.out.size))
            have c1 : ws.cell? ⟨bb, oo + k, none⟩ = some (.int .u8 (x : Int)) := by rw [hbs.cell (p := ⟨bb, oo + k, none⟩) (by have := HB.out.size; simp only; omega)]; exact c0
            clear hbs hss hx2 hf m0 m1 z0 z1 hOO HO HC HB
            go_wp2_with (first | (refine load_ob rfl _ rfl rfl OOs ?_) | (refine store_slot rfl _ _ rfl rfl (c := (⟨4, 0, 7, 1⟩ : Tb.Slot)) rfl OSZ rfl ?_; rw [hws]) | (refine wpList_val (by rfl) (exec_load_slot0 (y := (⟨4, 0, 7, 1⟩ : Tb.Slot)) rfl rfl OS) ?_) | fail)
            refine (tbDrop_any o (⟨4, 0, 7, 1⟩ : Tb.Slot) Cont.none _ (Holds.bald HI.out.bald _ _) Cont.none_short (by rw [HI.out.cnt1]; omega)).mono ?_
            rintro e w2 ⟨⟨h0, rfl⟩ | ⟨h0, c, rfl, hH⟩, hb2⟩
            case inl => exact absurd (dropE_0 HI.out.fits1 (by rw [HI.out.cnt1]; omega)) h0
            have hcv : o.cnt (⟨4, 0, 7, 1⟩ : Tb.Slot) - 1 = (v : Int) := by rw [HI.out.cnt1]; exact HVV.out
            rw [HI.out.gone1 hcv]
            obtain ⟨o2, ho2⟩ : ∃ o2, (o.relist c).setCnt (⟨4, 0, 7, 1⟩ : Tb.Slot) (o.cnt (⟨4, 0, 7, 1⟩ : Tb.Slot) - 1) = o2 := ⟨_, rfl⟩
            rw [ho2]
            have HI2 : Hid (HolderIs o2 a v) := hide (by rw [← ho2]; exact HI.out.set1 hH.is_bald hcv)
            have OO2 := OOs.below hb2 OOs.lt
            have OC2 := OCs.below hb2 OCs.lt
            have HB2 := hide (HBs.out.trans (hb2.mono HBs.out.size))
            clear h0 hH hb2 ho2 hcv OOs OCs HBs c1 OS OSZ hws hwz
            obtain ⟨w3, hw3, g3, hg3, w4, hw4, OZ4, ON4, hb4, hs4⟩ := start_zob w2 o2
            subst hg3
            have OO4 := OO2.below hb4 (by have := OO2.lt; omega)
            have OC4 := OC2.below hb4 (by have := OC2.lt; omega)
            have HB4 := hide (HB2.out.trans (hb4.mono (by have := HB2.out.size; omega)))
            have m : w4.cell? ⟨g5 + 1, 1, none⟩ = some (.int .i64 ((v : Int) + 1)) := (OC4.cell 1).trans (by simp)
            have z := OC4.free 1
            have hv1 : ((v : Int) + 1 == 0) = false := by simp; omega
            obtain ⟨w5, hw5⟩ : ∃ w, w4.setCell ⟨g5 + 1, 1, none⟩ (.int .i64 (v : Int)) = w := ⟨_, rfl⟩
            have OO5 : Obl w5 g5 61 (oc o) := by rw [← hw5]; exact OO4.put_other (b' := g5 + 1) (by omega) 1 _
            have ON5 : Obl w5 w2.heap.size 61 (oc o2) := by rw [← hw5]; exact ON4.put_other (b' := g5 + 1) (by have := OC2.lt; omega) 1 _
            have OC5 : Obl w5 (g5 + 1) 58 #[.int .i64 (a : Int), .int .i64 (v : Int)] := by rw [← hw5]; exact OC4.put 1 _
            have HB5 : Hid (Below W.heap.size W w5) := hide (by rw [← hw5]; exact HB4.out.setCell (p := ⟨g5 + 1, 1, none⟩) (by simp only; omega) _)
            have m0 : w5.cell? ⟨g5 + 1, 0, none⟩ = some (.int .i64 (a : Int)) := OC5.cell 0
            have m1 : w5.cell? ⟨g5 + 1, 1, none⟩ = some (.int .i64 (v : Int)) := OC5.cell 1
            have HB6 := hide (below_row HB5.out (g := g5) (by omega) (oc o2))
            have OO6 := hide (OO5.row_same (oc o2))
            have OC6 := hide (OC5.row_other (g := g5) (by omega) (oc o2))
            clear hs4 hb4 OO2 OC2 HB2 OC4 HB4 OO4 hvn
            by_cases q0 : a = 0
            · by_cases q1 : v = 0
              · rw [show (decide (a = 0) && decide (v = 0)) = true by simp [q0, q1]]
                have r0 : ((a : Int) == 0) = true := by simp [q0]
                have r1 : ((v : Int) == 0) = true := by simp [q1]
                clear q0 q1
                go_wp2_with (first | (refine store_ob rfl _ _ rfl rfl (c := o2) rfl OZ4 rfl ?_; rw [hw4]) | (refine load_ob rfl _ rfl rfl ON5 ?_) | (refine store_ob rfl _ _ rfl rfl (c := o2) rfl OO5 rfl ?_) | fail)
                go_roundw
                case rel => exact ⟨k + 1, o2, a, v, by go_num, by omega, by omega, by omega, by omega, HI2, OO6, OC6, HB6⟩
                case measure => simp [intOf]; omega
              · rw [show (decide (a = 0) && decide (v = 0)) = false by simp [q0, q1]]
                have r0 : ((a : Int) == 0) = true := by simp [q0]
                have r1 : ((v : Int) == 0) = false := by simp [q1]
                clear q0 q1
                go_wp2_with (first | (refine store_ob rfl _ _ rfl rfl (c := o2) rfl OZ4 rfl ?_; rw [hw4]) | (refine load_ob rfl _ rfl rfl ON5 ?_) | (refine store_ob rfl _ _ rfl rfl (c := o2) rfl OO5 rfl ?_) | fail)
                go_roundw
                case rel => exact ⟨k + 1, o2, a, v, by go_num, by omega, by omega, by omega, by omega, HI2, OO6, OC6, HB6⟩
                case measure => simp [intOf]; omega
            · rw [show (decide (a = 0) && decide (v = 0)) = false by simp [q0]]
              have r0 : ((a : Int) == 0) = false := by simp [q0]
              clear q0
              go_wp2_with (first | (refine store_ob rfl _ _ rfl rfl (c := o2) rfl OZ4 rfl ?_; rw [hw4]) | (refine load_ob rfl _ rfl rfl ON5 ?_) | (refine store_ob rfl _ _ rfl rfl (c := o2) rfl OO5 rfl ?_) | fail)
              go_roundw
              case rel => exact ⟨k + 1, o2, a, v, by go_num, by omega, by omega, by omega, by omega, HI2, OO6, OC6, HB6⟩
              case measure => simp [intOf]; omega
    · have hOO := HO.out
      by_cases hkn : k < n
      · have h1 : (k : Int) < (n : Int) := by omega
        have h2 : ¬ (k : Int) < 40 := by omega
        clear hlt
        have OCC := HC.out
        have heq : decide ([o.e0, o.e1] = [(a : Int), (b : Int)]) = true := by rw [HI.out.e0, HI.out.e1]; simp
        rcases (show en % 2 = 0 ∨ en % 2 = 1 by omega) with hf | hf
        · have d1 : (en : Int) % 2 = 0 := by omega
          clear hf
          go_wp2_with (first | (refine wpList_val (by rfl) (exec_load_ends rfl rfl hOO) ?_) | (refine wpList_val (by rfl) (exec_load_row (ty := 58) rfl rfl OCC rfl Try.underlying58 endsSize) ?_) | (refine wpList_val (by rfl) (exec_eql_ends rfl (L := [o.e0, o.e1]) (M := [(a : Int), (b : Int)]) rfl rfl rfl rfl) ?_; rw [heq]) | fail)
          refine (Holder_any (⟨4, 0, 7, 0⟩ : Tb.Slot) _).mono ?_
          rintro e w2 ⟨rfl, hb2⟩
          rw [show (Tb.holder (⟨4, 0, 7, 0⟩ : Tb.Slot)).1 = 7 by decide]
          have HB2 := hide (HB.out.trans (hb2.mono HB.out.size))
          clear hb2
          go_wp2_with fail
          go_ret
          exact ⟨rfl, HB2.out⟩
        · have d1 : (en : Int) % 2 = 1 := by omega
          clear hf
          go_wp2_with (first | (refine wpList_val (by rfl) (exec_load_ends rfl rfl hOO) ?_) | (refine wpList_val (by rfl) (exec_load_row (ty := 58) rfl rfl OCC rfl Try.underlying58 endsSize) ?_) | (refine wpList_val (by rfl) (exec_eql_ends rfl (L := [o.e0, o.e1]) (M := [(a : Int), (b : Int)]) rfl rfl rfl rfl) ?_; rw [heq]) | fail)
          refine (Holder_any (⟨4, 0, 7, 1⟩ : Tb.Slot) _).mono ?_
          rintro e w2 ⟨rfl, hb2⟩
          rw [show (Tb.holder (⟨4, 0, 7, 1⟩ : Tb.Slot)).1 = 7 by decide]
          have HB2 := hide (HB.out.trans (hb2.mono HB.out.size))
          clear hb2
          go_wp2_with fail
          go_ret
          exact ⟨rfl, HB2.out⟩
      · have h1 : ¬ (k : Int) < (n : Int) := by omega
        clear hlt
        have OCC := HC.out
        have heq : decide ([o.e0, o.e1] = [(a : Int), (b : Int)]) = true := by rw [HI.out.e0, HI.out.e1]; simp
        rcases (show en % 2 = 0 ∨ en % 2 = 1 by omega) with hf | hf
        · have d1 : (en : Int) % 2 = 0 := by omega
          clear hf
          go_wp2_with (first | (refine wpList_val (by rfl) (exec_load_ends rfl rfl hOO) ?_) | (refine wpList_val (by rfl) (exec_load_row (ty := 58) rfl rfl OCC rfl Try.underlying58 endsSize) ?_) | (refine wpList_val (by rfl) (exec_eql_ends rfl (L := [o.e0, o.e1]) (M := [(a : Int), (b : Int)]) rfl rfl rfl rfl) ?_; rw [heq]) | fail)
          refine (Holder_any (⟨4, 0, 7, 0⟩ : Tb.Slot) _).mono ?_
          rintro e w2 ⟨rfl, hb2⟩
          rw [show (Tb.holder (⟨4, 0, 7, 0⟩ : Tb.Slot)).1 = 7 by decide]
          have HB2 := hide (HB.out.trans (hb2.mono HB.out.size))
          clear hb2
          go_wp2_with fail
          go_ret
          exact ⟨rfl, HB2.out⟩
        · have d1 : (en : Int) % 2 = 1 := by omega
          clear hf
          go_wp2_with (first | (refine wpList_val (by rfl) (exec_load_ends rfl rfl hOO) ?_) | (refine wpList_val (by rfl) (exec_load_row (ty := 58) rfl rfl OCC rfl Try.underlying58 endsSize) ?_) | (refine wpList_val (by rfl) (exec_eql_ends rfl (L := [o.e0, o.e1]) (M := [(a : Int), (b : Int)]) rfl rfl rfl rfl) ?_; rw [heq]) | fail)
          refine (Holder_any (⟨4, 0, 7, 1⟩ : Tb.Slot) _).mono ?_
          rintro e w2 ⟨rfl, hb2⟩
          rw [show (Tb.holder (⟨4, 0, 7, 1⟩ : Tb.Slot)).1 = 7 by decide]
          have HB2 := hide (HB.out.trans (hb2.mono HB.out.size))
          clear hb2
          go_wp2_with fail
          go_ret
          exact ⟨rfl, HB2.out⟩
end Go.Proofs.Ytbbibbniphmgbaa
