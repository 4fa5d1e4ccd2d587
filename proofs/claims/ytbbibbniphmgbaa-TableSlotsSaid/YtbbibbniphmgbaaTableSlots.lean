/- The law TableSlots: which tables are valid, slots of descriptors, tables with one more slot or one less, holders, or the error, as the reference has them. -/
import Derived.Test.YtbbibbniphmgbaaTbDice
import Derived.Test.YtbbibbniphmgbaaTbRef
namespace Go.Proofs.Ytbbibbniphmgbaa
open Go.RowKit

/-- A table that stays where it is, whatever the dice do. -/
def Kept (b : Nat) (w : World) (A : Option Addr) (n : Nat) (l : List Tb.Slot) : Prop := ∀ w' : World, w.heap.size ≤ w'.heap.size → (∀ k, k < w.heap.size → k ≠ b → w'.heap[k]? = w.heap[k]?) → Slots w' w'.heap.size A n l
theorem Kept.slots {b : Nat} {w : World} {A : Option Addr} {n : Nat} {l : List Tb.Slot} (h : Kept b w A n l) : Slots w w.heap.size A n l := h w (Nat.le_refl _) (fun _ _ _ => rfl)
theorem Kept.bel {b : Nat} {w w' : World} {A : Option Addr} {n : Nat} {l : List Tb.Slot} (h : Kept b w A n l) (hb : Bel w.heap.size b w w') : Kept b w' A n l :=
  fun u h1 h2 => h u (Nat.le_trans hb.size h1) fun k k1 k2 => (h2 k (Nat.lt_of_lt_of_le k1 hb.size) k2).trans (hb.block k k1 k2)
theorem Kept.later {b : Nat} {w w' : World} {A : Option Addr} {n : Nat} {l : List Tb.Slot} (h : Kept b w A n l) (hb : Below w.heap.size w w') : Kept b w' A n l := h.bel (Bel.of hb)
theorem Slots.keptBy {b B : Nat} {w : World} {A : Option Addr} {n : Nat} {l : List Tb.Slot} (h : Slots w B A n l) (hB : B ≤ b) (hs : B ≤ w.heap.size) : Kept b w A n l := by
  intro u h1 h2
  refine ⟨h.1, (Row.keep h.2 fun p hp => ?_).mono (by omega)⟩
  unfold World.cell?
  rw [h2 p.block (by omega) (by omega)]
theorem PartOf.keptBy {b base : Nat} {w : World} {A : Option Addr} {n c : Nat} {l : List Tb.Slot} (h : PartOf w base A n c l) (hb : b < base) : Kept b w A n l := by
  intro u h1 h2
  obtain ⟨m, L, h3, h4, rfl⟩ := h
  exact (Slots.of_own (own_keep h3 fun g g1 g2 => h2 g g2 (by omega))).takeN h4
theorem own_part {base : Nat} {w : World} {A : Option Addr} {n c : Nat} {l : List Tb.Slot} (h : w.ownsRow base 25 4 (.slice A n c) n (stv l)) : PartOf w base A n c l := ⟨n, l, h, Nat.le_refl _, by have := own_slots h; rw [List.take_of_length_le (by omega)]⟩
theorem exec_slices3 {w : World} (g : Nat) {A B D : Option Addr} {a b d a' b' d' : Nat} {t : TypeId} (h : Obl w g t #[.slice A a a', .slice B b b', .slice D d d']) : w.cell? ⟨g, 0, none⟩ = some (.slice A a a') ∧ w.cell? ⟨g, 1, none⟩ = some (.slice B b b') ∧ w.cell? ⟨g, 2, none⟩ = some (.slice D d d') := ⟨h.cell 0, h.cell 1, h.cell 2⟩
set_option maxRecDepth 100000 in
set_option maxHeartbeats 64000000 in
theorem tableSlots_any (rawA : Option Addr) (rn rc : Nat) (raw : List Tb.Slot) (s : Tb.Slot) (A : Option Addr) (n cap : Nat) (l : List UInt8) (i : Int) (W : World) (hraw : Slots W W.heap.size rawA rn raw) (hrn : rn ≤ rc ∧ rc ≤ 9223372036854775807) (h : Bytes W W.heap.size A n l) (hn : n ≤ cap ∧ cap ≤ 9223372036854775807) :
    Calls Try.prog 3 #[.slice rawA rn rc, sta s, .slice A n cap, .int .i64 i] W (BoolPost true W) := by
  obtain ⟨w0, hw0, m0, hm0, O0, hb0, hs0⟩ := start_sl W s
  subst hm0
  have HR := hide (h.below hb0)
  have HRAW := hide hraw
  have HB0 := hide hb0
  have hrl : raw.length = rn := hraw.len
  have hrn' : (rn : Int) ≤ 9223372036854775807 := by omega
  have hsz0 : W.heap.size < w0.heap.size := by omega
  clear h hraw hb0 hs0
  go_enter Try.func3, Try.ntmps3
  go_wp2_with fail
  refine (sane10_any _).mono ?_
  rintro e w1 ⟨rfl, hb1⟩
  have HB1 := hide (HB0.out.trans (hb1.mono HB0.out.size))
  have O1 := O0.below hb1 O0.lt
  have HR1 := hide (HR.out.belowLe hb1 (by omega))
  have hw01 : w0.heap.size ≤ w1.heap.size := hb1.size
  clear hb1 HR HB0 O0 hw0
  by_cases h40 : 40 < rn
  · have h40' : (40 : Int) < (rn : Int) := by omega
    go_wp2_with fail
    go_ret
    exact ⟨rfl, HB1.out⟩
  have h40' : ¬ (40 : Int) < (rn : Int) := by omega
  go_wp2_with fail
  refine (new_dice W.heap.size A n cap l _ HR1.out HB1.out.size hn).mono ?_
  rintro e w2 ⟨rfl, hD, hb2, hs2⟩
  have HB2 := hide (HB1.out.trans (hb2.mono HB1.out.size))
  have O2 := O1.below hb2 O1.lt
  obtain ⟨b, hb⟩ : ∃ b, w1.heap.size = b := ⟨_, rfl⟩
  rw [hb] at hD hs2 ⊢
  have hbW : W.heap.size < b := by omega
  have HD2 := hide hD
  have hb2l : b < w2.heap.size := by omega
  have HRW : Hid (Slots W W.heap.size rawA rn raw) := HRAW
  clear hD hb2 hs2 hb hw01 HR1 HB1 O1 HRAW
  go_wp2_with (first | (at_make; refine wpList_make_rd rfl _ _ _ rfl slotTy _ _ _ 16 rfl rfl rfl (by omega) (by unfold maxLen; omega) ?_; intro w3 hown3 hg3; have HB3 := hide (HB2.out.trans ((below_none hg3).mono HB2.out.size)); have O3 := O2.below (below_none hg3) O2.lt; have HD3 := hide (HD2.out.below (below_none hg3)); have HO3 := hide hown3; have hs3 : w2.heap.size ≤ w3.heap.size := hg3.size; clear hown3 hg3 O2 HD2 HB2) | fail)
  have hfb : b < w3.heap.size := by omega
  go_loopw [10] (fun s10 wr => ∃ (m c : Nat) (F : Option Addr) (L : List Tb.Slot), s10 = .slice F m c ∧ m ≤ 16 ∧ Hid (wr.ownsRow w2.heap.size 25 4 (.slice F m c) m (stv L)) ∧ Hid (Obl wr W.heap.size 25 #[.int .i64 s.kind, .int .u64 s.desc, .int .u64 s.target, .int .i64 s.fin]) ∧ Hid (Dice wr b b) ∧ Hid (Below W.heap.size W wr) ∧ w2.heap.size ≤ wr.heap.size) (fun s10 _ => 16 - slLen s10)
  case atStart => exact ⟨0, 16, _, [], rfl, by omega, HO3, hide O3, HD3, HB3, hs3⟩
  case round =>
    obtain ⟨m, c, F, L, rfl, hm, HO, HOs, HD, HB, hw2r⟩ := hrel
    have hWr := HB.out.size
    have hblt := HD.out.lt
    go_wp2_with fail
    refine (next_dice b b 2 _ HD.out (by omega) (by omega)).mono ?_
    rintro e w4 ⟨v, rfl, hv, hD, hB⟩
    have HD4 := hide hD
    have O4 := hB.obl' HOs.out (by omega)
    have HB4 := hide (HB.out.trans ((hB.below (by omega) (Nat.le_refl _) : Below b wr w4).mono (by omega)))
    have HO4 := hide (own_bel HO.out hB (by omega))
    have hw24 : w2.heap.size ≤ w4.heap.size := Nat.le_trans hw2r hB.size
    have hv0 := hv.1
    have hv1 : v ≤ 1 := by omega
    clear hD hB hv HO HOs HD HB hWr hblt hw2r
    by_cases hlt : (m : Int) < 16 - v
    · go_wp2_with fail
      refine (slot_dice b b _ HD4.out).mono ?_
      rintro e w5 ⟨x, rfl, hx, hD, hB⟩
      have hblt := HD4.out.lt
      have HD5 := hide hD
      have HO5 := hide (hB.obl' O4 (by omega))
      have HB5 := hide (HB4.out.trans ((hB.below (by omega) (Nat.le_refl _) : Below b w4 w5).mono (by omega)))
      have HW5 := hide (own_bel HO4.out hB (by omega))
      have hw5 : w2.heap.size ≤ w5.heap.size := Nat.le_trans hw24 hB.size
      clear hD hB hx O4 HD4 HB4 HO4
      go_wp2_with (first | (at_builtin; refine wpList_append_rd rfl _ _ _ rfl slotTy (base := w2.heap.size) rfl (HW5.out.alloc (.cells #[.int .i64 x.kind, .int .u64 x.desc, .int .u64 x.target, .int .i64 x.fin] 25)) rfl (Row.slot w5 x 25) (by simp [Value.oneCell']) (by unfold maxLen; omega) (by omega) (by simp; omega) ?_; intro A7 c7 w7 hown7 hg7 _; have HB7 := hide (below_own ((Below.refl w2.heap.size w5).alloc hw5 _) (HW5.out.alloc _) hg7 (by simp; omega)); have HD7 := hide ((HD5.out.alloc _).grown hg7 (fun e => by have := own_blk_ge HW5.out e.symm; omega) (fun k hk => by have := own_blk_ge HW5.out hk; omega)); have hw7 : w2.heap.size ≤ w7.heap.size := Nat.le_trans hw5 HB7.out.size; rw [stv_snoc L x] at hown7; have HO7 := hide hown7; clear hown7 hg7) | fail)
      have HOs7 := hide (HO5.out.below HB7.out (by omega))
      have HB8 := hide (HB5.out.trans (HB7.out.mono (by omega)))
      go_roundw
      case rel => exact ⟨m + 1, c7, A7, L ++ [x], rfl, by omega, HO7, HOs7, HD7, HB8, hw7⟩
      case measure => simp [slLen]; omega
    · go_wp2_with fail
      refine (table_dice b b _ HD4.out).mono ?_
      rintro e w5 ⟨B, tn, tc, t, rfl, hT, hm5, hV, hD, hB⟩
      have hb4 := HD4.out.lt
      have HD5 := hide hD
      have O5 := hB.obl' O4 (by omega)
      have HB5 := hide (HB4.out.trans ((hB.below (by omega) (Nat.le_refl _) : Below b w4 w5).mono (by omega)))
      have hTC : tn ≤ tc ∧ tc ≤ 9223372036854775807 := hT.2
      have HKr := hide ((HRW.out.below HB5.out).keptBy (b := b) (by omega) HB5.out.size)
      have HKt := hide (hT.1.keptBy hb4)
      have HKf := hide ((own_part (own_bel HO4.out hB (by omega))).keptBy (b := b) (by omega))
      have hFC : m ≤ c ∧ c ≤ 9223372036854775807 := ⟨own_cap HO4.out, own_cap63 HO4.out⟩
      clear hT hV hD hB O4 HD4 HB4 HO4 hb4
      obtain ⟨w6, hw6, gT, hgT, OT, hb6⟩ : ∃ w6, w5.alloc (.cells #[.slice rawA rn rc, .slice B tn tc, .slice F m c] 22) = w6 ∧ ∃ gT, w5.heap.size = gT ∧ Obl w6 gT 22 #[.slice rawA rn rc, .slice B tn tc, .slice F m c] ∧ Below w5.heap.size w5 w6 := ⟨_, rfl, _, rfl, Obl.make w5 _ _, (Below.refl _ _).alloc (Nat.le_refl _) _⟩
      have HD6 := hide (HD5.out.below hb6)
      have O6 := hide (O5.below hb6 O5.lt)
      have HB6 := hide (HB5.out.trans (hb6.mono HB5.out.size))
      have HKr6 := hide (HKr.out.later hb6)
      have HKt6 := hide (HKt.out.later hb6)
      have HKf6 := hide (HKf.out.later hb6)
      have hbT : b < gT := by have := HD5.out.lt; omega
      have HOT := hide OT
      clear hb6 O5 HD5 HB5 HKr HKt HKf OT
      go_wp2_with fail
      clear hw6 hgT
      go_loopw [56] (fun s56 wr => ∃ q : Nat, s56 = .int .i64 (q : Int) ∧ q ≤ 3 ∧ Hid (Obl wr W.heap.size 25 #[.int .i64 s.kind, .int .u64 s.desc, .int .u64 s.target, .int .i64 s.fin]) ∧ Hid (Obl wr gT 22 #[.slice rawA rn rc, .slice B tn tc, .slice F m c]) ∧ Hid (Dice wr b b) ∧ Hid (Below W.heap.size W wr) ∧ Hid (Kept b wr rawA rn raw) ∧ Hid (Kept b wr B tn t) ∧ Hid (Kept b wr F m L)) (fun s56 _ => 3 - (intOf s56).toNat)
      case atStart => exact ⟨0, rfl, by omega, O6, HOT, HD6, HB6, HKr6, HKt6, HKf6⟩
      case round =>
        obtain ⟨q, rfl, hq, HOs, HOT, HD, HB, HKr, HKt, HKf⟩ := hrel
        by_cases hq3 : q < 3
        · have hq3' : (q : Int) < 3 := by omega
          obtain ⟨TA, un, uc, tl, hcell, hkept, huc⟩ : ∃ TA un uc tl, wr.cell? ⟨gT, q, none⟩ = some (.slice TA un uc) ∧ Kept b wr TA un tl ∧ (un ≤ uc ∧ uc ≤ 9223372036854775807) := by
            rcases (show q = 0 ∨ q = 1 ∨ q = 2 by omega) with rfl | rfl | rfl
            · exact ⟨rawA, rn, rc, raw, HOT.out.cell 0, HKr.out, hrn⟩
            · exact ⟨B, tn, tc, t, HOT.out.cell 1, HKt.out, hTC⟩
            · exact ⟨F, m, c, L, HOT.out.cell 2, HKf.out, hFC⟩
          have HKx := hide hkept
          have huc' : (un : Int) ≤ 9223372036854775807 := by omega
          have hbl := HD.out.lt
          clear hkept
          go_wp2_with fail
          clear hcell
          refine region_D (by kernel_rfl) wr.heap.size b [] ?_
          obtain ⟨u, hu, OU, HOT2, HD2, HB2, HKr2, HKt2, HKf2, HKx2, hus⟩ : ∃ u, wr.drew = u ∧ Obl u W.heap.size 25 #[.int .i64 s.kind, .int .u64 s.desc, .int .u64 s.target, .int .i64 s.fin] ∧ Hid (Obl u gT 22 #[.slice rawA rn rc, .slice B tn tc, .slice F m c]) ∧ Hid (Dice u b b) ∧ Hid (Below W.heap.size W u) ∧ Hid (Kept b u rawA rn raw) ∧ Hid (Kept b u B tn t) ∧ Hid (Kept b u F m L) ∧ Hid (Kept b u TA un tl) ∧ u.heap.size = wr.heap.size :=
            have hd : Below wr.heap.size wr wr.drew := ⟨rfl, rfl, rfl, Nat.le_refl _, fun _ _ => rfl⟩
            ⟨_, rfl, HOs.out, HOT, hide (HD.out.below hd), hide (HB.out.trans (hd.mono HB.out.size)), hide (HKr.out.later hd), hide (HKt.out.later hd), hide (HKf.out.later hd), hide (HKx.out.later hd), rfl⟩
          rw [hu]
          have hus' : u.heap.size ≤ wr.heap.size := by omega
          have hus2 : wr.heap.size ≤ u.heap.size := by omega
          clear hu HOs HOT HD HB HKr HKt HKf HKx hus
          refine takeD 0 [0, 3, 4] rfl (by kernel_rfl) (fun _ _ _ h => h) (by rfl) (by intro w' hg; exact exec_load_slot0 (y := s) rfl rfl (hg.obl OU (by omega) (by omega))) ?_
          refine takeDX 1 rfl (by kernel_rfl) (fun _ _ _ h => h) (by rfl) (by intro w'; go_simp; try with_reducible rfl) ?_
          refine takeDX 5 rfl (by kernel_rfl) (fun _ _ _ h => h) (by rfl) (by intro w'; go_simp; try with_reducible rfl) ?_
          refine onlyD 2 rfl (by kernel_rfl) (by rfl) ?_
          intro K hK
          go_simp
          refine (slot_dice b b _ HD2.out).mono ?_
          rintro e u3 ⟨x, rfl, hx, hD, hB⟩
          have HX := hide hx
          have HD3 := hide hD
          have HO3 := hide (hB.obl' OU (by omega))
          have HT3 := hide (hB.obl' HOT2.out (by omega))
          have HB3 := hide (HB2.out.trans ((hB.below (by omega) (Nat.le_refl _) : Below b u u3).mono (by omega)))
          have HKr3 := hide (HKr2.out.bel hB)
          have HKt3 := hide (HKt2.out.bel hB)
          have HKf3 := hide (HKf2.out.bel hB)
          have HKx3 := hide (HKx2.out.bel hB)
          have hu3 : u.heap.size ≤ u3.heap.size := hB.size
          refine hK _ _ (fun _ => hB.mono (by omega)) ?_
          clear hK K hx hD hB OU HOT2 HD2 HB2 HKr2 HKt2 HKf2 HKx2
          refine onlyD 3 rfl (by kernel_rfl) (by rfl) ?_
          intro K hK
          go_simp
          obtain ⟨u4, hu4, OP, hb4⟩ : ∃ u4, u3.alloc (.cells #[.int .i64 s.kind, .int .u64 s.desc, .int .u64 s.target, .int .i64 s.fin, .int .i64 x.kind, .int .u64 x.desc, .int .u64 x.target, .int .i64 x.fin] 25) = u4 ∧ Obl u4 u3.heap.size 25 #[.int .i64 s.kind, .int .u64 s.desc, .int .u64 s.target, .int .i64 s.fin, .int .i64 x.kind, .int .u64 x.desc, .int .u64 x.target, .int .i64 x.fin] ∧ Below u3.heap.size u3 u4 := ⟨_, rfl, Obl.make u3 _ _, (Below.refl _ _).alloc (Nat.le_refl _) _⟩
          rw [hu4]
          refine hK _ _ (fun _ => Bel.of (hb4.mono (by omega))) ?_
          clear hK K hu4
          obtain ⟨gS, hgS⟩ : ∃ gS, u3.heap.size = gS := ⟨_, rfl⟩
          have hbS : b < gS := by have := HD3.out.lt; omega
          have HB4 := hide (HB3.out.trans (hb4.mono HB3.out.size))
          have HD4 := hide (HD3.out.below hb4)
          have HO4 := hide (HO3.out.below hb4 HO3.out.lt)
          have HT4 := hide (HT3.out.below hb4 HT3.out.lt)
          have HKr4 := hide (HKr3.out.later hb4)
          have HKt4 := hide (HKt3.out.later hb4)
          have HKf4 := hide (HKf3.out.later hb4)
          have HKx4 := hide (HKx3.out.later hb4)
          rw [hgS] at OP ⊢
          have HOP := hide OP
          clear hb4 HB3 HD3 HO3 HT3 HKr3 HKt3 HKf3 HKx3 hgS OP hus' hus2 hu3 hbl
          generalize wr = wo at *
          refine takeDX 4 rfl (by kernel_rfl) (fun _ _ _ h => h) (by rfl) (by intro w'; go_simp; try with_reducible rfl) ?_
          refine doneD (by kernel_rfl) ?_
          go_simp
          go_wp2_with fail
          go_loopw [65] (fun s65 wr => ∃ r : Nat, s65 = .int .i64 (r : Int) ∧ r ≤ 2 ∧ Hid (Obl wr W.heap.size 25 #[.int .i64 s.kind, .int .u64 s.desc, .int .u64 s.target, .int .i64 s.fin]) ∧ Hid (Obl wr gT 22 #[.slice rawA rn rc, .slice B tn tc, .slice F m c]) ∧ Hid (Dice wr b b) ∧ Hid (Below W.heap.size W wr) ∧ Hid (Kept b wr rawA rn raw) ∧ Hid (Kept b wr B tn t) ∧ Hid (Kept b wr F m L) ∧ Hid (Kept b wr TA un tl) ∧ Hid (Obl wr gS 25 #[.int .i64 s.kind, .int .u64 s.desc, .int .u64 s.target, .int .i64 s.fin, .int .i64 x.kind, .int .u64 x.desc, .int .u64 x.target, .int .i64 x.fin])) (fun s65 _ => 2 - (intOf s65).toNat)
          case atStart => exact ⟨0, rfl, by omega, HO4, HT4, HD4, HB4, HKr4, HKt4, HKf4, HKx4, HOP⟩
          case round =>
            obtain ⟨r, rfl, hr, HOs, HOT, HD, HB, HKr, HKt, HKf, HKx, HOP⟩ := hrel
            by_cases hr2 : r < 2
            · have hr2' : (r : Int) < 2 := by omega
              obtain ⟨y, c0, c1, c2, c3⟩ : ∃ y : Tb.Slot, wr.cell? ⟨gS, r * 4, none⟩ = some (.int .i64 y.kind) ∧ wr.cell? ⟨gS, r * 4 + 1, none⟩ = some (.int .u64 y.desc) ∧ wr.cell? ⟨gS, r * 4 + 2, none⟩ = some (.int .u64 y.target) ∧ wr.cell? ⟨gS, r * 4 + 3, none⟩ = some (.int .i64 y.fin) := by
                rcases (show r = 0 ∨ r = 1 by omega) with rfl | rfl
                · exact ⟨s, HOP.out.cell 0, HOP.out.cell 1, HOP.out.cell 2, HOP.out.cell 3⟩
                · exact ⟨x, HOP.out.cell 4, HOP.out.cell 5, HOP.out.cell 6, HOP.out.cell 7⟩
              obtain ⟨PL, pi, pe, hput⟩ : ∃ PL pi pe, Tb.put tl y = (PL, pi, pe) := ⟨_, _, _, rfl⟩
              have HPUT := hide hput
              have e1 : (pi != pi) = false := by simp
              have e2 : (pe != pe) = false := by simp
              clear hput
              obtain ⟨wz, hwz, g14, hg14, wn, hwn, OZ, ON, hbn, hsn⟩ := start_zslot wr y
              subst hg14
              clear hsn
              have os_1 := hide (HOs.out.below hbn HOs.out.lt)
              have ot_1 := hide (HOT.out.below hbn HOT.out.lt)
              have d_1 := hide (HD.out.below hbn)
              have B_1 := hide (HB.out.trans (hbn.mono HB.out.size))
              have kr_1 := hide (HKr.out.later hbn)
              have kt_1 := hide (HKt.out.later hbn)
              have kf_1 := hide (HKf.out.later hbn)
              have kx_1 := hide (HKx.out.later hbn)
              have op_1 := hide (HOP.out.below hbn HOP.out.lt)
              clear hbn HOs HOT HD HB HKr HKt HKf HKx HOP
              go_wp2_with (first | (refine wpList_val (by rfl) (exec_load_slot rfl rfl c0 c1 c2 c3) ?_) | (refine store_slot rfl _ _ rfl rfl (c := y) rfl OZ rfl ?_; rw [hwn]) | (refine wpList_val (by rfl) (exec_load_slot0 (y := y) rfl rfl ON) ?_) | fail)
              clear c0 c1 c2 c3 hwz hwn OZ
              refine (tbPut_any tl y TA un uc _ _ kx_1.out.slots (Nat.le_refl _) huc).mono ?_
              intro e w6 hp
              obtain ⟨X, nx, cx, rfl, hX, hnx, hb6⟩ := hp.got HPUT.out
              have HNX := hide hnx
              have HX6 := hide hX
              clear hp hX hnx
              have os_2 := hide (os_1.out.below hb6 os_1.out.lt)
              have ot_2 := hide (ot_1.out.below hb6 ot_1.out.lt)
              have d_2 := hide (d_1.out.below hb6)
              have B_2 := hide (B_1.out.trans (hb6.mono B_1.out.size))
              have kr_2 := hide (kr_1.out.later hb6)
              have kt_2 := hide (kt_1.out.later hb6)
              have kf_2 := hide (kf_1.out.later hb6)
              have kx_2 := hide (kx_1.out.later hb6)
              have op_2 := hide (op_1.out.below hb6 op_1.out.lt)
              have n_2 := ON.below hb6 ON.lt
              clear hb6 os_1 ot_1 d_1 B_1 kr_1 kt_1 kf_1 kx_1 op_1 ON
              go_wp2_with (first | (refine wpList_val (by rfl) (exec_load_slot0 (y := y) rfl rfl n_2) ?_) | fail)
              refine (rfPut_any tl y TA un uc _ _ kx_2.out.slots (Nat.le_refl _) huc).mono ?_
              intro e w7 hp
              obtain ⟨Y, ny, cy, rfl, hY, hny, hb7⟩ := hp.got HPUT.out
              have HNY := hide hny
              have HY7 := hide hY
              clear hp hY hny
              have os_3 := hide (os_2.out.below hb7 os_2.out.lt)
              have ot_3 := hide (ot_2.out.below hb7 ot_2.out.lt)
              have d_3 := hide (d_2.out.below hb7)
              have B_3 := hide (B_2.out.trans (hb7.mono B_2.out.size))
              have kr_3 := hide (kr_2.out.later hb7)
              have kt_3 := hide (kt_2.out.later hb7)
              have kf_3 := hide (kf_2.out.later hb7)
              have kx_3 := hide (kx_2.out.later hb7)
              have op_3 := hide (op_2.out.below hb7 op_2.out.lt)
              have n_3 := n_2.below hb7 n_2.lt
              have X_3 := hide (HX6.out.later hb7)
              clear hb7 os_2 ot_2 d_2 B_2 kr_2 kt_2 kf_2 kx_2 op_2 n_2 HX6
              go_wp2_with fail
              have hdr : Below w7.heap.size w7 w7.drew := ⟨rfl, rfl, rfl, Nat.le_refl _, fun _ _ => rfl⟩
              have hn7 : wr.heap.size < w7.heap.size := n_3.lt
              refine region_B (by kernel_rfl) w7.heap.size ?_
              obtain ⟨wd, hwd⟩ : ∃ wd, w7.drew = wd := ⟨_, rfl⟩
              rw [hwd] at hdr ⊢
              have hd7 : w7.heap.size ≤ wd.heap.size := hdr.size
              clear hwd
              have os_4 := hide (os_3.out.below hdr os_3.out.lt)
              have ot_4 := hide (ot_3.out.below hdr ot_3.out.lt)
              have d_4 := hide (d_3.out.below hdr)
              have B_4 := hide (B_3.out.trans (hdr.mono B_3.out.size))
              have kr_4 := hide (kr_3.out.later hdr)
              have kt_4 := hide (kt_3.out.later hdr)
              have kf_4 := hide (kf_3.out.later hdr)
              have kx_4 := hide (kx_3.out.later hdr)
              have op_4 := hide (op_3.out.below hdr op_3.out.lt)
              have n_4 := n_3.below hdr n_3.lt
              have X_4 := hide (X_3.out.later hdr)
              have Y_4 := hide (HY7.out.later hdr)
              clear hdr os_3 ot_3 d_3 B_3 kr_3 kt_3 kf_3 kx_3 op_3 n_3 X_3 HY7
              refine takeB 0 rfl (by kernel_rfl) (fun _ _ _ h => h) (by rfl) (by intro w' hg; go_simp; try with_reducible rfl) ?_
              refine takeB 1 rfl (by kernel_rfl) (fun _ _ _ h => h) (by rfl) (by intro w' hg; go_simp; try with_reducible rfl) ?_
              refine takeB 2 rfl (by kernel_rfl) (fun _ _ _ h => h) (by rfl) (by intro w' hg; go_simp; try with_reducible rfl) ?_
              refine takeB 3 rfl (by kernel_rfl) (fun _ _ _ h => h) (by rfl) (by intro w' hg; go_simp; try with_reducible rfl) ?_
              refine takeB 4 rfl (by kernel_rfl) (fun _ _ _ h => h) (by kernel_rfl) (by intro w' hg; go_simp; try with_reducible rfl) ?_
              refine takeB 5 rfl (by kernel_rfl) (fun _ _ _ h => h) (by kernel_rfl) (by intro w' hg; go_simp; try with_reducible rfl) ?_
              refine takeB 6 rfl (by kernel_rfl) (fun _ _ _ h => h) (by kernel_rfl) (by intro w' hg; go_simp; try with_reducible rfl) ?_
              refine takeB 7 rfl (by kernel_rfl) (fun _ _ _ h => h) (by rfl) (by intro w' hg; go_simp; try with_reducible rfl) ?_
              refine takeB 8 rfl (by kernel_rfl) (fun _ _ _ h => h) (by rfl) (by intro w' hg; go_simp; try with_reducible rfl) ?_
              refine takeB 9 rfl (by kernel_rfl) (fun _ _ _ h => h) (by kernel_rfl) (by intro w' hg; go_simp; try with_reducible rfl) ?_
              refine takeB 10 rfl (by kernel_rfl) (fun _ _ _ h => h) (by kernel_rfl) (by intro w' hg; go_simp; try with_reducible rfl) ?_
              refine onlyB 11 rfl (by kernel_rfl) (by kernel_rfl) ?_
              intro K hK
              go_simp
              refine (tbSame_any X Y nx ny cx cy _ PL PL _ X_4.out Y_4.out (by have := HNX.out; omega) (by have := HNY.out; omega)).mono ?_
              rintro e v1 ⟨rfl, hv1⟩
              rw [show decide (PL = PL) = true by simp]
              refine hK _ _ (hv1.mono (by omega)) ?_
              have hv7 : w7.heap.size ≤ v1.heap.size := Nat.le_trans hd7 hv1.size
              have os_5 := hide (os_4.out.below hv1 os_4.out.lt)
              have ot_5 := hide (ot_4.out.below hv1 ot_4.out.lt)
              have d_5 := hide (d_4.out.below hv1)
              have B_5 := hide (B_4.out.trans (hv1.mono B_4.out.size))
              have kr_5 := hide (kr_4.out.later hv1)
              have kt_5 := hide (kt_4.out.later hv1)
              have kf_5 := hide (kf_4.out.later hv1)
              have kx_5 := hide (kx_4.out.later hv1)
              have op_5 := hide (op_4.out.below hv1 op_4.out.lt)
              have n_5 := n_4.below hv1 n_4.lt
              have X_5 := hide (X_4.out.later hv1)
              have Y_5 := hide (Y_4.out.later hv1)
              clear hv1 os_4 ot_4 d_4 B_4 kr_4 kt_4 kf_4 kx_4 op_4 n_4 X_4 Y_4 hK K
              clear X_5 Y_5
              refine takeB 12 rfl (by kernel_rfl) (fun _ _ _ h => h) (by kernel_rfl) (by intro w' hg; go_simp; try with_reducible rfl) ?_
              refine takeB 13 rfl (by kernel_rfl) (fun _ _ _ h => h) (by rfl) (by intro w' hg; go_simp; try with_reducible rfl) ?_
              refine takeB 14 rfl (by kernel_rfl) (fun _ _ _ h => h) (by rfl) (by intro w' hg; go_simp; try with_reducible rfl) ?_
              refine takeB 15 rfl (by kernel_rfl) (fun _ _ _ h => h) (by kernel_rfl) (by intro w' hg; exact exec_load_slot0 (y := y) rfl rfl (n_5.below hg (by omega))) ?_
              refine takeB 17 rfl (by kernel_rfl) (fun _ _ _ h => h) (by kernel_rfl) (by intro w' hg; exact exec_load_slot0 (y := y) rfl rfl (n_5.below hg (by omega))) ?_
              refine onlyB 16 rfl (by kernel_rfl) (by kernel_rfl) ?_
              intro K hK
              go_simp
              refine (Holder_any y _).mono ?_
              rintro e v2 ⟨rfl, hv2⟩
              refine hK _ _ (hv2.mono (by omega)) ?_
              have hv72 : w7.heap.size ≤ v2.heap.size := Nat.le_trans hv7 hv2.size
              have os_6 := hide (os_5.out.below hv2 os_5.out.lt)
              have ot_6 := hide (ot_5.out.below hv2 ot_5.out.lt)
              have d_6 := hide (d_5.out.below hv2)
              have B_6 := hide (B_5.out.trans (hv2.mono B_5.out.size))
              have kr_6 := hide (kr_5.out.later hv2)
              have kt_6 := hide (kt_5.out.later hv2)
              have kf_6 := hide (kf_5.out.later hv2)
              have kx_6 := hide (kx_5.out.later hv2)
              have op_6 := hide (op_5.out.below hv2 op_5.out.lt)
              have n_6 := n_5.below hv2 n_5.lt
              clear hv2 os_5 ot_5 d_5 B_5 kr_5 kt_5 kf_5 kx_5 op_5 n_5 hK K
              refine onlyB 18 rfl (by kernel_rfl) (by kernel_rfl) ?_
              intro K hK
              go_simp
              refine (refHolder_any y _).mono ?_
              rintro e v3 ⟨rfl, hv3⟩
              refine hK _ _ (hv3.mono (by omega)) ?_
              have os_7 := hide (os_6.out.below hv3 os_6.out.lt)
              have ot_7 := hide (ot_6.out.below hv3 ot_6.out.lt)
              have d_7 := hide (d_6.out.below hv3)
              have B_7 := hide (B_6.out.trans (hv3.mono B_6.out.size))
              have kr_7 := hide (kr_6.out.later hv3)
              have kt_7 := hide (kt_6.out.later hv3)
              have kf_7 := hide (kf_6.out.later hv3)
              have kx_7 := hide (kx_6.out.later hv3)
              have op_7 := hide (op_6.out.below hv3 op_6.out.lt)
              have n_7 := n_6.below hv3 n_6.lt
              clear hv3 os_6 ot_6 d_6 B_6 kr_6 kt_6 kf_6 kx_6 op_6 n_6 hK K
              have e3 : ((Tb.holder y).1 != (Tb.holder y).1) = false := by simp
              refine takeB 19 rfl (by kernel_rfl) (fun _ _ _ h => h) (by kernel_rfl) (by intro w' hg; go_simp; try with_reducible rfl) ?_
              refine takeB 20 rfl (by kernel_rfl) (fun _ _ _ h => h) (by rfl) (by intro w' hg; go_simp; try with_reducible rfl) ?_
              refine doneB (by kernel_rfl) ?_
              go_simp
              go_wp2_with fail
              go_roundw
              case rel => exact ⟨r + 1, by go_num, by omega, os_7, ot_7, d_7, B_7, kr_7, kt_7, kf_7, kx_7, op_7⟩
              case measure => simp [intOf]; omega
            · obtain rfl : r = 2 := by omega
              go_wp2_with fail
              generalize bits BinOp.and IntKind.i64 i 15 = j2
              obtain ⟨w6, hw6, OJ, hb6⟩ : ∃ w6, wr.alloc (.cells #[.int .i64 i, .int .i64 j2] 2) = w6 ∧ Obl w6 wr.heap.size 2 #[.int .i64 i, .int .i64 j2] ∧ Below wr.heap.size wr w6 := ⟨_, rfl, Obl.make wr _ _, (Below.refl _ _).alloc (Nat.le_refl _) _⟩
              rw [hw6]
              clear hw6 HOP
              obtain ⟨gJ, hgJ⟩ : ∃ gJ, wr.heap.size = gJ := ⟨_, rfl⟩
              have os_1 := hide (HOs.out.below hb6 HOs.out.lt)
              have ot_1 := hide (HOT.out.below hb6 HOT.out.lt)
              have d_1 := hide (HD.out.below hb6)
              have B_1 := hide (HB.out.trans (hb6.mono HB.out.size))
              have kr_1 := hide (HKr.out.later hb6)
              have kt_1 := hide (HKt.out.later hb6)
              have kf_1 := hide (HKf.out.later hb6)
              have kx_1 := hide (HKx.out.later hb6)
              clear hb6 HOs HOT HD HB HKr HKt HKf HKx
              rw [hgJ] at OJ ⊢
              clear hgJ
              have HOJ := hide OJ
              clear OJ
              generalize wr = wp at *
              go_loopw [110] (fun s110 wr => ∃ r : Nat, s110 = .int .i64 (r : Int) ∧ r ≤ 2 ∧ Hid (Obl wr W.heap.size 25 #[.int .i64 s.kind, .int .u64 s.desc, .int .u64 s.target, .int .i64 s.fin]) ∧ Hid (Obl wr gT 22 #[.slice rawA rn rc, .slice B tn tc, .slice F m c]) ∧ Hid (Dice wr b b) ∧ Hid (Below W.heap.size W wr) ∧ Hid (Kept b wr rawA rn raw) ∧ Hid (Kept b wr B tn t) ∧ Hid (Kept b wr F m L) ∧ Hid (Kept b wr TA un tl) ∧ Hid (Obl wr gJ 2 #[.int .i64 i, .int .i64 j2])) (fun s110 _ => 2 - (intOf s110).toNat)
              case atStart => exact ⟨0, rfl, by omega, os_1, ot_1, d_1, B_1, kr_1, kt_1, kf_1, kx_1, HOJ⟩
              case round =>
                obtain ⟨r, rfl, hr, HOs, HOT, HD, HB, HKr, HKt, HKf, HKx, HOP⟩ := hrel
                by_cases hr2 : r < 2
                · have hr2' : (r : Int) < 2 := by omega
                  obtain ⟨j, c0⟩ : ∃ j : Int, wr.cell? ⟨gJ, r, none⟩ = some (.int .i64 j) := by
                    rcases (show r = 0 ∨ r = 1 by omega) with rfl | rfl
                    · exact ⟨i, HOP.out.cell 0⟩
                    · exact ⟨j2, HOP.out.cell 1⟩
                  obtain ⟨ga, ge, hget⟩ : ∃ ga ge, Tb.get tl j = (ga, ge) := ⟨_, _, rfl⟩
                  obtain ⟨CL, ce, hclr⟩ : ∃ CL ce, Tb.clear tl j = (CL, ce) := ⟨_, _, rfl⟩
                  have HGET := hide hget
                  have HCLR := hide hclr
                  have e1 : (ge != ge) = false := by simp
                  have e2 : (ce != ce) = false := by simp
                  have e3 : decide (ga = ga) = true := by simp
                  clear hget hclr
                  go_wp2_with fail
                  refine (tbGet_any tl TA un uc _ j _ HKx.out.slots (Nat.le_refl _) huc).mono ?_
                  intro e w6 hp
                  obtain ⟨rfl, hb6⟩ := hp.got HGET.out
                  clear hp c0
                  have os_1 := hide (HOs.out.below hb6 HOs.out.lt)
                  have ot_1 := hide (HOT.out.below hb6 HOT.out.lt)
                  have d_1 := hide (HD.out.below hb6)
                  have B_1 := hide (HB.out.trans (hb6.mono HB.out.size))
                  have kr_1 := hide (HKr.out.later hb6)
                  have kt_1 := hide (HKt.out.later hb6)
                  have kf_1 := hide (HKf.out.later hb6)
                  have kx_1 := hide (HKx.out.later hb6)
                  have op_1 := hide (HOP.out.below hb6 HOP.out.lt)
                  clear hb6 HOs HOT HD HB HKr HKt HKf HKx HOP
                  obtain ⟨wz, hwz, g23, hg23, w7, hw7, OZ23, ON23, hb7, hs7⟩ := start_zslot w6 ga
                  subst hg23
                  clear hs7
                  have os_2 := hide (os_1.out.below hb7 os_1.out.lt)
                  have ot_2 := hide (ot_1.out.below hb7 ot_1.out.lt)
                  have d_2 := hide (d_1.out.below hb7)
                  have B_2 := hide (B_1.out.trans (hb7.mono B_1.out.size))
                  have kr_2 := hide (kr_1.out.later hb7)
                  have kt_2 := hide (kt_1.out.later hb7)
                  have kf_2 := hide (kf_1.out.later hb7)
                  have kx_2 := hide (kx_1.out.later hb7)
                  have op_2 := hide (op_1.out.below hb7 op_1.out.lt)
                  clear hb7 os_1 ot_1 d_1 B_1 kr_1 kt_1 kf_1 kx_1 op_1
                  go_wp2_with (first | (refine store_slot rfl _ _ rfl rfl (c := ga) rfl OZ23 rfl ?_; rw [hw7]) | fail)
                  clear hwz hw7 OZ23
                  refine (rfGet_any tl TA un uc _ j _ kx_2.out.slots (Nat.le_refl _) huc).mono ?_
                  intro e w8 hp
                  obtain ⟨rfl, hb8⟩ := hp.got HGET.out
                  clear hp
                  have os_3 := hide (os_2.out.below hb8 os_2.out.lt)
                  have ot_3 := hide (ot_2.out.below hb8 ot_2.out.lt)
                  have d_3 := hide (d_2.out.below hb8)
                  have B_3 := hide (B_2.out.trans (hb8.mono B_2.out.size))
                  have kr_3 := hide (kr_2.out.later hb8)
                  have kt_3 := hide (kt_2.out.later hb8)
                  have kf_3 := hide (kf_2.out.later hb8)
                  have kx_3 := hide (kx_2.out.later hb8)
                  have op_3 := hide (op_2.out.below hb8 op_2.out.lt)
                  have n23_3 := ON23.below hb8 ON23.lt
                  clear hb8 os_2 ot_2 d_2 B_2 kr_2 kt_2 kf_2 kx_2 op_2 ON23
                  obtain ⟨wz, hwz, g25, hg25, w9, hw9, OZ25, ON25, hb9, hs9⟩ := start_zslot w8 ga
                  subst hg25
                  clear hs9
                  have os_4 := hide (os_3.out.below hb9 os_3.out.lt)
                  have ot_4 := hide (ot_3.out.below hb9 ot_3.out.lt)
                  have d_4 := hide (d_3.out.below hb9)
                  have B_4 := hide (B_3.out.trans (hb9.mono B_3.out.size))
                  have kr_4 := hide (kr_3.out.later hb9)
                  have kt_4 := hide (kt_3.out.later hb9)
                  have kf_4 := hide (kf_3.out.later hb9)
                  have kx_4 := hide (kx_3.out.later hb9)
                  have op_4 := hide (op_3.out.below hb9 op_3.out.lt)
                  have n23_4 := n23_3.below hb9 n23_3.lt
                  clear hb9 os_3 ot_3 d_3 B_3 kr_3 kt_3 kf_3 kx_3 op_3 n23_3
                  go_wp2_with (first | (refine store_slot rfl _ _ rfl rfl (c := ga) rfl OZ25 rfl ?_; rw [hw9]) | fail)
                  clear hwz hw9 OZ25
                  refine (tbClear_any tl TA un uc _ j _ kx_4.out.slots (Nat.le_refl _) huc).mono ?_
                  intro e w10 hp
                  obtain ⟨X, nx, cx, rfl, hX, hnx, hb10⟩ := hp.got HCLR.out
                  have HNX := hide hnx
                  have HX := hide hX
                  clear hp hX hnx
                  have os_5 := hide (os_4.out.below hb10 os_4.out.lt)
                  have ot_5 := hide (ot_4.out.below hb10 ot_4.out.lt)
                  have d_5 := hide (d_4.out.below hb10)
                  have B_5 := hide (B_4.out.trans (hb10.mono B_4.out.size))
                  have kr_5 := hide (kr_4.out.later hb10)
                  have kt_5 := hide (kt_4.out.later hb10)
                  have kf_5 := hide (kf_4.out.later hb10)
                  have kx_5 := hide (kx_4.out.later hb10)
                  have op_5 := hide (op_4.out.below hb10 op_4.out.lt)
                  have n23_5 := n23_4.below hb10 n23_4.lt
                  have n25_5 := ON25.below hb10 ON25.lt
                  clear hb10 os_4 ot_4 d_4 B_4 kr_4 kt_4 kf_4 kx_4 op_4 n23_4 ON25
                  go_wp2_with fail
                  refine (rfClear_any tl TA un uc _ j _ kx_5.out.slots (Nat.le_refl _) huc).mono ?_
                  intro e w11 hp
                  obtain ⟨Y, ny, cy, rfl, hY, hny, hb11⟩ := hp.got HCLR.out
                  have HNY := hide hny
                  have HY := hide hY
                  clear hp hY hny
                  have os_6 := hide (os_5.out.below hb11 os_5.out.lt)
                  have ot_6 := hide (ot_5.out.below hb11 ot_5.out.lt)
                  have d_6 := hide (d_5.out.below hb11)
                  have B_6 := hide (B_5.out.trans (hb11.mono B_5.out.size))
                  have kr_6 := hide (kr_5.out.later hb11)
                  have kt_6 := hide (kt_5.out.later hb11)
                  have kf_6 := hide (kf_5.out.later hb11)
                  have kx_6 := hide (kx_5.out.later hb11)
                  have op_6 := hide (op_5.out.below hb11 op_5.out.lt)
                  have n23_6 := n23_5.below hb11 n23_5.lt
                  have n25_6 := n25_5.below hb11 n25_5.lt
                  have X_6 := hide (HX.out.later hb11)
                  clear hb11 os_5 ot_5 d_5 B_5 kr_5 kt_5 kf_5 kx_5 op_5 n23_5 n25_5 HX
                  go_wp2_with (first | (refine wpList_val (by rfl) (exec_load_slot0 (y := ga) rfl rfl n23_6) ?_) | (refine wpList_val (by rfl) (exec_load_slot0 (y := ga) rfl rfl n25_6) ?_) | (refine wpList_val (by rfl) (exec_neq_slot (x := ga) (y := ga) rfl rfl rfl) ?_; rw [e3]) | fail)
                  refine (tbSame_any X Y nx ny cx cy _ CL CL _ X_6.out HY.out (by have := HNX.out; omega) (by have := HNY.out; omega)).mono ?_
                  rintro e w12 ⟨rfl, hb12⟩
                  rw [show decide (CL = CL) = true by simp]
                  have os_7 := hide (os_6.out.below hb12 os_6.out.lt)
                  have ot_7 := hide (ot_6.out.below hb12 ot_6.out.lt)
                  have d_7 := hide (d_6.out.below hb12)
                  have B_7 := hide (B_6.out.trans (hb12.mono B_6.out.size))
                  have kr_7 := hide (kr_6.out.later hb12)
                  have kt_7 := hide (kt_6.out.later hb12)
                  have kf_7 := hide (kf_6.out.later hb12)
                  have kx_7 := hide (kx_6.out.later hb12)
                  have op_7 := hide (op_6.out.below hb12 op_6.out.lt)
                  have n23_7 := n23_6.below hb12 n23_6.lt
                  have n25_7 := n25_6.below hb12 n25_6.lt
                  have X_7 := hide (X_6.out.later hb12)
                  have Y_7 := hide (HY.out.later hb12)
                  clear hb12 os_6 ot_6 d_6 B_6 kr_6 kt_6 kf_6 kx_6 op_6 n23_6 n25_6 X_6 HY
                  go_wp2_with fail
                  go_roundw
                  case rel => (repeat apply Exists.intro); exact ⟨⟨r + 1, by go_num, by omega, os_7, ot_7, d_7, B_7, kr_7, kt_7, kf_7, kx_7, op_7⟩, rfl⟩
                  case measure => simp [intOf]; omega
                · obtain rfl : r = 2 := by omega
                  go_wp2_with fail
                  refine (tbValid_any tl TA un uc _ HKx.out.slots huc).mono ?_
                  rintro e w6 ⟨rfl, hb6⟩
                  have os_1 := hide (HOs.out.below hb6 HOs.out.lt)
                  have ot_1 := hide (HOT.out.below hb6 HOT.out.lt)
                  have d_1 := hide (HD.out.below hb6)
                  have B_1 := hide (HB.out.trans (hb6.mono HB.out.size))
                  have kr_1 := hide (HKr.out.later hb6)
                  have kt_1 := hide (HKt.out.later hb6)
                  have kf_1 := hide (HKf.out.later hb6)
                  have kx_1 := hide (HKx.out.later hb6)
                  have op_1 := hide (HOP.out.below hb6 HOP.out.lt)
                  clear hb6 HOs HOT HD HB HKr HKt HKf HKx HOP
                  go_wp2_with fail
                  refine (rfValid_any tl TA un uc _ kx_1.out.slots huc).mono ?_
                  rintro e w7 ⟨rfl, hb7⟩
                  have os_2 := hide (os_1.out.below hb7 os_1.out.lt)
                  have ot_2 := hide (ot_1.out.below hb7 ot_1.out.lt)
                  have d_2 := hide (d_1.out.below hb7)
                  have B_2 := hide (B_1.out.trans (hb7.mono B_1.out.size))
                  have kr_2 := hide (kr_1.out.later hb7)
                  have kt_2 := hide (kt_1.out.later hb7)
                  have kf_2 := hide (kf_1.out.later hb7)
                  have kx_2 := hide (kx_1.out.later hb7)
                  have op_2 := hide (op_1.out.below hb7 op_1.out.lt)
                  clear hb7 os_1 ot_1 d_1 B_1 kr_1 kt_1 kf_1 kx_1 op_1
                  have e1 : (decide (Tb.Valid tl) != decide (Tb.Valid tl)) = false := by simp
                  go_wp2_with fail
                  go_roundw
                  case rel => exact ⟨q + 1, by go_num, by omega, os_2, ot_2, d_2, B_2, kr_2, kt_2, kf_2⟩
                  case measure => simp [intOf]; omega
        · obtain rfl : q = 3 := by omega
          go_wp2_with fail
          go_ret
          exact ⟨rfl, HB.out⟩
end Go.Proofs.Ytbbibbniphmgbaa
