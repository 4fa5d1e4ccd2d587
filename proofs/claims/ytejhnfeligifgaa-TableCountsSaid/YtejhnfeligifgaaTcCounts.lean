/- Layer 10: the counts of holders, as the reference has them (TableCounts): the walk. (Written by tools/mktcounts.py.) -/
import Derived.Test.YtejhnfeligifgaaTcSame
import Derived.Test.YtejhnfeligifgaaTcDice
import Derived.Test.YtejhnfeligifgaaTcCame
import Derived.Deep.CutRange
import Derived.Test.YtejhnfeligifgaaObObj
namespace Go.Proofs.Ytejhnfeligifgaa
open Go.RowKit

/-- The law's book: the object that came in (block b) and the made one (block g), what their lists hold, and three slots. -/
structure CtAt (w : World) (b g : Nat) (raw o : Ob) (s x y : Tb.Slot) (X Y : Cont) : Prop where
  raws : Obl w b 61 (oc raw)
  ss : Obl w (b + 1) 25 #[.int .i64 s.kind, .int .u64 s.desc, .int .u64 s.target, .int .i64 s.fin]
  ob : Obl w g 61 (oc o)
  xs : Obl w (g + 1) 25 #[.int .i64 x.kind, .int .u64 x.desc, .int .u64 x.target, .int .i64 x.fin]
  ys : Obl w (g + 2) 25 #[.int .i64 y.kind, .int .u64 y.desc, .int .u64 y.target, .int .i64 y.fin]
  lists : Holds w w.heap.size raw X
  made : Holds w w.heap.size o Y
theorem CtAt.later {w w' : World} {b g : Nat} {raw o : Ob} {s x y : Tb.Slot} {X Y : Cont} (h : CtAt w b g raw o s x y X Y) (hb : Below w.heap.size w w') : CtAt w' b g raw o s x y X Y :=
  ⟨h.raws.below hb h.raws.lt, h.ss.below hb h.ss.lt, h.ob.below hb h.ob.lt, h.xs.below hb h.xs.lt, h.ys.below hb h.ys.lt, h.lists.later hb, h.made.later hb⟩
theorem wpList_yield {ops : Array Oper} {rest : List Oper} {o : Oper} {a : Act} {w w' : World} {Q : Exit → Act → World → Prop} {v : Value} (hgd : o.guard = none) (hr : (execOp a.eval o).run Try.prog w = .ok (.value v) w') (h : wpList Try.prog ops Q rest (a.put o.dst v) w') : wpList Try.prog ops Q (o :: rest) a w :=
  wpList_plain hgd fun _ hK => wp_yield hr (hK _ _ h)
/-- Three slots in a new block. -/
theorem start_three (w : World) (s x y : Tb.Slot) : ∃ w1, w.alloc (.cells #[.int .i64 s.kind, .int .u64 s.desc, .int .u64 s.target, .int .i64 s.fin, .int .i64 x.kind, .int .u64 x.desc, .int .u64 x.target, .int .i64 x.fin, .int .i64 y.kind, .int .u64 y.desc, .int .u64 y.target, .int .i64 y.fin] 25) = w1 ∧
    Slots w1 w1.heap.size (some ⟨w.heap.size, 0, none⟩) 3 [s, x, y] ∧ Below w.heap.size w w1 ∧ w1.heap.size = w.heap.size + 1 := by
  refine ⟨_, rfl, ⟨rfl, ?_⟩, (Below.refl _ _).alloc (Nat.le_refl _) _, by simp⟩
  refine ⟨rfl, by simp, ?_⟩
  have := (Row.list w [.int .i64 s.kind, .int .u64 s.desc, .int .u64 s.target, .int .i64 s.fin, .int .i64 x.kind, .int .u64 x.desc, .int .u64 x.target, .int .i64 x.fin, .int .i64 y.kind, .int .u64 y.desc, .int .u64 y.target, .int .i64 y.fin] 25).rd
  rw [World.size_alloc]
  exact this
theorem hold_any (o : Ob) (s : Tb.Slot) (X : Cont) (W : World) (h : Holds W W.heap.size o X) (hX : X.Short) (h64 : o.In64) : Calls Try.prog 26 #[.agg (oc o), sta s] W (fun e w' => ∃ a, e = .returned (.tuple #[.agg (oc a), .int .i64 (o.holdE s)]) ∧ HoldIs w' a o s (o.cnt s + 1) (o.holdE s) X ∧ Below W.heap.size W w') :=
  (tbHold_any o s X W h hX (h64.cnt s)).mono fun _ _ h => hold_post h
theorem rhold_any (o : Ob) (s : Tb.Slot) (W : World) (h64 : o.In64) : Calls Try.prog 27 #[.agg (oc o), sta s] W (fun e w' => ∃ a, e = .returned (.tuple #[.agg (oc a), .int .i64 (o.holdE s)]) ∧ RefIs a o s (o.cnt s + 1) (o.holdE s) ∧ Below W.heap.size W w') :=
  (rfHold_any o s W (h64.cnt s)).mono fun _ _ h => rheld_post h
theorem drop_any (o : Ob) (s : Tb.Slot) (X : Cont) (W : World) (h : Holds W W.heap.size o X) (hX : X.Short) (h64 : o.In64) : Calls Try.prog 28 #[.agg (oc o), sta s] W (fun e w' => ∃ a, e = .returned (.tuple #[.agg (oc a), .bool (goneIf (o.dropE s) o s (o.cnt s - 1)), .int .i64 (o.dropE s)]) ∧ HoldIs w' a o s (o.cnt s - 1) (o.dropE s) X ∧ Below W.heap.size W w') :=
  (tbDrop_any o s X W h hX (h64.cnt s)).mono fun _ _ h => drop_post h
theorem rdrop_any (o : Ob) (s : Tb.Slot) (W : World) (h64 : o.In64) : Calls Try.prog 29 #[.agg (oc o), sta s] W (fun e w' => ∃ a, e = .returned (.tuple #[.agg (oc a), .bool (goneIf (o.dropE s) o s (o.cnt s - 1)), .int .i64 (o.dropE s)]) ∧ RefIs a o s (o.cnt s - 1) (o.dropE s) ∧ Below W.heap.size W w') :=
  (rfDrop_any o s W (h64.cnt s)).mono fun _ _ h => rdrop_post h

set_option maxRecDepth 100000 in
set_option maxHeartbeats 16000000 in
theorem tableCounts_any (o : Ob) (l : List Nm) (strs : List (List UInt8)) (s : Tb.Slot) (S : Option Addr) (q r : Nat) (bs : List UInt8) (X : Cont) (W : World) (hl : Nms W W.heap.size o.names.A o.names.n l) (hS : Strs W W.heap.size o.strs.A o.strs.n strs) (hf : Fits o l strs)
    (hX : Holds W W.heap.size o X) (hsh : Kept o l strs → X.Short) (h64 : o.In64) (h : Bytes W W.heap.size S q bs) (hq : q ≤ r ∧ r ≤ 9223372036854775807) :
    Calls Try.prog 4 #[.agg (oc o), sta s, .slice S q r] W (BoolPost true W) := by
  obtain ⟨w0, hw, O, OS, hb, hs⟩ := start_os W o s
  have HN := hide hl
  have HST := hide hS
  have HF := hide hf
  have HLX := hide hX
  have HSH := hide hsh
  have H64 := hide h64
  have HBY := hide h
  have HQ := hide hq
  have HB := hide hb
  clear hl hS hf hX hsh h64 h hq hb hs
  go_enter Try.func4, Try.ntmps4
  try dsimp only [List.append]
  go_wp2_with fail
  refine (sane10_any _).mono ?_
  rintro e w1 ⟨rfl, hb1⟩
  replace O := O.below hb1 O.lt
  replace OS := OS.below hb1 OS.lt
  replace HB := hide (HB.out.trans (hb1.mono HB.out.size))
  clear hb1 hw
  go_wp2_with (first | (refine load_ob rfl _ rfl rfl O ?_) | fail)
  refine (keepob_kept o l strs _ ((HN.out.below HB.out).mono HB.out.size) ((HST.out.below HB.out).mono HB.out.size) HF.out).mono ?_
  rintro e w2 ⟨bv, rfl, hkept, hb2⟩
  replace O := O.below hb2 O.lt
  replace OS := OS.below hb2 OS.lt
  replace HB := hide (HB.out.trans (hb2.mono HB.out.size))
  have HK := hide hkept
  clear hb2 HN HST HF hkept
  cases bv with
  | false =>
    go_wp2_with fail
    go_ret
    exact ⟨rfl, HB.out⟩
  | true =>
    have HXS := hide (HSH.out (HK.out rfl))
    have hW2 := OS.lt
    clear HK HSH
    go_wp2_with fail
    refine (new_dice W.heap.size S q r bs _ (HBY.out.belowLe HB.out (Nat.le_refl _)) HB.out.size HQ.out).mono ?_
    rintro e w3 ⟨rfl, hD, hb3, hs3⟩
    replace O := O.below hb3 O.lt
    replace OS := OS.below hb3 OS.lt
    replace HB := hide (HB.out.trans (hb3.mono HB.out.size))
    have HD := hide hD
    obtain ⟨d, hd⟩ : ∃ d, w2.heap.size = d := ⟨_, rfl⟩
    have hdW : W.heap.size + 1 < d := by omega
    rw [hd] at HD ⊢
    clear hb3 hD HBY hW2 hd hs3
    go_wp2_with fail
    refine (object_dice d d _ HD.out).mono ?_
    rintro e w4 ⟨o2, rfl, hO2, hD4, hB4⟩
    replace O := hB4.obl' O (by omega)
    replace OS := hB4.obl' OS (by omega)
    replace HB := hide (HB.out.trans (hB4.below HB.out.size (by omega)))
    have hd4 := HD.out.lt
    have HD4 := hide hD4
    have HO2 := hide hO2
    have hsz := hB4.size
    clear hB4 hD4 hO2 HD
    go_wp2_with fail
    refine (slot_dice d d _ HD4.out).mono ?_
    rintro e w5 ⟨x, rfl, _, _, hB5⟩
    replace O := hB5.obl' O (by omega)
    replace OS := hB5.obl' OS (by omega)
    replace HB := hide (HB.out.trans (hB5.below HB.out.size (by omega)))
    obtain ⟨Y, hYs, hY⟩ := (HO2.out.bel hB5 (by omega)).holds
    have HY := hide hY
    have HYS := hide hYs
    have HI2 := hide HO2.out.in64
    have hd5 : d < w5.heap.size := by have := hB5.size; omega
    clear hB5 HD4 HO2 hY hYs hd4 hsz
    obtain ⟨w6, hw6, OZ6, hb6, hs6⟩ := start_z w5
    obtain ⟨g, hg⟩ : ∃ g, w5.heap.size = g := ⟨_, rfl⟩
    have hgW : W.heap.size + 1 < g := by omega
    rw [hg] at OZ6 hs6
    obtain ⟨w7, hw7, g7, hg7, w7', hw7', SZ7, _, hb7', _⟩ := start_zslot w6 x
    have hb7 : Below w6.heap.size w6 w7 := hw7 ▸ (Below.refl _ _).alloc (Nat.le_refl _) _
    obtain rfl : g7 = g + 1 := by omega
    have hs7 : w7.heap.size = g + 2 := by rw [← hw7, World.size_alloc]; omega
    have OZ7 := OZ6.below hb7 (by omega)
    obtain ⟨w8, hw8⟩ : ∃ w8, w7.setRow g (oc o2) = w8 := ⟨_, rfl⟩
    have OO8 : Obl w8 g 61 (oc o2) := hw8 ▸ OZ7.row_same (oc o2)
    have SZ8 : Obl w8 (g + 1) 25 #[.int .i64 0, .int .u64 0, .int .u64 0, .int .i64 0] := hw8 ▸ SZ7.row_other (g := g) (by omega) (oc o2)
    obtain ⟨w9, hw9⟩ : ∃ w9, w8.setRow (g + 1) #[.int .i64 x.kind, .int .u64 x.desc, .int .u64 x.target, .int .i64 x.fin] = w9 := ⟨_, rfl⟩
    have OO9 : Obl w9 g 61 (oc o2) := hw9 ▸ OO8.row_other (g := g + 1) (by omega) #[.int .i64 x.kind, .int .u64 x.desc, .int .u64 x.target, .int .i64 x.fin]
    have SX9 : Obl w9 (g + 1) 25 #[.int .i64 x.kind, .int .u64 x.desc, .int .u64 x.target, .int .i64 x.fin] := hw9 ▸ SZ8.row_same #[.int .i64 x.kind, .int .u64 x.desc, .int .u64 x.target, .int .i64 x.fin]
    have hb9 : Below w5.heap.size w5 w9 := by
      rw [← hw9, ← hw8]
      exact below_row (below_row (hb6.trans (hb7.mono (by omega))) (by omega) _) (by omega) _
    have hs9 : w9.heap.size = g + 2 := by rw [← hw9, ← hw8]; simpa [World.setRow] using hs7
    obtain ⟨w10, hw10, g10, hg10, w11, hw11, SZ10, SY11, hb11', hs11⟩ := start_zslot w9 x
    obtain rfl : g10 = g + 2 := by omega
    have hb11 : Below w9.heap.size w9 w11 := by rw [hg10]; exact hb11'
    have O11 := (O.below hb9 O.lt).below hb11 (by have := O.lt; omega)
    have OS11 := (OS.below hb9 OS.lt).below hb11 (by have := OS.lt; omega)
    have OO11 := OO9.below hb11 (by omega)
    have SX11 := SX9.below hb11 (by omega)
    have HB11 := hide (HB.out.trans ((hb9.trans (hb11.mono (by omega))).mono HB.out.size))
    have HC11 : Hid (Below g w5 w11) := hide (by have := hb9.trans (hb11.mono (by omega)); rw [hg] at this; exact this)
    have HYg : Hid (Holds w5 g o2 Y) := hide (by have := HY.out; rw [hg] at this; exact this)
    clear hb6 hb7 hb9 hb11 hb11' hb7' O OS HB HY OO8 SZ7
    go_wp2_with (first | (refine store_ob rfl _ _ rfl rfl (c := o2) rfl OZ7 rfl ?_; rw [hw8]) | (refine store_slot rfl _ _ rfl rfl (c := x) rfl SZ8 rfl ?_; rw [hw9]) | (refine store_slot rfl _ _ rfl rfl (c := x) rfl SZ10 rfl ?_; rw [hw11]) | (refine load_slot rfl _ rfl rfl SX9 ?_) | fail)
    refine region_B (by kernel_rfl) (g + 2) ?_
    replace O11 : Obl w11.drew W.heap.size 61 (oc o) := O11
    replace OS11 : Obl w11.drew (W.heap.size + 1) 25 #[.int .i64 s.kind, .int .u64 s.desc, .int .u64 s.target, .int .i64 s.fin] := OS11
    replace OO11 : Obl w11.drew g 61 (oc o2) := OO11
    replace SX11 : Obl w11.drew (g + 1) 25 #[.int .i64 x.kind, .int .u64 x.desc, .int .u64 x.target, .int .i64 x.fin] := SX11
    replace SY11 : Obl w11.drew (g + 2) 25 #[.int .i64 x.kind, .int .u64 x.desc, .int .u64 x.target, .int .i64 x.fin] := SY11
    replace HB11 : Hid (Below W.heap.size W w11.drew) := hide ⟨HB11.out.os, HB11.out.tape, HB11.out.output, HB11.out.size, HB11.out.block⟩
    replace HC11 : Hid (Below g w5 w11.drew) := hide ⟨HC11.out.os, HC11.out.tape, HC11.out.output, HC11.out.size, HC11.out.block⟩
    have HSZ : Hid (w11.drew.heap.size = g + 3) := hide hs11
    have hcd : w11.drew.cell? ⟨g, 0, none⟩ = some (.int .u64 o2.id) := OO11.cell 0
    clear hd5 hs6 hs7 hs9 hs11 hg10 hg hw6 hw7 hw7' hw8 hw9 hw10 hw11 OZ6 OZ7 SZ8 SZ10 SX9 OO9 hdW hg7
    generalize w11.drew = u0 at *
    refine takeB 0 rfl (by kernel_rfl) (fun _ _ _ h => h) (by rfl) (by intro w' hg; go_simp; try with_reducible rfl) ?_
    refine takeB 1 rfl (by kernel_rfl) (fun _ _ _ h => h) (by rfl) (by intro w' hg; have g0 := (hg.cell (p := ⟨g, 0, none⟩) (by show g < g + 2; omega)).trans hcd; go_simp; try with_reducible rfl) ?_
    refine takeB 2 rfl (by kernel_rfl) (fun _ _ _ h => h) (by rfl) (by intro w' hg; go_simp; try with_reducible rfl) ?_
    refine takeB 3 rfl (by kernel_rfl) (fun _ _ _ h => h) (by rfl) (by intro w' hg; have g0 := (hg.cell (p := ⟨g, 0, none⟩) (by show g < g + 2; omega)).trans hcd; go_simp; try with_reducible rfl) ?_
    refine takeB 4 rfl (by kernel_rfl) (fun _ _ _ h => h) (by rfl) (by intro w' hg; go_simp; try with_reducible rfl) ?_
    go_simp
    refine onlyB 5 rfl (by kernel_rfl) (by rfl) ?_
    intro K hK
    have m0 : u0.cell? ⟨g + 2, 2, none⟩ = some (.int .u64 x.target) := SY11.cell 2
    have z0 := SY11.free 2
    go_simp
    refine hK _ _ ((Below.refl _ _).setCell (p := ⟨g + 2, 2, none⟩) (Nat.le_refl _) _) ?_
    clear hK K m0 z0 hcd
    have SY12 := SY11.put 2 (.int .u64 o2.id)
    have hb12 : Below (g + 2) u0 (u0.setCell ⟨g + 2, 2, none⟩ (.int .u64 o2.id)) := (Below.refl _ _).setCell (p := ⟨g + 2, 2, none⟩) (Nat.le_refl _) _
    obtain ⟨u1, hu1⟩ : ∃ u1, u0.setCell ⟨g + 2, 2, none⟩ (.int .u64 o2.id) = u1 := ⟨_, rfl⟩
    rw [hu1] at SY12 hb12 ⊢
    refine takeB 6 rfl (by kernel_rfl) (fun _ _ _ h => h) (by rfl) (by intro w' hg; go_simp; try with_reducible rfl) ?_
    go_simp
    refine onlyB 7 rfl (by kernel_rfl) (by rfl) ?_
    intro K hK
    have m0 : u1.cell? ⟨g + 2, 1, none⟩ = some (.int .u64 x.desc) := SY12.cell 1
    have z0 := SY12.free 1
    go_simp
    refine hK _ _ ((Below.refl _ _).setCell (p := ⟨g + 2, 1, none⟩) (Nat.le_refl _) _) ?_
    clear hK K m0 z0
    have SY13 := SY12.put 1 (.int .u64 o2.id)
    have hb13 := hb12.setCell (p := ⟨g + 2, 1, none⟩) (Nat.le_refl _) (.int .u64 o2.id)
    obtain ⟨u2, hu2⟩ : ∃ u2, u1.setCell ⟨g + 2, 1, none⟩ (.int .u64 o2.id) = u2 := ⟨_, rfl⟩
    rw [hu2] at SY13 hb13 ⊢
    have SY14 : Obl u2 (g + 2) 25 #[.int .i64 (⟨x.kind, o2.id, o2.id, x.fin⟩ : Tb.Slot).kind, .int .u64 (⟨x.kind, o2.id, o2.id, x.fin⟩ : Tb.Slot).desc, .int .u64 (⟨x.kind, o2.id, o2.id, x.fin⟩ : Tb.Slot).target, .int .i64 (⟨x.kind, o2.id, o2.id, x.fin⟩ : Tb.Slot).fin] := SY13
    have hbg : Below g u0 u2 := hb13.mono (by omega)
    have HB14 := hide (HB11.out.trans (hb13.mono (by omega)))
    have HC14 := hide (HC11.out.trans hbg)
    have HX14 := hide ((HLX.out.below HB14.out).mono HB14.out.size)
    have HY14 := hide ((HYg.out.below HC14.out).mono (show g ≤ u2.heap.size by have := HC14.out.size; have := HSZ.out; have := hb13.size; omega))
    have HT : Hid (CtAt u2 W.heap.size g o o2 s x ⟨x.kind, o2.id, o2.id, x.fin⟩ X Y) := hide ⟨O11.below hb13 (by omega), OS11.below hb13 (by omega), OO11.below hb13 (by omega), SX11.below hb13 (by omega), SY14, HX14.out, HY14.out⟩
    have hYh := HC14
    clear hb12 hb13 hbg HX14 HY14 SY11 SY12 SY13 SY14 O11 OS11 OO11 SX11 HB11 HC11 hu1 hu2 HSZ
    refine doneB (by kernel_rfl) ?_
    go_simp
    have k0 : u2.cell? ⟨g + 2, 0, none⟩ = some (.int .i64 x.kind) := HT.out.ys.cell 0
    go_upto_if 45 with (fail)
    clear k0
    go_cut [] from 46 to 46 (fun wx => ∃ y, Hid (CtAt wx W.heap.size g o o2 s x y X Y) ∧ Hid (Below W.heap.size W wx))
    case first =>
      have SY := HT.out.ys
      by_cases hk : x.kind = 1
      · have bk : (x.kind == 1) = true := by simpa using hk
        have ck : (x.kind != 1) = false := by simpa using hk
        clear hk SY
        go_wp2_with fail
        go_meet
        case rel => exact ⟨_, HT, HB14⟩
      · have bk : (x.kind == 1) = false := by simpa using hk
        have ck : (x.kind != 1) = true := by simpa using hk
        have k1 : u2.cell? ⟨g + 2, 1, none⟩ = some (.int .u64 o2.id) := SY.cell 1
        have z1 := SY.free 1
        have SY2 := SY.put 1 (.int .u64 0)
        have hbp : Below (g + 2) u2 (u2.setCell ⟨g + 2, 1, none⟩ (.int .u64 0)) := (Below.refl _ _).setCell (p := ⟨g + 2, 1, none⟩) (Nat.le_refl _) _
        have HB15 := hide (HB14.out.trans (hbp.mono (by omega)))
        have HC15 := hide (HC14.out.trans (hbp.mono (by omega)))
        obtain ⟨u3, hu3⟩ : ∃ u3, u2.setCell ⟨g + 2, 1, none⟩ (.int .u64 0) = u3 := ⟨_, rfl⟩
        rw [hu3] at SY2 hbp HB15 HC15
        have HX15 := hide ((HLX.out.below HB15.out).mono HB15.out.size)
        have HY15 := hide ((HYg.out.below HC15.out).mono (show g ≤ u3.heap.size by have := SY2.lt; omega))
        have HT15 : Hid (CtAt u3 W.heap.size g o o2 s x ⟨x.kind, 0, o2.id, x.fin⟩ X Y) := hide ⟨HT.out.raws.below hbp (by omega), HT.out.ss.below hbp (by omega), HT.out.ob.below hbp (by omega), HT.out.xs.below hbp (by omega), SY2, HX15.out, HY15.out⟩
        clear HT hbp SY SY2 HX15 HY15 HC15
        go_wp2_with fail
        go_meet
        case rel => exact ⟨_, HT15, HB15⟩
    case rest =>
      clear HT HB14 HC14 hYh HLX HYg
      obtain ⟨y, HT, HB⟩ := hcut
      generalize wc = wt at *
      refine ‹∀ (a : Act) (w : World), Code.wp _ _ _ a w → _› _ _ ?_
      obtain ⟨w6, hw6⟩ : ∃ w6, wt.alloc (.cells (ocl o ++ ocl o2).toArray 61) = w6 := ⟨_, rfl⟩
      obtain ⟨g2, hg2⟩ : ∃ g2, wt.heap.size = g2 := ⟨_, rfl⟩
      have OT : Obl w6 g2 61 (ocl o ++ ocl o2).toArray := by rw [← hw6, ← hg2]; exact Obl.make wt _ _
      have hbA : Below wt.heap.size wt w6 := hw6 ▸ (Below.refl _ _).alloc (Nat.le_refl _) _
      have OA := HT.out.raws
      have OB := HT.out.ob
      have HT6 := hide (HT.out.later hbA)
      have HB6 := hide (HB.out.trans (hbA.mono HB.out.size))
      have HOT := hide OT
      clear HT HB hbA OT
      go_wp2_with (first | (refine wpList_val (by rfl) (exec_load_ob rfl rfl OA) ?_) | (refine wpList_val (by rfl) (exec_load_ob rfl rfl OB) ?_) | (refine wpList_yield rfl (exec_slice2 rfl rfl rfl) ?_; rw [hg2, hw6]) | fail)
      clear OA OB hw6 hg2
      go_loopw [51] (fun s51 wr => ∃ k : Nat, s51 = .int .i64 (k : Int) ∧ k ≤ 2 ∧ Hid (CtAt wr W.heap.size g o o2 s x y X Y) ∧ Hid (Obl wr g2 61 (ocl o ++ ocl o2).toArray) ∧ Hid (Below W.heap.size W wr)) (fun s51 _ => 2 - (intOf s51).toNat)
      case atStart => exact ⟨0, rfl, by omega, HT6, HOT, HB6⟩
      case round =>
        clear HT6 HOT HB6
        obtain ⟨k, rfl, hk, T, HOT, HB⟩ := hrel
        by_cases hlt : k < 2
        · have hlt' : (k : Int) < 2 := by omega
          obtain ⟨p, hp⟩ : ∃ p, [o, o2][k]? = some p := ⟨[o, o2][k], List.getElem?_eq_getElem hlt⟩
          obtain ⟨Z, HZS, HP, HI⟩ : ∃ Z : Cont, Hid Z.Short ∧ Hid (Holds wr wr.heap.size p Z) ∧ Hid p.In64 := by
            rcases k with _ | _ | k
            · obtain rfl : o = p := by simpa using hp
              exact ⟨X, HXS, hide T.out.lists, H64⟩
            · obtain rfl : o2 = p := by simpa using hp
              exact ⟨Y, HYS, hide T.out.made, HI2⟩
            · omega
          have OT := HOT.out
          obtain ⟨w7, hw7, m, hm, w8, hw8, OZ, OP, hb8, hs8⟩ := laid_ob p wr
          have T8 := hide (T.out.later hb8)
          have HP8 := hide (HP.out.later hb8)
          have HOT8 := hide (OT.below hb8 OT.lt)
          have HB8 := hide (HB.out.trans (hb8.mono HB.out.size))
          have OS8 := T8.out.ss
          have OX8 := T8.out.xs
          have OY8 := T8.out.ys
          obtain ⟨w9, hw9, hSL, hb9, hs9⟩ := start_three w8 s x y
          have T9 := hide (T8.out.later hb9)
          have HP9 := hide (HP8.out.later hb9)
          have HOT9 := hide (HOT8.out.below hb9 HOT8.out.lt)
          have HB9 := hide (HB8.out.trans (hb9.mono HB8.out.size))
          have OP9 := OP.below hb9 OP.lt
          have HSL := hide hSL
          rw [hs8] at HSL
          clear hb8 hb9 hSL hs9 T T8 HP HP8 HOT HOT8 HB HB8
          go_wp2_with (first | (refine wpList_val (by rfl) (exec_load_two rfl rfl OT hp) ?_) | (refine store_ob rfl _ _ rfl rfl (c := p) rfl OZ rfl ?_; rw [hw8]) | (refine wpList_val (by rfl) (exec_load_slot0 (y := s) rfl rfl OS8) ?_) | (refine wpList_val (by rfl) (exec_load_slot0 (y := x) rfl rfl OX8) ?_) | (refine wpList_val (by rfl) (exec_load_slot0 (y := y) rfl rfl OY8) ?_) | fail)
          clear OT OZ hw7 hw8 hm OS8 OX8 OY8 hw9 hs8 OP hp
          have HOP := hide OP9
          clear OP9
          go_loopw [60] (fun s60 wt => ∃ t : Nat, s60 = .int .i64 (t : Int) ∧ t ≤ 3 ∧ Hid (CtAt wt W.heap.size g o o2 s x y X Y) ∧ Hid (Obl wt g2 61 (ocl o ++ ocl o2).toArray) ∧ Hid (Obl wt m 61 (oc p)) ∧ Hid (Slots wt wt.heap.size (some ⟨m + 1, 0, none⟩) 3 [s, x, y]) ∧ Hid (Holds wt wt.heap.size p Z) ∧ Hid (Below W.heap.size W wt)) (fun s60 _ => 3 - (intOf s60).toNat)
          case atStart => exact ⟨0, rfl, by omega, T9, HOT9, HOP, HSL, HP9, HB9⟩
          case round =>
            clear T9 HOT9 HOP HSL HP9 HB9
            obtain ⟨t, rfl, ht, T, HOT, HOP, HSL, HP, HB⟩ := hrel
            by_cases htl : t < 3
            · have htl' : (t : Int) < 3 := by omega
              obtain ⟨b, f, hl, hA, hbb, c0, c1, c2, c3⟩ := HSL.out.at_ htl
              obtain ⟨rfl, rfl⟩ : b = m + 1 ∧ f = 0 := by injection hA with h; injection h with h1 h2; exact ⟨h1.symm, h2.symm⟩
              rw [Nat.zero_add] at c0 c1 c2 c3
              generalize [s, x, y][t] = v at c0 c1 c2 c3
              obtain ⟨w7, hw7, m2, hm2, w8, hw8, SZ, SV, hb8', hs8⟩ := start_zslot wr v
              have hb8 : Below wr.heap.size wr w8 := by rw [hm2]; exact hb8'
              have O := HOP.out
              have OQ := SV
              replace O := O.below hb8 O.lt
              replace HOT := hide (HOT.out.below hb8 HOT.out.lt)
              clear hb8' HOP SV
              replace T := hide (T.out.later hb8)
              replace HSL := hide (HSL.out.later hb8)
              replace HP := hide (HP.out.later hb8)
              replace HB := hide (HB.out.trans ((hb8).mono HB.out.size))
              clear hb8
              go_wp2_with (first | (refine wpList_val (by rfl) (exec_load_slot (y := v) rfl rfl c0 c1 c2 c3) ?_) | (refine store_slot rfl _ _ rfl rfl (c := v) rfl SZ rfl ?_; rw [hw8]) | (refine load_ob rfl _ rfl rfl O ?_) | (refine load_slot rfl _ rfl rfl OQ ?_) | fail)
              clear c0 c1 c2 c3 SZ hw7 hw8 hm2 hs8
              refine (hold_any p v Z _ HP.out HZS.out HI.out).mono ?_
              rintro e v1 ⟨ya, rfl, LA, hv1⟩
              have NA := hide LA
              clear LA
              replace T := hide (T.out.later hv1)
              replace O := O.below hv1 O.lt
              replace OQ := OQ.below hv1 OQ.lt
              replace HSL := hide (HSL.out.later hv1)
              replace HP := hide (HP.out.later hv1)
              replace HB := hide (HB.out.trans ((hv1).mono HB.out.size))
              replace HOT := hide (HOT.out.below hv1 HOT.out.lt)
              clear hv1
              obtain ⟨a1, hwa0, ab, hma, a2, hwa, OZa, PA, hba2, hsa2⟩ := laid_ob ya v1
              replace T := hide (T.out.later hba2)
              replace O := O.below hba2 O.lt
              replace OQ := OQ.below hba2 OQ.lt
              replace HSL := hide (HSL.out.later hba2)
              replace HP := hide (HP.out.later hba2)
              replace HB := hide (HB.out.trans ((hba2).mono HB.out.size))
              replace NA := hide (NA.out.later hba2)
              replace HOT := hide (HOT.out.below hba2 HOT.out.lt)
              clear hba2
              obtain ⟨re, hre⟩ : ∃ re, p.holdE v = re := ⟨_, rfl⟩
              rw [hre] at NA ⊢
              go_wp2_with (first | (refine store_ob rfl _ _ rfl rfl (c := ya) rfl OZa rfl ?_; rw [hwa]) | (refine load_ob rfl _ rfl rfl O ?_) | (refine load_slot rfl _ rfl rfl OQ ?_) | fail)
              clear OZa hwa hwa0 hma hsa2
              refine (rhold_any p v _ HI.out).mono ?_
              rintro e v2 ⟨yb, rfl, LB, hv2⟩
              have RB := hide LB
              clear LB
              replace T := hide (T.out.later hv2)
              replace O := O.below hv2 O.lt
              replace OQ := OQ.below hv2 OQ.lt
              replace HSL := hide (HSL.out.later hv2)
              replace HP := hide (HP.out.later hv2)
              replace HB := hide (HB.out.trans ((hv2).mono HB.out.size))
              replace PA := PA.below hv2 PA.lt
              replace NA := hide (NA.out.later hv2)
              replace HOT := hide (HOT.out.below hv2 HOT.out.lt)
              clear hv2
              obtain ⟨b1, hwb0, bb, hmb, b2, hwb, OZb, PB, hbb2, hsb2⟩ := laid_ob yb v2
              replace T := hide (T.out.later hbb2)
              replace O := O.below hbb2 O.lt
              replace OQ := OQ.below hbb2 OQ.lt
              replace HSL := hide (HSL.out.later hbb2)
              replace HP := hide (HP.out.later hbb2)
              replace HB := hide (HB.out.trans ((hbb2).mono HB.out.size))
              replace PA := PA.below hbb2 PA.lt
              replace NA := hide (NA.out.later hbb2)
              replace HOT := hide (HOT.out.below hbb2 HOT.out.lt)
              clear hbb2
              rw [hre] at RB ⊢
              clear hre
              go_wp2_with (first | (refine store_ob rfl _ _ rfl rfl (c := yb) rfl OZb rfl ?_; rw [hwb]) | (refine load_ob rfl _ rfl rfl O ?_) | (refine load_slot rfl _ rfl rfl OQ ?_) | fail)
              clear OZb hwb hwb0 hmb hsb2
              refine (drop_any p v Z _ HP.out HZS.out HI.out).mono ?_
              rintro e v3 ⟨yc, rfl, LC, hv3⟩
              have NC := hide LC
              clear LC
              replace T := hide (T.out.later hv3)
              replace O := O.below hv3 O.lt
              replace OQ := OQ.below hv3 OQ.lt
              replace HSL := hide (HSL.out.later hv3)
              replace HP := hide (HP.out.later hv3)
              replace HB := hide (HB.out.trans ((hv3).mono HB.out.size))
              replace PA := PA.below hv3 PA.lt
              replace NA := hide (NA.out.later hv3)
              replace PB := PB.below hv3 PB.lt
              replace HOT := hide (HOT.out.below hv3 HOT.out.lt)
              clear hv3
              obtain ⟨c1, hwc0, cb, hmc, c2, hwc, OZc, PC, hbc2, hsc2⟩ := laid_ob yc v3
              replace T := hide (T.out.later hbc2)
              replace O := O.below hbc2 O.lt
              replace OQ := OQ.below hbc2 OQ.lt
              replace HSL := hide (HSL.out.later hbc2)
              replace HP := hide (HP.out.later hbc2)
              replace HB := hide (HB.out.trans ((hbc2).mono HB.out.size))
              replace PA := PA.below hbc2 PA.lt
              replace NA := hide (NA.out.later hbc2)
              replace PB := PB.below hbc2 PB.lt
              replace NC := hide (NC.out.later hbc2)
              replace HOT := hide (HOT.out.below hbc2 HOT.out.lt)
              clear hbc2
              obtain ⟨rg, hrg⟩ : ∃ rg, goneIf (p.dropE v) p v (p.cnt v - 1) = rg := ⟨_, rfl⟩
              rw [hrg]
              obtain ⟨rf, hrf⟩ : ∃ rf, p.dropE v = rf := ⟨_, rfl⟩
              rw [hrf] at NC ⊢
              have HRG := hide hrg
              clear hrg
              go_wp2_with (first | (refine store_ob rfl _ _ rfl rfl (c := yc) rfl OZc rfl ?_; rw [hwc]) | (refine load_ob rfl _ rfl rfl O ?_) | (refine load_slot rfl _ rfl rfl OQ ?_) | fail)
              clear OZc hwc hwc0 hmc hsc2
              refine (rdrop_any p v _ HI.out).mono ?_
              rintro e v4 ⟨yd, rfl, LD, hv4⟩
              have RD := hide LD
              clear LD
              replace T := hide (T.out.later hv4)
              replace O := O.below hv4 O.lt
              replace OQ := OQ.below hv4 OQ.lt
              replace HSL := hide (HSL.out.later hv4)
              replace HP := hide (HP.out.later hv4)
              replace HB := hide (HB.out.trans ((hv4).mono HB.out.size))
              replace PA := PA.below hv4 PA.lt
              replace NA := hide (NA.out.later hv4)
              replace PB := PB.below hv4 PB.lt
              replace PC := PC.below hv4 PC.lt
              replace NC := hide (NC.out.later hv4)
              replace HOT := hide (HOT.out.below hv4 HOT.out.lt)
              clear hv4
              obtain ⟨d1, hwd0, db, hmd, d2, hwd, OZd, PD, hbd2, hsd2⟩ := laid_ob yd v4
              replace T := hide (T.out.later hbd2)
              replace O := O.below hbd2 O.lt
              replace OQ := OQ.below hbd2 OQ.lt
              replace HSL := hide (HSL.out.later hbd2)
              replace HP := hide (HP.out.later hbd2)
              replace HB := hide (HB.out.trans ((hbd2).mono HB.out.size))
              replace PA := PA.below hbd2 PA.lt
              replace NA := hide (NA.out.later hbd2)
              replace PB := PB.below hbd2 PB.lt
              replace PC := PC.below hbd2 PC.lt
              replace NC := hide (NC.out.later hbd2)
              replace HOT := hide (HOT.out.below hbd2 HOT.out.lt)
              clear hbd2
              rw [HRG.out]
              rw [hrf] at RD ⊢
              clear hrf HRG
              go_upto_region 21 with (first | (refine store_ob rfl _ _ rfl rfl (c := yd) rfl OZd rfl ?_; rw [hwd]) | fail)
              clear OZd hwd hwd0 hmd hsd2
              have HO := hide O
              clear O
              go_wp2_with (first | (refine wpList_val (by kernel_rfl) (exec_load_ob rfl rfl PA) ?_) | (refine wpList_val (by kernel_rfl) (exec_load_ob rfl rfl PB) ?_) | (go_at_call 30; refine (same_hold (a := ya) (b := yb) NA.out RB.out HP.out HZS.out).mono ?_; rintro e z1 ⟨rfl, hz1⟩; have PC2 := PC.below hz1 PC.lt; have PD2 := PD.below hz1 PD.lt; have NC2 := hide (NC.out.later hz1); have HP2 := hide (HP.out.later hz1); have HZ1 := hide hz1; clear PA PB PC PD hz1) | (refine wpList_val (by rfl) (exec_load_ob rfl rfl PD2) ?_; clear PC2 PD2; go_simp; go_guarded; go_simp; refine (same_hold (a := yc) (b := yd) NC2.out RD.out HP2.out HZS.out).mono ?_; rintro e z2 ⟨rfl, hz2⟩) | (refine wpList_val (by rfl) (exec_load_ob rfl rfl PC2) ?_) | fail)
              have hz1 := HZ1.out
              have hz := hz1.trans (hz2.mono hz1.size)
              have HOP := HO
              replace T := hide (T.out.later hz)
              replace HOT := hide (HOT.out.below hz HOT.out.lt)
              replace HOP := hide (HOP.out.below hz HOP.out.lt)
              replace HSL := hide (HSL.out.later hz)
              replace HP := hide (HP.out.later hz)
              replace HB := hide (HB.out.trans (hz.mono HB.out.size))
              go_roundw
              case rel => exact ⟨t + 1, by go_num, by omega, T, HOT, HOP, HSL, HP, HB⟩
              case measure => simp [intOf]; omega
            · obtain rfl : t = 3 := by omega
              go_wp2_with fail
              go_roundw
              case rel => exact ⟨k + 1, by go_num, by omega, T, HOT, HB⟩
              case measure => simp [intOf]; omega
        · obtain rfl : k = 2 := by omega
          go_wp2_with fail
          go_ret
          exact ⟨rfl, HB.out⟩
end Go.Proofs.Ytejhnfeligifgaa
