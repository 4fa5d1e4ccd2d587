/- What makes inputs of the statements: dice over a row of bytes, a right program with arbitrary instructions: contracts. -/
import Derived.Test.YtfjekckcpkkdiaaGreatDoorMadeProg
namespace Go.Proofs.YtfjekckcpkkdiaaGreatDoor
open Go.RowKit

theorem Bytes.takeN {w : World} {B n : Nat} {A : Option Addr} {l : List UInt8} (h : Bytes w B A n l) {k : Nat} (hk : k ≤ n) : Bytes w B A k (l.take k) := by
  have hl := h.1
  refine ⟨by rw [List.length_take]; omega, ⟨by rw [bv_length, List.length_take]; omega, fun hA => ?_, ?_⟩⟩
  · have := h.2.2.1 hA
    omega
  · have := h.2.rd.take_ k
    simpa [bv] using this

/-- Dice, made of a row that came in. -/
def NewPost (w : World) (e : Ending) (w' : World) : Prop := e = .returned (.pointer (some ⟨w.heap.size, 0, none⟩)) ∧ Dice w' w.heap.size w.heap.size ∧ Below w.heap.size w w' ∧ w'.heap.size = w.heap.size + 1
set_option maxHeartbeats 1000000 in
theorem new_dice (C : Nat) (A : Option Addr) (n c : Nat) (l : List UInt8) (w : World) (h : Bytes w C A n l) (hC : C ≤ w.heap.size) (hn : n ≤ c ∧ c ≤ 9223372036854775807) :
    Calls Tryz.prog 19 #[.slice A n c] w (NewPost w) := by
  by_cases h4 : n ≤ 400
  · have hD : Dice (w.alloc (.cells #[.slice A n c] 82)) w.heap.size w.heap.size := ⟨A, n, c, l, Obl.make w _ _, (h.mono hC).below ((Below.refl _ _).alloc (Nat.le_refl _) _), ⟨hn.1, hn.2⟩, Nat.le_refl _⟩
    have HP : Hid (NewPost w (.returned (.pointer (some ⟨w.heap.size, 0, none⟩))) (w.alloc (.cells #[.slice A n c] 82))) := hide ⟨rfl, hD, (Below.refl _ _).alloc (Nat.le_refl _) _, by simp⟩
    clear hD
    have h4' : (n : Int) ≤ 400 := by omega
    have hnc : (n : Int) ≤ (c : Int) := by omega
    have hmin : min (n : Int) 400 = (n : Int) := by omega
    go_enter Tryz.func19, Tryz.ntmps19
    go_wp2
    go_ret
    exact HP.out
  · have hD : Dice (w.alloc (.cells #[.slice A 400 c] 82)) w.heap.size w.heap.size := ⟨A, 400, c, l.take 400, Obl.make w _ _, ((h.takeN (by omega)).mono hC).below ((Below.refl _ _).alloc (Nat.le_refl _) _), ⟨by omega, hn.2⟩, Nat.le_refl _⟩
    have HP : Hid (NewPost w (.returned (.pointer (some ⟨w.heap.size, 0, none⟩))) (w.alloc (.cells #[.slice A 400 c] 82))) := hide ⟨rfl, hD, (Below.refl _ _).alloc (Nat.le_refl _) _, by simp⟩
    clear hD
    have h4' : (400 : Int) < (n : Int) := by omega
    have hnc : (n : Int) ≤ (c : Int) := by omega
    have hmin : min (n : Int) 400 = 400 := by omega
    go_enter Tryz.func19, Tryz.ntmps19
    go_wp2
    go_ret
    exact HP.out

/-- A right program with arbitrary instructions. -/
def MadePr (p : Cd.Pr) : Prop := CodeMade p.code ∧ p.code.length ≤ 120 ∧ p.strs = pathL ∧ (0 ≤ p.pages ∧ p.pages ≤ 2)
theorem path_le : ∀ s ∈ pathL, s.length ≤ 128 := by decide
theorem MadePr.good {p : Cd.Pr} (h : MadePr p) : Cd.Good p := by
  obtain ⟨h1, h2, h3, h4⟩ := h
  refine ⟨?_, fun x hx => (h1 x hx).2.1⟩
  rw [Cd.check_of_ok (by omega) (by rw [h3]; decide) (by rw [h3]; exact path_le) (by omega) (by omega) (fun x hx => (h1 x hx).1 _ (Nat.le_refl _))]
def MadeP (w : World) (e : Ending) (w' : World) : Prop := ∃ A n c D m d, ∃ p : Cd.Pr, e = .returned (pa A n c D m d p.pages) ∧ (Inss w' w'.heap.size A n p.code ∧ Strs w' w'.heap.size D m p.strs) ∧ MadePr p ∧ Below w.heap.size w w'

set_option maxRecDepth 100000 in
set_option maxHeartbeats 8000000 in
theorem made_any (S : Option Addr) (q r C : Nat) (l : List UInt8) (w : World) (h : Bytes w C S q l) (hC : C ≤ w.heap.size) (hq : q ≤ r ∧ r ≤ 9223372036854775807) :
    Calls Tryz.prog 10 #[.slice S q r] w (MadeP w) := by
  have OR0 := Obl.make w 25 #[.slice none 0 0, .slice none 0 0, .int .i64 0]
  have HS0 := hide (h.belowLe ((Below.refl w.heap.size w).alloc (Nat.le_refl _) (.cells #[.slice none 0 0, .slice none 0 0, .int .i64 0] 25)) hC)
  have HB0 := hide ((Below.refl w.heap.size w).alloc (Nat.le_refl _) (.cells #[.slice none 0 0, .slice none 0 0, .int .i64 0] 25))
  have HR0 := hide OR0
  clear h OR0
  go_enter Tryz.func10, Tryz.ntmps10
  go_wp2_with fail
  refine (new_dice C S q r l _ HS0.out (Nat.le_trans hC (by simp)) hq).mono ?_
  rintro e w1 ⟨rfl, hD, hb, hsz⟩
  have HR1 := hide (HR0.out.below hb HR0.out.lt)
  have HB1 := hide (HB0.out.trans (hb.mono (by simp)))
  have HD1 := hide hD
  have hs0 : (w.alloc (.cells #[.slice none 0 0, .slice none 0 0, .int .i64 0] 25)).heap.size = w.heap.size + 1 := by simp
  rw [hs0] at HD1 hsz ⊢
  have hrb : w.heap.size ≠ w.heap.size + 1 := by omega
  obtain ⟨b, hbe⟩ : ∃ b, b = w.heap.size + 1 := ⟨_, rfl⟩
  rw [← hbe] at HD1 hsz hrb ⊢
  obtain ⟨B1, hB1⟩ : ∃ B1, B1 = w1.heap.size := ⟨_, rfl⟩
  have hlt : b < B1 := by omega
  have hCb : b ≤ w1.heap.size := by omega
  have hwB : w.heap.size ≤ B1 := by omega
  have hrB : w.heap.size ≠ B1 := by omega
  have hwb : w.heap.size ≤ b := by omega
  have HBe := hide hB1
  clear hb hD HS0 HB0 HR0 hs0 hB1 hsz hbe
  go_wp2_with fail
  refine (program_dice b b _ HD1.out hCb).mono ?_
  rintro e w2 ⟨A, n, c, D, m, d, p, rfl, hownA, hownD, ⟨hcm, hcl, hps, hpg⟩, hD, hB⟩
  rw [← HBe.out] at hownA hownD hB
  have hBw : B1 ≤ w1.heap.size := Nat.le_of_eq HBe.out
  have hBs := Nat.le_trans hBw hB.size
  obtain ⟨code, strs, pg⟩ := p
  simp only at hownA hownD hcm hcl hps hpg
  simp only [pa]
  have hgb : w2.heap.size ≠ b := by omega
  have hPr : RqP (w2.alloc (.cells #[.slice A n c, .slice D m d, .int .i64 pg] 25)) B1 w2.heap.size #[.slice A n c, .slice D m d, .int .i64 pg] A n c D m d code strs := ⟨Obl.make w2 _ _, by simp; omega, hownA.alloc _, hownD.alloc _⟩
  have HD2 := hide (hD.alloc (.cells #[.slice A n c, .slice D m d, .int .i64 pg] 25))
  have HB2 := hide (hB.trans (Bel.of (b := b) ((Below.refl B1 w2).alloc hBs (.cells #[.slice A n c, .slice D m d, .int .i64 pg] 25))))
  have HR2 := hide ((hB.obl HR1.out (Nat.lt_of_le_of_ne hwB hrB) hrb).alloc (.cells #[.slice A n c, .slice D m d, .int .i64 pg] 25))
  have HP2 := hide hPr
  have hB2 : B1 ≤ w2.heap.size := hBs
  have HC2 := hide hcm
  have HS2 := hide hps
  clear hD hB hPr hownA hownD HD1 HR1 hcm hps
  go_wp2_with fail
  generalize w2.alloc (.cells #[.slice A n c, .slice D m d, .int .i64 pg] 25) = w3 at *
  generalize w2.heap.size = gp at *
  refine (next_dice b b 20 _ HD2.out (by omega) (by omega)).mono ?_
  rintro e w4 ⟨cn, rfl, hcn, hD, hB⟩
  obtain ⟨i0, rfl⟩ := Int.eq_ofNat_of_zero_le hcn.1
  have hi19 : i0 ≤ 19 := by omega
  have HD3 := hide hD
  have HB3 := hide (HB2.out.trans (hB.mono (Nat.le_trans hBw HB2.out.size)))
  have HR3 := hide (hB.obl' HR2.out hrb)
  have HP3 := hide (HP2.out.bel hB hlt hgb)
  clear hD hB HD2 HB2 HR2 HP2 hcn
  go_wp2_with fail
  go_loopw [5] (fun s5 wr => ∃ (i n c : Nat) (A : Option Addr) (code : List Cd.Ins), s5 = .int .i64 (i : Int) ∧ i ≤ 19 ∧ RqP wr B1 gp #[.slice A n c, .slice D m d, .int .i64 pg] A n c D m d code strs ∧ (Hid (CodeMade code) ∧ code.length + i ≤ 119) ∧ Hid (Dice wr b b) ∧ Hid (Bel B1 b w1 wr) ∧ Obl wr w.heap.size 25 #[.slice none 0 0, .slice none 0 0, .int .i64 0]) (fun s5 _ => (intOf s5).toNat)
  case atStart => exact ⟨i0, n, c, A, code, rfl, hi19, HP3.out, ⟨HC2, by omega⟩, HD3, HB3, HR3.out⟩
  case round =>
    clear HC2 HP3 HD3 HB3 HR3 hcl hi19
    obtain ⟨i, n, c, A, code, rfl, hi, hP, ⟨HC, hlen⟩, HD, HB, hR⟩ := hrel
    have k0 := hP.1.cell 0
    simp at k0
    have hnl := own_inss hP.2.2.1
    have hbk := HD.out.lt
    by_cases h0 : 0 < i
    · have hi0' : (0 : Int) < (i : Int) := by omega
      go_wp2_with fail
      refine region_D (by kernel_rfl) wr.drew.heap.size b [8, 10] ?_
      replace hP : RqP wr.drew B1 gp #[.slice A n c, .slice D m d, .int .i64 pg] A n c D m d code strs := hP
      replace HD : Hid (Dice wr.drew b b) := HD
      replace HB : Hid (Bel B1 b w1 wr.drew) := hide ⟨HB.out.os, HB.out.tape, HB.out.output, HB.out.size, HB.out.block⟩
      replace hR : Obl wr.drew w.heap.size 25 #[.slice none 0 0, .slice none 0 0, .int .i64 0] := hR
      replace k0 : wr.drew.cell? ⟨gp, 0, none⟩ = some (.slice A n c) := k0
      have hgl : gp < wr.drew.heap.size := hP.1.lt
      generalize wr.drew = u0 at *
      refine takeDX 0 rfl (by kernel_rfl) (fun _ _ _ h => h) (by rfl) (by intro w'; go_simp; try with_reducible rfl) ?_
      refine takeD 1 [1, 8, 9, 10] rfl (by kernel_rfl) (fun _ _ _ h => h) (by rfl) (by intro w' hg; have g0 := (hg.cell (p := ⟨gp, 0, none⟩) (by show gp < _; exact hgl) (by show gp ≠ b; exact hgb)).trans k0; go_simp; try with_reducible rfl) ?_
      refine takeDX 2 rfl (by kernel_rfl) (fun _ _ _ h => h) (by rfl) (by intro w'; go_simp; try with_reducible rfl) ?_
      refine takeDX 3 rfl (by kernel_rfl) (fun _ _ _ h => h) (by rfl) (by intro w'; go_simp; try with_reducible rfl) ?_
      refine takeD 4 [4, 5, 6, 7, 8, 9, 10] rfl (by kernel_rfl) (fun _ _ _ h => h) (by rfl) (by intro w' hg; have g0 := (hg.cell (p := ⟨gp, 0, none⟩) (by show gp < _; exact hgl) (by show gp ≠ b; exact hgb)).trans k0; go_simp; try with_reducible rfl) ?_
      refine takeDX 5 rfl (by kernel_rfl) (fun _ _ _ h => h) (by rfl) (by intro w'; go_simp; try with_reducible rfl) ?_
      refine onlyD 6 rfl (by kernel_rfl) (by rfl) ?_
      intro K hK
      go_simp
      refine (instr_dice b b n _ HD.out (by omega)).mono ?_
      rintro e u1 ⟨x, rfl, hx, hD, hB⟩
      simp only [ia]
      have hP1 := hP.bel hB hlt hgb
      have HD1 := hide hD
      have HB1 := hide (HB.out.trans (hB.mono (Nat.le_trans hBw HB.out.size)))
      have hR1 := hB.obl' hR hrb
      have HCx : Hid (CodeMade (code ++ [x])) := hide (HC.out.append (fun y hy => by simp only [List.mem_singleton] at hy; subst hy; rw [hnl]; exact hx))
      obtain ⟨xo, xa, xb, xc⟩ := x
      simp only
      refine hK _ _ (fun _ => hB) ?_
      clear hK K hD hP HD HB hR hx
      refine onlyD 7 rfl (by kernel_rfl) (by rfl) ?_
      intro K hK
      go_simp
      refine hK _ _ (fun _ => Bel.of ((Below.refl _ _).alloc hB.size _)) ?_
      clear hK K
      have h2 := hP1.alloc (.cells #[.int .i64 xo, .int .i64 xa, .int .i64 xb, .int .i64 xc] 32)
      have HD2 := hide (HD1.out.alloc (.cells #[.int .i64 xo, .int .i64 xa, .int .i64 xb, .int .i64 xc] 32))
      have HB2 := hide (HB1.out.trans (Bel.of (b := b) ((Below.refl B1 u1).alloc (Nat.le_trans hBw HB1.out.size) (.cells #[.int .i64 xo, .int .i64 xa, .int .i64 xb, .int .i64 xc] 32))))
      have hR2 := hR1.alloc (.cells #[.int .i64 xo, .int .i64 xa, .int .i64 xb, .int .i64 xc] 32)
      refine onlyD 8 rfl (by kernel_rfl) (by rfl) ?_
      intro K hK
      refine wp_append_rd (.tmp 17) (.tmp 23) _ rfl insTy (A := A) (n := n) (c := c) rfl h2.2.2.1 (B := u1.heap.size + 1) (S := some ⟨u1.heap.size, 0, none⟩) (m := 1) (d := 1) (news := [.int .i64 xo, .int .i64 xa, .int .i64 xb, .int .i64 xc]) rfl (Row.four u1 ⟨xo, xa, xb, xc⟩ _) (by simp [Value.oneCell']) (by unfold maxLen; omega) (by omega) h2.2.1 ?_
      intro A7 c7 w7 hown7 hgrow7 hat7
      rw [iv_snoc code ⟨xo, xa, xb, xc⟩] at hown7
      have h3 := h2.withCode hgrow7 hown7
      have HD3 := hide (HD2.out.grown hgrow7 (fun e => by have := (h2.2.2.1.lt b (by rw [ownBlock_slice]; exact e.symm)).1; omega) (fun j hj => by have := (h2.2.2.1.lt j (by rw [ownBlock_slice]; exact hj)).1; omega))
      have HB3 := hide (HB2.out.trans (Bel.of (b := b) (below_own (Below.refl _ _) h2.2.2.1 hgrow7 h2.2.1)))
      have hR3 := hR2.grown hgrow7 (hR2.apart h2.2.2.1 (by decide))
      refine hK _ _ (fun h => absurd h (by decide)) ?_
      clear hK K
      have q0 := h3.1.cell 0
      have z0 := h3.1.free 0
      simp at q0
      refine takeDX 9 rfl (by kernel_rfl) (fun _ _ _ h => h) (by rfl) (by intro w'; go_simp; try with_reducible rfl) ?_
      refine onlyD 10 rfl (by kernel_rfl) (by rfl) ?_
      intro K hK
      go_simp
      refine hK _ _ (fun h => absurd h (by decide)) ?_
      clear hK K
      have h5 : RqP (w7.setCell ⟨gp, 0, none⟩ (.slice A7 (n + 1) c7)) B1 gp #[.slice A7 (n + 1) c7, .slice D m d, .int .i64 pg] A7 (n + 1) c7 D m d (code ++ [⟨xo, xa, xb, xc⟩]) strs := h3.put 0 (.slice A7 (n + 1) c7)
      have HD5 := hide (HD3.out.put_other (g := gp) (by omega) (by omega) 0 (.slice A7 (n + 1) c7))
      have HB5 := hide (HB3.out.setGe (g := gp) (by omega) 0 (.slice A7 (n + 1) c7))
      have hR5 := hR3.put_other (b' := gp) (by omega) 0 (.slice A7 (n + 1) c7)
      generalize w7.setCell ⟨gp, 0, none⟩ (.slice A7 (n + 1) c7) = w5' at *
      clear h3 HD3 HB3 hR3 q0 z0 h2 HD2 HB2 hR2
      refine doneD (by kernel_rfl) ?_
      go_simp
      go_wp2_with fail
      go_roundw
      case rel => exact ⟨i - 1, n + 1, c7, A7, code ++ [⟨xo, xa, xb, xc⟩], congrArg (Value.int .i64) (by omega), by omega, h5, ⟨HCx, by rw [List.length_append]; simp only [List.length_cons, List.length_nil]; omega⟩, HD5, HB5, hR5⟩
      case measure => simp [intOf]; omega
    · have hi0' : ¬ (0 : Int) < (i : Int) := by omega
      have j0 := hP.1.cell 0
      have j1 := hP.1.cell 1
      have j2 := hP.1.cell 2
      simp at j0 j1 j2
      have p0 := hR.cell 0
      have y0 := hR.free 0
      have p1 := hR.cell 1
      have y1 := hR.free 1
      have p2 := hR.cell 2
      have y2 := hR.free 2
      simp at p0 p1 p2
      have hne1 : (Value.slice A n c).ownBlock ≠ some w.heap.size := by rw [ownBlock_slice]; exact fun e => hR.apart hP.2.2.1 (by decide) e.symm
      have hne2 : (Value.slice D m d).ownBlock ≠ some w.heap.size := by rw [ownBlock_slice]; exact fun e => hR.apart hP.2.2.2 (by decide) e.symm
      have OF : Obl (((wr.setCell ⟨w.heap.size, 0, none⟩ (.slice A n c)).setCell ⟨w.heap.size, 1, none⟩ (.slice D m d)).setCell ⟨w.heap.size, 2, none⟩ (.int .i64 pg)) w.heap.size 25 #[.slice A n c, .slice D m d, .int .i64 pg] := (((hR.put 0 (.slice A n c)).put 1 (.slice D m d)).put 2 (.int .i64 pg))
      have HBF : Hid (Below w.heap.size w (((wr.setCell ⟨w.heap.size, 0, none⟩ (.slice A n c)).setCell ⟨w.heap.size, 1, none⟩ (.slice D m d)).setCell ⟨w.heap.size, 2, none⟩ (.int .i64 pg))) := hide ((((HB1.out.trans (HB.out.below hwB hwb)).setCell (p := ⟨w.heap.size, 0, none⟩) (Nat.le_refl _) (.slice A n c)).setCell (p := ⟨w.heap.size, 1, none⟩) (Nat.le_refl _) (.slice D m d)).setCell (p := ⟨w.heap.size, 2, none⟩) (Nat.le_refl _) (.int .i64 pg))
      have HW1 := hide (Inss.of_own (ownsRow_setCell_other (a := ⟨w.heap.size, 2, none⟩) (ownsRow_setCell_other (a := ⟨w.heap.size, 1, none⟩) (ownsRow_setCell_other (a := ⟨w.heap.size, 0, none⟩) hP.2.2.1 hne1 (.slice A n c)) hne1 (.slice D m d)) hne1 (.int .i64 pg)))
      have HW2 := hide (Strs.of_own (ownsRow_setCell_other (a := ⟨w.heap.size, 2, none⟩) (ownsRow_setCell_other (a := ⟨w.heap.size, 1, none⟩) (ownsRow_setCell_other (a := ⟨w.heap.size, 0, none⟩) hP.2.2.2 hne2 (.slice A n c)) hne2 (.slice D m d)) hne2 (.int .i64 pg)))
      go_wp2
      refine bodyPost_ret (results_cell_1 rfl _ (b := w.heap.size) rfl OF Tryz.underlying25 rfl prSize) rfl ?_
      exact ⟨A, n, c, D, m, d, ⟨code, strs, pg⟩, rfl, ⟨HW1.out, HW2.out⟩, ⟨HC.out, by show code.length ≤ 120; omega, HS2.out, by show 0 ≤ pg ∧ pg ≤ 2; omega⟩, HBF.out⟩
end Go.Proofs.YtfjekckcpkkdiaaGreatDoor
