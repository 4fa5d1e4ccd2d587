/- What makes inputs of the statements: the instructions of a call: a contract. -/
import Derived.Test.YtkcegdnjgkideaaMadeIns
import Derived.Test.YtkcegdnjgkideaaRegionD
import Derived.Deep.CutRange
namespace Go.Proofs.Ytkcegdnjgkideaa
open Go.RowKit

def callL : List Int := [2, 3, 4, 5, 6, 7, 7, 8, 9, 10, 9, 10, 11, 12, 13, 14, 15, 16, 17, 18, 19, 20, 21, 22, 23, 24, 1]
/-- Some instructions, a row of the call's own, and the dice. -/
def RowThrown (C b : Nat) (w : World) (e : Ending) (w' : World) : Prop := ∃ A m c l, e = .returned (.slice A m c) ∧ w'.ownsRow w.heap.size 31 4 (.slice A m c) m (iv l) ∧ (∀ x ∈ l, InsMade 0 x) ∧ m ≤ 4 ∧ Dice w' C b ∧ Bel w.heap.size b w w'
theorem iv_two (x y : Cd.Ins) : [Value.int .i64 x.op, .int .i64 x.a, .int .i64 x.b, .int .i64 x.c, .int .i64 y.op, .int .i64 y.a, .int .i64 y.b, .int .i64 y.c] = iv [x, y] := rfl
theorem Row.eight (w : World) (x y : Cd.Ins) (t : TypeId) : Row (w.alloc (.cells #[.int .i64 x.op, .int .i64 x.a, .int .i64 x.b, .int .i64 x.c, .int .i64 y.op, .int .i64 y.a, .int .i64 y.b, .int .i64 y.c] t)) (w.heap.size + 1) 4 (some ⟨w.heap.size, 0, none⟩) 2 [.int .i64 x.op, .int .i64 x.a, .int .i64 x.b, .int .i64 x.c, .int .i64 y.op, .int .i64 y.a, .int .i64 y.b, .int .i64 y.c] :=
  ⟨by simp, by simp, (Row.list w [.int .i64 x.op, .int .i64 x.a, .int .i64 x.b, .int .i64 x.c, .int .i64 y.op, .int .i64 y.a, .int .i64 y.b, .int .i64 y.c] t).rd⟩
theorem own_four (w : World) (base : Nat) (x : Cd.Ins) (t : TypeId) (hb : base ≤ w.heap.size) : (w.alloc (.cells #[.int .i64 x.op, .int .i64 x.a, .int .i64 x.b, .int .i64 x.c] t)).ownsRow base t 4 (.slice (some ⟨w.heap.size, 0, none⟩) 1 1) 1 (iv [x]) :=
  ⟨by simp [iv, ic], .inr ⟨w.heap.size, 1, #[.int .i64 x.op, .int .i64 x.a, .int .i64 x.b, .int .i64 x.c], rfl, hb, heap_alloc_new w _, Nat.le_refl _, by unfold maxLen; omega, by simp, by simp [iv, ic]⟩⟩
theorem Dice.grown {w w' : World} {C b : Nat} {row : Option Nat} (h : Dice w C b) (hg : w.grownBy w' row) (h1 : some b ≠ row) (h2 : ∀ k, row = some k → C ≤ k) : Dice w' C b := by
  have hlt := h.lt
  obtain ⟨A, n, c, l, h3, h4, h5, h6⟩ := h
  refine ⟨A, n, c, l, h3.grown hg h1, h4.below ?_, h5, h6⟩
  exact ⟨hg.os, hg.tape, hg.output, hg.size, fun k hk => hg.block k (by omega) (fun e => by have := h2 k e.symm; omega)⟩
theorem own_bel {w w' : World} {b base size n : Nat} {e : TypeId} {v : Value} {xs : List Value} (h : w.ownsRow base e size v n xs) (hb : Bel w.heap.size b w w') (hbb : b < base) : w'.ownsRow base e size v n xs := by
  refine ⟨h.1, ?_⟩
  rcases h.2 with h0 | ⟨g, cap, cur, hv, hg, hh, hn⟩
  · exact .inl h0
  · exact .inr ⟨g, cap, cur, hv, hg, (hb.block g (lt_of_block hh) (by omega)).trans hh, hn⟩

set_option maxRecDepth 100000 in
set_option maxHeartbeats 16000000 in
theorem block_dice (C b : Nat) (w : World) (h : Dice w C b) (hC : C ≤ w.heap.size) :
    Calls Try.prog 26 #[.pointer (some ⟨b, 0, none⟩)] w (RowThrown C b w) := by
  have hlt := h.lt
  have O0 : Obl (w.alloc (.cells #[.int .i64 2, .int .i64 3, .int .i64 4, .int .i64 5, .int .i64 6, .int .i64 7, .int .i64 7, .int .i64 8, .int .i64 9, .int .i64 10, .int .i64 9, .int .i64 10, .int .i64 11, .int .i64 12, .int .i64 13, .int .i64 14, .int .i64 15, .int .i64 16, .int .i64 17, .int .i64 18, .int .i64 19, .int .i64 20, .int .i64 21, .int .i64 22, .int .i64 23, .int .i64 24, .int .i64 1] 3)) w.heap.size 3 (nv .i64 callL).toArray := Obl.make w 3 (nv .i64 callL).toArray
  have HO0 := hide O0
  have HD0 := hide (h.alloc (.cells #[.int .i64 2, .int .i64 3, .int .i64 4, .int .i64 5, .int .i64 6, .int .i64 7, .int .i64 7, .int .i64 8, .int .i64 9, .int .i64 10, .int .i64 9, .int .i64 10, .int .i64 11, .int .i64 12, .int .i64 13, .int .i64 14, .int .i64 15, .int .i64 16, .int .i64 17, .int .i64 18, .int .i64 19, .int .i64 20, .int .i64 21, .int .i64 22, .int .i64 23, .int .i64 24, .int .i64 1] 3))
  have HB0 := hide (Bel.of (b := b) ((Below.refl w.heap.size w).alloc (Nat.le_refl _) (.cells #[.int .i64 2, .int .i64 3, .int .i64 4, .int .i64 5, .int .i64 6, .int .i64 7, .int .i64 7, .int .i64 8, .int .i64 9, .int .i64 10, .int .i64 9, .int .i64 10, .int .i64 11, .int .i64 12, .int .i64 13, .int .i64 14, .int .i64 15, .int .i64 16, .int .i64 17, .int .i64 18, .int .i64 19, .int .i64 20, .int .i64 21, .int .i64 22, .int .i64 23, .int .i64 24, .int .i64 1] 3)))
  clear h O0
  go_enter Try.func26, Try.ntmps26
  go_wp2_with fail
  refine (next_dice C b 27 _ HD0.out (by omega) (by omega)).mono ?_
  rintro e w1 ⟨v, rfl, hv, hD, hB⟩
  obtain ⟨k, rfl⟩ := Int.eq_ofNat_of_zero_le hv.1
  have hk : k < callL.length := by show k < 27; omega
  have hk27 : (k : Int) < 27 := by omega
  have c1 := (hB.obl' HO0.out (by omega)).num hk
  have hnum : 1 ≤ callL[k] ∧ callL[k] ≤ 24 := by
    have : ∀ k : Fin 27, 1 ≤ callL[k] ∧ callL[k] ≤ 24 := by decide
    exact this ⟨k, hk⟩
  have HD1 := hide hD
  have HB1 := hide (HB0.out.then hB)
  clear hD hB HO0 HD0 HB0
  generalize callL[k] = nr at *
  clear hk hv
  go_upto_region 2 with fail
  clear c1 hk27
  go_cut [4, 5] from 16 to 98 (fun s4 s5 wx => ∃ a0 b0 : Int, s4 = .int .i64 a0 ∧ s5 = .int .i64 b0 ∧ (0 ≤ a0 ∧ a0 ≤ 3) ∧ (0 ≤ b0 ∧ b0 ≤ 3) ∧ Hid (Dice wx C b) ∧ Hid (Bel w.heap.size b w wx))
  case first =>
    go_wp2_with fail
    refine (next_dice C b 4 _ HD1.out (by omega) (by omega)).mono ?_
    rintro e w2 ⟨a0, rfl, ha0, hD, hB⟩
    have HD2 := hide hD
    have HB2 := hide (HB1.out.then hB)
    clear hD hB HD1 HB1
    go_wp2_with fail
    refine (next_dice C b 4 _ HD2.out (by omega) (by omega)).mono ?_
    rintro e w3 ⟨b0, rfl, hb0, hD, hB⟩
    have HD3 := hide hD
    have HB3 := hide (HB2.out.then hB)
    clear hD hB HD2 HB2
    go_wp2_with fail
    go_meet
    case rel => exact ⟨a0, b0, rfl, rfl, by omega, by omega, HD3, HB3⟩
  case rest =>
  obtain ⟨a0, b0, rfl, rfl, ha0, hb0, HD3, HB3⟩ := hcut
  clear HD1 HB1
  generalize wc = w3 at *
  refine ‹∀ (a : Act) (w : World), Code.wp Try.prog _ _ a w → _› _ _ ?_
  go_step
  go_cut [4, 5] from 66 to 98 (fun s4 s5 wx => ∃ va vb : Int, s4 = .int .i64 va ∧ s5 = .int .i64 vb ∧ (-1 ≤ va ∧ va ≤ 200) ∧ (-1 ≤ vb ∧ vb ≤ 200) ∧ Hid (Dice wx C b) ∧ Hid (Bel w.heap.size b w wx))
  case first =>
    by_cases n7 : nr = 7
    · subst n7
      go_wp2_with fail
      refine (next_dice C b 8 _ HD3.out (by omega) (by omega)).mono ?_
      rintro e w4 ⟨x, rfl, hx, hD, hB⟩
      have HD4 := hide hD
      have HB4 := hide (HB3.out.then hB)
      clear hD hB
      go_wp2_with fail
      refine (next_dice C b 2 _ HD4.out (by omega) (by omega)).mono ?_
      rintro e w5 ⟨y, rfl, hy, hD, hB⟩
      have HD5 := hide hD
      have HB5 := hide (HB4.out.then hB)
      clear hD hB
      go_wp2_with fail
      go_meet
      case rel => exact ⟨x, y, rfl, rfl, by omega, by omega, HD5, HB5⟩
    by_cases n16 : nr = 16
    · subst n16
      go_wp2_with fail
      refine region_D (by kernel_rfl) w3.drew.heap.size b [] ?_
      have HD4 : Hid (Dice w3.drew C b) := HD3
      have HB4 : Hid (Bel w.heap.size b w w3.drew) := hide ⟨HB3.out.os, HB3.out.tape, HB3.out.output, HB3.out.size, HB3.out.block⟩
      have hbk : b < w3.drew.heap.size := HD4.out.lt
      generalize w3.drew = u0 at *
      refine takeDX 1 rfl (by kernel_rfl) (fun _ _ _ h => h) (by rfl) (by intro w'; go_simp; try with_reducible rfl) ?_
      refine takeDX 5 rfl (by kernel_rfl) (fun _ _ _ h => h) (by rfl) (by intro w'; go_simp; try with_reducible rfl) ?_
      refine twoD 0 2 rfl rfl (by kernel_rfl) (by rfl) (by rfl) ?_ ?_
      · intro K hK
        go_simp
        refine hK _ _ (fun _ => Bel.of ((Below.refl _ _).alloc (Nat.le_refl _) _)) ?_
        clear hK K
        have OT : Obl (u0.alloc (.cells #[.int .i64 4, .int .i64 4, .int .i64 4, .int .i64 1, .int .i64 9] 3)) u0.heap.size 3 (nv .i64 [4, 4, 4, 1, 9]).toArray := Obl.make u0 3 (nv .i64 [4, 4, 4, 1, 9]).toArray
        have HD5 := hide (HD4.out.alloc (.cells #[.int .i64 4, .int .i64 4, .int .i64 4, .int .i64 1, .int .i64 9] 3))
        have HB5 := hide (HB4.out.trans (Bel.of (b := b) ((Below.refl w.heap.size u0).alloc HB4.out.size (.cells #[.int .i64 4, .int .i64 4, .int .i64 4, .int .i64 1, .int .i64 9] 3))))
        have hs5 : u0.heap.size ≤ (u0.alloc (.cells #[.int .i64 4, .int .i64 4, .int .i64 4, .int .i64 1, .int .i64 9] 3)).heap.size := by simp
        have hgb : u0.heap.size ≠ b := by omega
        generalize u0.alloc (.cells #[.int .i64 4, .int .i64 4, .int .i64 4, .int .i64 1, .int .i64 9] 3) = u5 at *
        refine onlyD 2 rfl (by kernel_rfl) (by rfl) ?_
        intro K hK
        go_simp
        refine (next_dice C b 5 _ HD5.out (by omega) (by omega)).mono ?_
        rintro e u6 ⟨x, rfl, hx, hD, hB⟩
        obtain ⟨q, rfl⟩ := Int.eq_ofNat_of_zero_le hx.1
        have hq : q < 5 := by omega
        have hqi : (q : Int) < 5 := by omega
        have O6 := hB.obl' OT hgb
        have c1 := O6.num (k := q) hq
        have hgl := O6.lt
        have hraise : u0.heap.size ≤ u6.heap.size := Nat.le_trans hs5 hB.size
        have HD6 := hide hD
        have HB6 := hide (HB5.out.trans (hB.mono HB5.out.size))
        refine hK _ _ (fun _ => hB.mono hs5) ?_
        clear hK K hD hB O6 OT
        have hr : -1 ≤ ([4, 4, 4, 1, 9] : List Int)[q]'hq ∧ ([4, 4, 4, 1, 9] : List Int)[q]'hq ≤ 200 := by
          have : ∀ q : Fin 5, -1 ≤ ([4, 4, 4, 1, 9] : List Int)[q] ∧ ([4, 4, 4, 1, 9] : List Int)[q] ≤ 200 := by decide
          exact this ⟨q, hq⟩
        generalize ([4, 4, 4, 1, 9] : List Int)[q]'hq = rv at *
        refine raiseD (B' := u6.heap.size) hraise _ _ _ _ ?_
        refine takeDX 3 rfl (by kernel_rfl) (fun _ _ _ h => h) (by rfl) (by intro w'; have hqb : (q : Int) < 5 := hqi; go_simp; try with_reducible rfl) ?_
        refine takeD 4 [4, 7, 8] rfl (by kernel_rfl) (fun _ _ _ h => h) (by rfl) (by intro w' hg; have g0 := (hg.cell (p := ⟨u0.heap.size, q, none⟩) (by show u0.heap.size < _; exact hgl) (by show u0.heap.size ≠ b; omega)).trans c1; go_simp; try with_reducible rfl) ?_
        refine onlyD 6 rfl (by kernel_rfl) (by rfl) ?_
        intro K hK
        go_simp
        refine (next_dice C b 3 _ HD6.out (by omega) (by omega)).mono ?_
        rintro e u7 ⟨y, rfl, hy, hD, hB⟩
        have HD7 := hide hD
        have HB7 := hide (HB6.out.trans (hB.mono HB6.out.size))
        refine hK _ _ (fun _ => hB) ?_
        clear hK K hD hB
        refine takeDX 7 rfl (by kernel_rfl) (fun _ _ _ h => h) (by rfl) (by intro w'; go_simp; try with_reducible rfl) ?_
        refine takeDX 8 rfl (by kernel_rfl) (fun _ _ _ h => h) (by rfl) (by intro w'; go_simp; try with_reducible rfl) ?_
        refine doneD (by kernel_rfl) ?_
        go_simp
        go_wp2_with fail
        go_meet
        case rel => exact ⟨_, _, rfl, rfl, hr, by omega, HD7, HB7⟩
      · intro K hK
        go_simp
        refine (next_dice C b 5 _ HD4.out (by omega) (by omega)).mono ?_
        rintro e u5 ⟨x, rfl, hx, hD, hB⟩
        obtain ⟨q, rfl⟩ := Int.eq_ofNat_of_zero_le hx.1
        have hq : q < 5 := by omega
        have hqi : (q : Int) < 5 := by omega
        have HD5 := hide hD
        have HB5 := hide (HB4.out.trans (hB.mono HB4.out.size))
        have hs5 := hB.size
        refine hK _ _ (fun _ => hB) ?_
        clear hK K hD hB
        refine twoD 0 6 rfl rfl (by kernel_rfl) (by rfl) (by rfl) ?_ ?_
        · intro K hK
          go_simp
          refine hK _ _ (fun _ => Bel.of ((Below.refl _ _).alloc hs5 _)) ?_
          clear hK K
          have O6 : Obl (u5.alloc (.cells #[.int .i64 4, .int .i64 4, .int .i64 4, .int .i64 1, .int .i64 9] 3)) u5.heap.size 3 (nv .i64 [4, 4, 4, 1, 9]).toArray := Obl.make u5 3 (nv .i64 [4, 4, 4, 1, 9]).toArray
          have c1 := O6.num (k := q) hq
          have hgl := O6.lt
          have hraise : u0.heap.size ≤ (u5.alloc (.cells #[.int .i64 4, .int .i64 4, .int .i64 4, .int .i64 1, .int .i64 9] 3)).heap.size := Nat.le_trans hs5 (by simp)
          have HD6 := hide (HD5.out.alloc (.cells #[.int .i64 4, .int .i64 4, .int .i64 4, .int .i64 1, .int .i64 9] 3))
          have HB6 := hide (HB5.out.trans (Bel.of (b := b) ((Below.refl w.heap.size u5).alloc HB5.out.size (.cells #[.int .i64 4, .int .i64 4, .int .i64 4, .int .i64 1, .int .i64 9] 3))))
          have hgb : u5.heap.size ≠ b := by omega
          clear O6
          generalize u5.alloc (.cells #[.int .i64 4, .int .i64 4, .int .i64 4, .int .i64 1, .int .i64 9] 3) = u6 at *
          have hr : -1 ≤ ([4, 4, 4, 1, 9] : List Int)[q]'hq ∧ ([4, 4, 4, 1, 9] : List Int)[q]'hq ≤ 200 := by
            have : ∀ q : Fin 5, -1 ≤ ([4, 4, 4, 1, 9] : List Int)[q] ∧ ([4, 4, 4, 1, 9] : List Int)[q] ≤ 200 := by decide
            exact this ⟨q, hq⟩
          generalize ([4, 4, 4, 1, 9] : List Int)[q]'hq = rv at *
          refine raiseD (B' := u6.heap.size) hraise _ _ _ _ ?_
          refine takeDX 3 rfl (by kernel_rfl) (fun _ _ _ h => h) (by rfl) (by intro w'; have hqb : (q : Int) < 5 := hqi; go_simp; try with_reducible rfl) ?_
          refine takeD 4 [4, 7, 8] rfl (by kernel_rfl) (fun _ _ _ h => h) (by rfl) (by intro w' hg; have g0 := (hg.cell (p := ⟨u5.heap.size, q, none⟩) (by show u5.heap.size < _; exact hgl) (by show u5.heap.size ≠ b; omega)).trans c1; go_simp; try with_reducible rfl) ?_
          refine onlyD 6 rfl (by kernel_rfl) (by rfl) ?_
          intro K hK
          go_simp
          refine (next_dice C b 3 _ HD6.out (by omega) (by omega)).mono ?_
          rintro e u7 ⟨y, rfl, hy, hD, hB⟩
          have HD7 := hide hD
          have HB7 := hide (HB6.out.trans (hB.mono HB6.out.size))
          refine hK _ _ (fun _ => hB) ?_
          clear hK K hD hB
          refine takeDX 7 rfl (by kernel_rfl) (fun _ _ _ h => h) (by rfl) (by intro w'; go_simp; try with_reducible rfl) ?_
          refine takeDX 8 rfl (by kernel_rfl) (fun _ _ _ h => h) (by rfl) (by intro w'; go_simp; try with_reducible rfl) ?_
          refine doneD (by kernel_rfl) ?_
          go_simp
          go_wp2_with fail
          go_meet
          case rel => exact ⟨_, _, rfl, rfl, hr, by omega, HD7, HB7⟩
        · intro K hK
          go_simp
          refine (next_dice C b 3 _ HD5.out (by omega) (by omega)).mono ?_
          rintro e u7 ⟨y, rfl, hy, hD, hB⟩
          have HD6 := hide hD
          have HB6 := hide (HB5.out.trans (hB.mono HB5.out.size))
          have hs7 := Nat.le_trans hs5 hB.size
          refine hK _ _ (fun _ => hB.mono hs5) ?_
          clear hK K hD hB
          refine onlyD 0 rfl (by kernel_rfl) (by rfl) ?_
          intro K hK
          go_simp
          refine hK _ _ (fun _ => Bel.of ((Below.refl _ _).alloc hs7 _)) ?_
          clear hK K
          have O6 : Obl (u7.alloc (.cells #[.int .i64 4, .int .i64 4, .int .i64 4, .int .i64 1, .int .i64 9] 3)) u7.heap.size 3 (nv .i64 [4, 4, 4, 1, 9]).toArray := Obl.make u7 3 (nv .i64 [4, 4, 4, 1, 9]).toArray
          have c1 := O6.num (k := q) hq
          have hgl := O6.lt
          have hraise : u0.heap.size ≤ (u7.alloc (.cells #[.int .i64 4, .int .i64 4, .int .i64 4, .int .i64 1, .int .i64 9] 3)).heap.size := Nat.le_trans hs7 (by simp)
          have HD7 := hide (HD6.out.alloc (.cells #[.int .i64 4, .int .i64 4, .int .i64 4, .int .i64 1, .int .i64 9] 3))
          have HB7 := hide (HB6.out.trans (Bel.of (b := b) ((Below.refl w.heap.size u7).alloc HB6.out.size (.cells #[.int .i64 4, .int .i64 4, .int .i64 4, .int .i64 1, .int .i64 9] 3))))
          have hgb : u7.heap.size ≠ b := by omega
          clear O6
          generalize u7.alloc (.cells #[.int .i64 4, .int .i64 4, .int .i64 4, .int .i64 1, .int .i64 9] 3) = u8 at *
          have hr : -1 ≤ ([4, 4, 4, 1, 9] : List Int)[q]'hq ∧ ([4, 4, 4, 1, 9] : List Int)[q]'hq ≤ 200 := by
            have : ∀ q : Fin 5, -1 ≤ ([4, 4, 4, 1, 9] : List Int)[q] ∧ ([4, 4, 4, 1, 9] : List Int)[q] ≤ 200 := by decide
            exact this ⟨q, hq⟩
          generalize ([4, 4, 4, 1, 9] : List Int)[q]'hq = rv at *
          refine raiseD (B' := u8.heap.size) hraise _ _ _ _ ?_
          refine takeDX 3 rfl (by kernel_rfl) (fun _ _ _ h => h) (by rfl) (by intro w'; have hqb : (q : Int) < 5 := hqi; go_simp; try with_reducible rfl) ?_
          refine takeD 4 [4, 7, 8] rfl (by kernel_rfl) (fun _ _ _ h => h) (by rfl) (by intro w' hg; have g0 := (hg.cell (p := ⟨u7.heap.size, q, none⟩) (by show u7.heap.size < _; exact hgl) (by show u7.heap.size ≠ b; omega)).trans c1; go_simp; try with_reducible rfl) ?_
          refine takeDX 7 rfl (by kernel_rfl) (fun _ _ _ h => h) (by rfl) (by intro w'; go_simp; try with_reducible rfl) ?_
          refine takeDX 8 rfl (by kernel_rfl) (fun _ _ _ h => h) (by rfl) (by intro w'; go_simp; try with_reducible rfl) ?_
          refine doneD (by kernel_rfl) ?_
          go_simp
          go_wp2_with fail
          go_meet
          case rel => exact ⟨_, _, rfl, rfl, hr, by omega, HD7, HB7⟩
    by_cases n17 : nr = 17
    · subst n17
      have OT : Obl (w3.alloc (.cells #[.int .i64 2, .int .i64 2, .int .i64 1, .int .i64 6] 3)) w3.heap.size 3 (nv .i64 [2, 2, 1, 6]).toArray := Obl.make w3 3 (nv .i64 [2, 2, 1, 6]).toArray
      have HDa := hide (HD3.out.alloc (.cells #[.int .i64 2, .int .i64 2, .int .i64 1, .int .i64 6] 3))
      have HBa := hide (HB3.out.trans (Bel.of (b := b) ((Below.refl w.heap.size w3).alloc HB3.out.size (.cells #[.int .i64 2, .int .i64 2, .int .i64 1, .int .i64 6] 3))))
      have hbk := HD3.out.lt
      go_wp2_with fail
      refine (next_dice C b 4 _ HDa.out (by omega) (by omega)).mono ?_
      rintro e w4 ⟨x, rfl, hx, hD, hB⟩
      obtain ⟨q, rfl⟩ := Int.eq_ofNat_of_zero_le hx.1
      have hq : q < 4 := by omega
      have hqi : (q : Int) < 4 := by omega
      have c1 := (hB.obl' OT (by omega)).num (k := q) hq
      have hr : -1 ≤ ([2, 2, 1, 6] : List Int)[q]'hq ∧ ([2, 2, 1, 6] : List Int)[q]'hq ≤ 200 := by
        have : ∀ q : Fin 4, -1 ≤ ([2, 2, 1, 6] : List Int)[q] ∧ ([2, 2, 1, 6] : List Int)[q] ≤ 200 := by decide
        exact this ⟨q, hq⟩
      have HD4 := hide hD
      have HB4 := hide (HBa.out.trans (hB.mono HBa.out.size))
      generalize ([2, 2, 1, 6] : List Int)[q]'hq = rv at *
      clear hD hB
      go_wp2_with fail
      go_meet
      case rel => exact ⟨rv, b0, rfl, rfl, hr, by omega, HD4, HB4⟩
    by_cases n23 : nr = 23
    · subst n23
      go_wp2_with fail
      refine region_D (by kernel_rfl) w3.drew.heap.size b [] ?_
      have HD4 : Hid (Dice w3.drew C b) := HD3
      have HB4 : Hid (Bel w.heap.size b w w3.drew) := hide ⟨HB3.out.os, HB3.out.tape, HB3.out.output, HB3.out.size, HB3.out.block⟩
      have hbk : b < w3.drew.heap.size := HD4.out.lt
      generalize w3.drew = u0 at *
      refine takeDX 1 rfl (by kernel_rfl) (fun _ _ _ h => h) (by rfl) (by intro w'; go_simp; try with_reducible rfl) ?_
      refine takeDX 5 rfl (by kernel_rfl) (fun _ _ _ h => h) (by rfl) (by intro w'; go_simp; try with_reducible rfl) ?_
      refine twoD 0 2 rfl rfl (by kernel_rfl) (by rfl) (by rfl) ?_ ?_
      · intro K hK
        go_simp
        refine hK _ _ (fun _ => Bel.of ((Below.refl _ _).alloc (Nat.le_refl _) _)) ?_
        clear hK K
        have OT : Obl (u0.alloc (.cells #[.int .i64 3, .int .i64 3, .int .i64 1, .int .i64 6] 3)) u0.heap.size 3 (nv .i64 [3, 3, 1, 6]).toArray := Obl.make u0 3 (nv .i64 [3, 3, 1, 6]).toArray
        have HD5 := hide (HD4.out.alloc (.cells #[.int .i64 3, .int .i64 3, .int .i64 1, .int .i64 6] 3))
        have HB5 := hide (HB4.out.trans (Bel.of (b := b) ((Below.refl w.heap.size u0).alloc HB4.out.size (.cells #[.int .i64 3, .int .i64 3, .int .i64 1, .int .i64 6] 3))))
        have hs5 : u0.heap.size ≤ (u0.alloc (.cells #[.int .i64 3, .int .i64 3, .int .i64 1, .int .i64 6] 3)).heap.size := by simp
        have hgb : u0.heap.size ≠ b := by omega
        generalize u0.alloc (.cells #[.int .i64 3, .int .i64 3, .int .i64 1, .int .i64 6] 3) = u5 at *
        refine onlyD 2 rfl (by kernel_rfl) (by rfl) ?_
        intro K hK
        go_simp
        refine (next_dice C b 4 _ HD5.out (by omega) (by omega)).mono ?_
        rintro e u6 ⟨x, rfl, hx, hD, hB⟩
        obtain ⟨q, rfl⟩ := Int.eq_ofNat_of_zero_le hx.1
        have hq : q < 4 := by omega
        have hqi : (q : Int) < 4 := by omega
        have O6 := hB.obl' OT hgb
        have c1 := O6.num (k := q) hq
        have hgl := O6.lt
        have hraise : u0.heap.size ≤ u6.heap.size := Nat.le_trans hs5 hB.size
        have HD6 := hide hD
        have HB6 := hide (HB5.out.trans (hB.mono HB5.out.size))
        refine hK _ _ (fun _ => hB.mono hs5) ?_
        clear hK K hD hB O6 OT
        have hr : -1 ≤ ([3, 3, 1, 6] : List Int)[q]'hq ∧ ([3, 3, 1, 6] : List Int)[q]'hq ≤ 200 := by
          have : ∀ q : Fin 4, -1 ≤ ([3, 3, 1, 6] : List Int)[q] ∧ ([3, 3, 1, 6] : List Int)[q] ≤ 200 := by decide
          exact this ⟨q, hq⟩
        generalize ([3, 3, 1, 6] : List Int)[q]'hq = rv at *
        refine raiseD (B' := u6.heap.size) hraise _ _ _ _ ?_
        refine takeDX 3 rfl (by kernel_rfl) (fun _ _ _ h => h) (by rfl) (by intro w'; have hqb : (q : Int) < 4 := hqi; go_simp; try with_reducible rfl) ?_
        refine takeD 4 [4, 7, 8] rfl (by kernel_rfl) (fun _ _ _ h => h) (by rfl) (by intro w' hg; have g0 := (hg.cell (p := ⟨u0.heap.size, q, none⟩) (by show u0.heap.size < _; exact hgl) (by show u0.heap.size ≠ b; omega)).trans c1; go_simp; try with_reducible rfl) ?_
        refine onlyD 6 rfl (by kernel_rfl) (by rfl) ?_
        intro K hK
        go_simp
        refine (next_dice C b 3 _ HD6.out (by omega) (by omega)).mono ?_
        rintro e u7 ⟨y, rfl, hy, hD, hB⟩
        have HD7 := hide hD
        have HB7 := hide (HB6.out.trans (hB.mono HB6.out.size))
        refine hK _ _ (fun _ => hB) ?_
        clear hK K hD hB
        refine takeDX 7 rfl (by kernel_rfl) (fun _ _ _ h => h) (by rfl) (by intro w'; go_simp; try with_reducible rfl) ?_
        refine takeDX 8 rfl (by kernel_rfl) (fun _ _ _ h => h) (by rfl) (by intro w'; go_simp; try with_reducible rfl) ?_
        refine doneD (by kernel_rfl) ?_
        go_simp
        go_wp2_with fail
        go_meet
        case rel => exact ⟨_, _, rfl, rfl, hr, by omega, HD7, HB7⟩
      · intro K hK
        go_simp
        refine (next_dice C b 4 _ HD4.out (by omega) (by omega)).mono ?_
        rintro e u5 ⟨x, rfl, hx, hD, hB⟩
        obtain ⟨q, rfl⟩ := Int.eq_ofNat_of_zero_le hx.1
        have hq : q < 4 := by omega
        have hqi : (q : Int) < 4 := by omega
        have HD5 := hide hD
        have HB5 := hide (HB4.out.trans (hB.mono HB4.out.size))
        have hs5 := hB.size
        refine hK _ _ (fun _ => hB) ?_
        clear hK K hD hB
        refine twoD 0 6 rfl rfl (by kernel_rfl) (by rfl) (by rfl) ?_ ?_
        · intro K hK
          go_simp
          refine hK _ _ (fun _ => Bel.of ((Below.refl _ _).alloc hs5 _)) ?_
          clear hK K
          have O6 : Obl (u5.alloc (.cells #[.int .i64 3, .int .i64 3, .int .i64 1, .int .i64 6] 3)) u5.heap.size 3 (nv .i64 [3, 3, 1, 6]).toArray := Obl.make u5 3 (nv .i64 [3, 3, 1, 6]).toArray
          have c1 := O6.num (k := q) hq
          have hgl := O6.lt
          have hraise : u0.heap.size ≤ (u5.alloc (.cells #[.int .i64 3, .int .i64 3, .int .i64 1, .int .i64 6] 3)).heap.size := Nat.le_trans hs5 (by simp)
          have HD6 := hide (HD5.out.alloc (.cells #[.int .i64 3, .int .i64 3, .int .i64 1, .int .i64 6] 3))
          have HB6 := hide (HB5.out.trans (Bel.of (b := b) ((Below.refl w.heap.size u5).alloc HB5.out.size (.cells #[.int .i64 3, .int .i64 3, .int .i64 1, .int .i64 6] 3))))
          have hgb : u5.heap.size ≠ b := by omega
          clear O6
          generalize u5.alloc (.cells #[.int .i64 3, .int .i64 3, .int .i64 1, .int .i64 6] 3) = u6 at *
          have hr : -1 ≤ ([3, 3, 1, 6] : List Int)[q]'hq ∧ ([3, 3, 1, 6] : List Int)[q]'hq ≤ 200 := by
            have : ∀ q : Fin 4, -1 ≤ ([3, 3, 1, 6] : List Int)[q] ∧ ([3, 3, 1, 6] : List Int)[q] ≤ 200 := by decide
            exact this ⟨q, hq⟩
          generalize ([3, 3, 1, 6] : List Int)[q]'hq = rv at *
          refine raiseD (B' := u6.heap.size) hraise _ _ _ _ ?_
          refine takeDX 3 rfl (by kernel_rfl) (fun _ _ _ h => h) (by rfl) (by intro w'; have hqb : (q : Int) < 4 := hqi; go_simp; try with_reducible rfl) ?_
          refine takeD 4 [4, 7, 8] rfl (by kernel_rfl) (fun _ _ _ h => h) (by rfl) (by intro w' hg; have g0 := (hg.cell (p := ⟨u5.heap.size, q, none⟩) (by show u5.heap.size < _; exact hgl) (by show u5.heap.size ≠ b; omega)).trans c1; go_simp; try with_reducible rfl) ?_
          refine onlyD 6 rfl (by kernel_rfl) (by rfl) ?_
          intro K hK
          go_simp
          refine (next_dice C b 3 _ HD6.out (by omega) (by omega)).mono ?_
          rintro e u7 ⟨y, rfl, hy, hD, hB⟩
          have HD7 := hide hD
          have HB7 := hide (HB6.out.trans (hB.mono HB6.out.size))
          refine hK _ _ (fun _ => hB) ?_
          clear hK K hD hB
          refine takeDX 7 rfl (by kernel_rfl) (fun _ _ _ h => h) (by rfl) (by intro w'; go_simp; try with_reducible rfl) ?_
          refine takeDX 8 rfl (by kernel_rfl) (fun _ _ _ h => h) (by rfl) (by intro w'; go_simp; try with_reducible rfl) ?_
          refine doneD (by kernel_rfl) ?_
          go_simp
          go_wp2_with fail
          go_meet
          case rel => exact ⟨_, _, rfl, rfl, hr, by omega, HD7, HB7⟩
        · intro K hK
          go_simp
          refine (next_dice C b 3 _ HD5.out (by omega) (by omega)).mono ?_
          rintro e u7 ⟨y, rfl, hy, hD, hB⟩
          have HD6 := hide hD
          have HB6 := hide (HB5.out.trans (hB.mono HB5.out.size))
          have hs7 := Nat.le_trans hs5 hB.size
          refine hK _ _ (fun _ => hB.mono hs5) ?_
          clear hK K hD hB
          refine onlyD 0 rfl (by kernel_rfl) (by rfl) ?_
          intro K hK
          go_simp
          refine hK _ _ (fun _ => Bel.of ((Below.refl _ _).alloc hs7 _)) ?_
          clear hK K
          have O6 : Obl (u7.alloc (.cells #[.int .i64 3, .int .i64 3, .int .i64 1, .int .i64 6] 3)) u7.heap.size 3 (nv .i64 [3, 3, 1, 6]).toArray := Obl.make u7 3 (nv .i64 [3, 3, 1, 6]).toArray
          have c1 := O6.num (k := q) hq
          have hgl := O6.lt
          have hraise : u0.heap.size ≤ (u7.alloc (.cells #[.int .i64 3, .int .i64 3, .int .i64 1, .int .i64 6] 3)).heap.size := Nat.le_trans hs7 (by simp)
          have HD7 := hide (HD6.out.alloc (.cells #[.int .i64 3, .int .i64 3, .int .i64 1, .int .i64 6] 3))
          have HB7 := hide (HB6.out.trans (Bel.of (b := b) ((Below.refl w.heap.size u7).alloc HB6.out.size (.cells #[.int .i64 3, .int .i64 3, .int .i64 1, .int .i64 6] 3))))
          have hgb : u7.heap.size ≠ b := by omega
          clear O6
          generalize u7.alloc (.cells #[.int .i64 3, .int .i64 3, .int .i64 1, .int .i64 6] 3) = u8 at *
          have hr : -1 ≤ ([3, 3, 1, 6] : List Int)[q]'hq ∧ ([3, 3, 1, 6] : List Int)[q]'hq ≤ 200 := by
            have : ∀ q : Fin 4, -1 ≤ ([3, 3, 1, 6] : List Int)[q] ∧ ([3, 3, 1, 6] : List Int)[q] ≤ 200 := by decide
            exact this ⟨q, hq⟩
          generalize ([3, 3, 1, 6] : List Int)[q]'hq = rv at *
          refine raiseD (B' := u8.heap.size) hraise _ _ _ _ ?_
          refine takeDX 3 rfl (by kernel_rfl) (fun _ _ _ h => h) (by rfl) (by intro w'; have hqb : (q : Int) < 4 := hqi; go_simp; try with_reducible rfl) ?_
          refine takeD 4 [4, 7, 8] rfl (by kernel_rfl) (fun _ _ _ h => h) (by rfl) (by intro w' hg; have g0 := (hg.cell (p := ⟨u7.heap.size, q, none⟩) (by show u7.heap.size < _; exact hgl) (by show u7.heap.size ≠ b; omega)).trans c1; go_simp; try with_reducible rfl) ?_
          refine takeDX 7 rfl (by kernel_rfl) (fun _ _ _ h => h) (by rfl) (by intro w'; go_simp; try with_reducible rfl) ?_
          refine takeDX 8 rfl (by kernel_rfl) (fun _ _ _ h => h) (by rfl) (by intro w'; go_simp; try with_reducible rfl) ?_
          refine doneD (by kernel_rfl) ?_
          go_simp
          go_wp2_with fail
          go_meet
          case rel => exact ⟨_, _, rfl, rfl, hr, by omega, HD7, HB7⟩
    by_cases n24 : nr = 24
    · subst n24
      go_wp2_with fail
      refine (next_dice C b 8 _ HD3.out (by omega) (by omega)).mono ?_
      rintro e w4 ⟨x, rfl, hx, hD, hB⟩
      have HD4 := hide hD
      have HB4 := hide (HB3.out.then hB)
      clear hD hB
      go_wp2_with fail
      refine (next_dice C b 9 _ HD4.out (by omega) (by omega)).mono ?_
      rintro e w5 ⟨y, rfl, hy, hD, hB⟩
      have HD5 := hide hD
      have HB5 := hide (HB4.out.then hB)
      clear hD hB
      go_wp2_with fail
      go_meet
      case rel => exact ⟨x, y, rfl, rfl, by omega, by omega, HD5, HB5⟩
    by_cases n5 : nr = 5
    · subst n5
      have OT : Obl (w3.alloc (.cells #[.int .i64 9, .int .i64 14, .int .i64 3, .int .i64 40, .int .i64 0] 3)) w3.heap.size 3 (nv .i64 [9, 14, 3, 40, 0]).toArray := Obl.make w3 3 (nv .i64 [9, 14, 3, 40, 0]).toArray
      have HDa := hide (HD3.out.alloc (.cells #[.int .i64 9, .int .i64 14, .int .i64 3, .int .i64 40, .int .i64 0] 3))
      have HBa := hide (HB3.out.trans (Bel.of (b := b) ((Below.refl w.heap.size w3).alloc HB3.out.size (.cells #[.int .i64 9, .int .i64 14, .int .i64 3, .int .i64 40, .int .i64 0] 3))))
      have hbk := HD3.out.lt
      go_wp2_with fail
      refine (next_dice C b 5 _ HDa.out (by omega) (by omega)).mono ?_
      rintro e w4 ⟨x, rfl, hx, hD, hB⟩
      obtain ⟨q, rfl⟩ := Int.eq_ofNat_of_zero_le hx.1
      have hq : q < 5 := by omega
      have hqi : (q : Int) < 5 := by omega
      have c1 := (hB.obl' OT (by omega)).num (k := q) hq
      have hr : -1 ≤ ([9, 14, 3, 40, 0] : List Int)[q]'hq ∧ ([9, 14, 3, 40, 0] : List Int)[q]'hq ≤ 200 := by
        have : ∀ q : Fin 5, -1 ≤ ([9, 14, 3, 40, 0] : List Int)[q] ∧ ([9, 14, 3, 40, 0] : List Int)[q] ≤ 200 := by decide
        exact this ⟨q, hq⟩
      have HD4 := hide hD
      have HB4 := hide (HBa.out.trans (hB.mono HBa.out.size))
      generalize ([9, 14, 3, 40, 0] : List Int)[q]'hq = rv at *
      clear hD hB
      go_wp2_with fail
      go_meet
      case rel => exact ⟨a0, rv, rfl, rfl, by omega, hr, HD4, HB4⟩
    by_cases n21 : nr = 21
    · subst n21
      go_wp2_with fail
      refine (word_dice C b _ HD3.out).mono ?_
      rintro e w4 ⟨x, rfl, hx, hD, hB⟩
      have HD4 := hide hD
      have HB4 := hide (HB3.out.then hB)
      clear hD hB
      go_wp2_with fail
      go_meet
      case rel => exact ⟨a0, x, rfl, rfl, by omega, hx, HD4, HB4⟩
    by_cases n20 : nr = 20
    · subst n20
      go_wp2_with fail
      refine (word_dice C b _ HD3.out).mono ?_
      rintro e w4 ⟨x, rfl, hx, hD, hB⟩
      have HD4 := hide hD
      have HB4 := hide (HB3.out.then hB)
      clear hD hB
      go_wp2_with fail
      go_meet
      case rel => exact ⟨a0, x, rfl, rfl, by omega, hx, HD4, HB4⟩
    go_wp2_with fail
    go_meet
    case rel => exact ⟨a0, b0, rfl, rfl, by omega, by omega, HD3, HB3⟩
  case rest =>
    obtain ⟨va, vb, rfl, rfl, hva, hvb, HD, HB⟩ := hcut
    have hsz := HB.out.size
    have hown0 := own_four wc w.heap.size ⟨1, 1, va, 0⟩ 31 HB.out.size
    have HDx := hide (HD.out.alloc (.cells #[.int .i64 1, .int .i64 1, .int .i64 va, .int .i64 0] 31))
    have HBx := hide (HB.out.trans (Bel.of (b := b) ((Below.refl w.heap.size wc).alloc HB.out.size (.cells #[.int .i64 1, .int .i64 1, .int .i64 va, .int .i64 0] 31))))
    by_cases n5 : nr = 5
    · subst n5
      have OT : Obl ((wc.alloc (.cells #[.int .i64 1, .int .i64 1, .int .i64 va, .int .i64 0] 31)).alloc (.cells #[.int .i64 0, .int .i64 5, .int .i64 6] 3)) (wc.alloc (.cells #[.int .i64 1, .int .i64 1, .int .i64 va, .int .i64 0] 31)).heap.size 3 (nv .i64 [0, 5, 6]).toArray := Obl.make (wc.alloc (.cells #[.int .i64 1, .int .i64 1, .int .i64 va, .int .i64 0] 31)) 3 (nv .i64 [0, 5, 6]).toArray
      rw [show (wc.alloc (.cells #[.int .i64 1, .int .i64 1, .int .i64 va, .int .i64 0] 31)).heap.size = wc.heap.size + 1 by simp] at OT
      have HDa := hide (HDx.out.alloc (.cells #[.int .i64 0, .int .i64 5, .int .i64 6] 3))
      have HBa := hide (HBx.out.trans (Bel.of (b := b) ((Below.refl w.heap.size _).alloc HBx.out.size (.cells #[.int .i64 0, .int .i64 5, .int .i64 6] 3))))
      go_wp2_with fail
      refine (next_dice C b 3 _ HDa.out (by omega) (by omega)).mono ?_
      rintro e w4 ⟨x, rfl, hx, hD, hB⟩
      obtain ⟨q, rfl⟩ := Int.eq_ofNat_of_zero_le hx.1
      have hq : q < 3 := by omega
      have hqi : (q : Int) < 3 := by omega
      have c1 := (hB.obl' OT (by omega)).num (k := q) hq
      have hr : 0 ≤ ([0, 5, 6] : List Int)[q]'hq ∧ ([0, 5, 6] : List Int)[q]'hq ≤ 7 := by
        have : ∀ q : Fin 3, 0 ≤ ([0, 5, 6] : List Int)[q] ∧ ([0, 5, 6] : List Int)[q] ≤ 7 := by decide
        exact this ⟨q, hq⟩
      have HD4 := hide hD
      have HB4 := hide (HBa.out.trans (hB.mono HBa.out.size))
      generalize ([0, 5, 6] : List Int)[q]'hq = rv at *
      have hs4 := HB4.out.size
      clear hD hB OT HDa HBa HDx HBx hown0
      have hown0 := own_four w4 w.heap.size ⟨2, 1, rv, 0⟩ 31 HB4.out.size
      have HDx := hide (HD4.out.alloc (.cells #[.int .i64 2, .int .i64 1, .int .i64 rv, .int .i64 0] 31))
      have HBx := hide (HB4.out.trans (Bel.of (b := b) ((Below.refl w.heap.size w4).alloc HB4.out.size (.cells #[.int .i64 2, .int .i64 1, .int .i64 rv, .int .i64 0] 31))))
      have hown1 := hown0.alloc (.cells #[.int .i64 1, .int .i64 2, .int .i64 vb, .int .i64 0, .int .i64 12, .int .i64 5, .int .i64 0, .int .i64 0] 31)
      have HDy := hide (HDx.out.alloc (.cells #[.int .i64 1, .int .i64 2, .int .i64 vb, .int .i64 0, .int .i64 12, .int .i64 5, .int .i64 0, .int .i64 0] 31))
      have HBy := hide (HBx.out.trans (Bel.of (b := b) ((Below.refl w.heap.size (w4.alloc (.cells #[.int .i64 2, .int .i64 1, .int .i64 rv, .int .i64 0] 31))).alloc HBx.out.size (.cells #[.int .i64 1, .int .i64 2, .int .i64 vb, .int .i64 0, .int .i64 12, .int .i64 5, .int .i64 0, .int .i64 0] 31))))
      have hgb : b ≠ w4.heap.size := by omega
      have hCg : C ≤ w4.heap.size := by omega
      have hRow : Row ((w4.alloc (.cells #[.int .i64 2, .int .i64 1, .int .i64 rv, .int .i64 0] 31)).alloc (.cells #[.int .i64 1, .int .i64 2, .int .i64 vb, .int .i64 0, .int .i64 12, .int .i64 5, .int .i64 0, .int .i64 0] 31)) (w4.heap.size + 2) 4 (some ⟨w4.heap.size + 1, 0, none⟩) 2 [.int .i64 1, .int .i64 2, .int .i64 vb, .int .i64 0, .int .i64 12, .int .i64 5, .int .i64 0, .int .i64 0] := by simpa using Row.eight (w4.alloc (.cells #[.int .i64 2, .int .i64 1, .int .i64 rv, .int .i64 0] 31)) ⟨1, 2, vb, 0⟩ ⟨12, 5, 0, 0⟩ 31
      go_wp2_with (at_builtin; refine wpList_append_rd rfl (.tmp 78) (.tmp 83) _ rfl insTy rfl hown1 rfl hRow (by simp [Value.oneCell']) (by unfold maxLen; omega) (by omega) HBy.out.size ?_; intro A3 c3 w5 hown3 hgrow3 hat3)
      replace hown3 : w5.ownsRow w.heap.size 31 4 (.slice A3 3 c3) 3 (iv [⟨2, 1, rv, 0⟩, ⟨1, 2, vb, 0⟩, ⟨12, 5, 0, 0⟩]) := hown3
      have HD5 := hide (HDy.out.grown hgrow3 (fun e => by have := (hown1.lt b (by rw [ownBlock_slice]; exact e.symm)).1; omega) (fun k hk => by have := (hown1.lt k (by rw [ownBlock_slice]; exact hk)).1; omega))
      have HB5 := hide (HBy.out.trans (Bel.of (b := b) (below_own (Below.refl _ _) hown1 hgrow3 HBy.out.size)))
      have HO5 := hide hown3
      clear HDy HBy hown1 hgrow3 hat3 hown3
      · skip
        go_ret
        exact ⟨A3, 3, c3, _, rfl, HO5.out, by
          intro x hx
          simp only [List.mem_cons, List.not_mem_nil, or_false] at hx
          rcases hx with rfl | rfl | rfl
          · exact made_move 0 (by omega) hr
          · exact made_set 0 (by omega) hvb
          · exact made_call 0 hnum, by omega, HD5.out, HB5.out⟩
    by_cases n3 : nr = 3
    · subst n3
      have hown1 := hown0.alloc (.cells #[.int .i64 1, .int .i64 2, .int .i64 vb, .int .i64 0, .int .i64 12, .int .i64 3, .int .i64 0, .int .i64 0] 31)
      have HDy := hide (HDx.out.alloc (.cells #[.int .i64 1, .int .i64 2, .int .i64 vb, .int .i64 0, .int .i64 12, .int .i64 3, .int .i64 0, .int .i64 0] 31))
      have HBy := hide (HBx.out.trans (Bel.of (b := b) ((Below.refl w.heap.size (wc.alloc (.cells #[.int .i64 1, .int .i64 1, .int .i64 va, .int .i64 0] 31))).alloc HBx.out.size (.cells #[.int .i64 1, .int .i64 2, .int .i64 vb, .int .i64 0, .int .i64 12, .int .i64 3, .int .i64 0, .int .i64 0] 31))))
      have hgb : b ≠ wc.heap.size := by omega
      have hCg : C ≤ wc.heap.size := by omega
      have hRow : Row ((wc.alloc (.cells #[.int .i64 1, .int .i64 1, .int .i64 va, .int .i64 0] 31)).alloc (.cells #[.int .i64 1, .int .i64 2, .int .i64 vb, .int .i64 0, .int .i64 12, .int .i64 3, .int .i64 0, .int .i64 0] 31)) (wc.heap.size + 2) 4 (some ⟨wc.heap.size + 1, 0, none⟩) 2 [.int .i64 1, .int .i64 2, .int .i64 vb, .int .i64 0, .int .i64 12, .int .i64 3, .int .i64 0, .int .i64 0] := by simpa using Row.eight (wc.alloc (.cells #[.int .i64 1, .int .i64 1, .int .i64 va, .int .i64 0] 31)) ⟨1, 2, vb, 0⟩ ⟨12, 3, 0, 0⟩ 31
      go_wp2_with (at_builtin; refine wpList_append_rd rfl (.tmp 78) (.tmp 83) _ rfl insTy rfl hown1 rfl hRow (by simp [Value.oneCell']) (by unfold maxLen; omega) (by omega) HBy.out.size ?_; intro A3 c3 w5 hown3 hgrow3 hat3)
      replace hown3 : w5.ownsRow w.heap.size 31 4 (.slice A3 3 c3) 3 (iv [⟨1, 1, va, 0⟩, ⟨1, 2, vb, 0⟩, ⟨12, 3, 0, 0⟩]) := hown3
      have HD5 := hide (HDy.out.grown hgrow3 (fun e => by have := (hown1.lt b (by rw [ownBlock_slice]; exact e.symm)).1; omega) (fun k hk => by have := (hown1.lt k (by rw [ownBlock_slice]; exact hk)).1; omega))
      have HB5 := hide (HBy.out.trans (Bel.of (b := b) (below_own (Below.refl _ _) hown1 hgrow3 HBy.out.size)))
      have HO5 := hide hown3
      clear HDy HBy hown1 hgrow3 hat3 hown3
      refine (next_dice C b 2 _ HD5.out (by omega) (by omega)).mono ?_
      rintro e w6 ⟨y, rfl, hy, hD, hB⟩
      have hown6 := own_bel HO5.out hB hlt
      have HD6 := hide hD
      have HB6 := hide (HB5.out.trans (hB.mono HB5.out.size))
      clear hD hB
      have hown7 := hown6.alloc (.cells #[.int .i64 2, .int .i64 (5 + y), .int .i64 0, .int .i64 0] 31)
      have HD7 := hide (HD6.out.alloc (.cells #[.int .i64 2, .int .i64 (5 + y), .int .i64 0, .int .i64 0] 31))
      have HB7 := hide (HB6.out.trans (Bel.of (b := b) ((Below.refl w.heap.size w6).alloc HB6.out.size (.cells #[.int .i64 2, .int .i64 (5 + y), .int .i64 0, .int .i64 0] 31))))
      go_wp2_with (at_builtin; refine wpList_append_rd rfl (.tmp 91) (.tmp 96) _ rfl insTy rfl hown7 rfl (Row.four w6 ⟨2, 5 + y, 0, 0⟩ _) (by simp [Value.oneCell']) (by unfold maxLen; omega) (by omega) HB7.out.size ?_; intro A4 c4 w8 hown8 hgrow8 hat8)
      replace hown8 : w8.ownsRow w.heap.size 31 4 (.slice A4 4 c4) 4 (iv [⟨1, 1, va, 0⟩, ⟨1, 2, vb, 0⟩, ⟨12, 3, 0, 0⟩, ⟨2, 5 + y, 0, 0⟩]) := hown8
      have HD8 := hide (HD7.out.grown hgrow8 (fun e => by have := (hown7.lt b (by rw [ownBlock_slice]; exact e.symm)).1; omega) (fun k hk => by have := (hown7.lt k (by rw [ownBlock_slice]; exact hk)).1; omega))
      have HB8 := hide (HB7.out.trans (Bel.of (b := b) (below_own (Below.refl _ _) hown7 hgrow8 HB7.out.size)))
      have HO8 := hide hown8
      clear HD7 HB7 hown7 hgrow8 hat8 hown8
      · skip
        go_ret
        exact ⟨A4, 4, c4, _, rfl, HO8.out, by
          intro x hx
          simp only [List.mem_cons, List.not_mem_nil, or_false] at hx
          rcases hx with rfl | rfl | rfl | rfl
          · exact made_set 0 (by omega) hva
          · exact made_set 0 (by omega) hvb
          · exact made_call 0 hnum
          · exact made_move 0 (by omega) (by omega), by omega, HD8.out, HB8.out⟩
    by_cases n2 : nr = 2
    · subst n2
      have hown1 := hown0.alloc (.cells #[.int .i64 1, .int .i64 2, .int .i64 vb, .int .i64 0, .int .i64 12, .int .i64 2, .int .i64 0, .int .i64 0] 31)
      have HDy := hide (HDx.out.alloc (.cells #[.int .i64 1, .int .i64 2, .int .i64 vb, .int .i64 0, .int .i64 12, .int .i64 2, .int .i64 0, .int .i64 0] 31))
      have HBy := hide (HBx.out.trans (Bel.of (b := b) ((Below.refl w.heap.size (wc.alloc (.cells #[.int .i64 1, .int .i64 1, .int .i64 va, .int .i64 0] 31))).alloc HBx.out.size (.cells #[.int .i64 1, .int .i64 2, .int .i64 vb, .int .i64 0, .int .i64 12, .int .i64 2, .int .i64 0, .int .i64 0] 31))))
      have hgb : b ≠ wc.heap.size := by omega
      have hCg : C ≤ wc.heap.size := by omega
      have hRow : Row ((wc.alloc (.cells #[.int .i64 1, .int .i64 1, .int .i64 va, .int .i64 0] 31)).alloc (.cells #[.int .i64 1, .int .i64 2, .int .i64 vb, .int .i64 0, .int .i64 12, .int .i64 2, .int .i64 0, .int .i64 0] 31)) (wc.heap.size + 2) 4 (some ⟨wc.heap.size + 1, 0, none⟩) 2 [.int .i64 1, .int .i64 2, .int .i64 vb, .int .i64 0, .int .i64 12, .int .i64 2, .int .i64 0, .int .i64 0] := by simpa using Row.eight (wc.alloc (.cells #[.int .i64 1, .int .i64 1, .int .i64 va, .int .i64 0] 31)) ⟨1, 2, vb, 0⟩ ⟨12, 2, 0, 0⟩ 31
      go_wp2_with (at_builtin; refine wpList_append_rd rfl (.tmp 78) (.tmp 83) _ rfl insTy rfl hown1 rfl hRow (by simp [Value.oneCell']) (by unfold maxLen; omega) (by omega) HBy.out.size ?_; intro A3 c3 w5 hown3 hgrow3 hat3)
      replace hown3 : w5.ownsRow w.heap.size 31 4 (.slice A3 3 c3) 3 (iv [⟨1, 1, va, 0⟩, ⟨1, 2, vb, 0⟩, ⟨12, 2, 0, 0⟩]) := hown3
      have HD5 := hide (HDy.out.grown hgrow3 (fun e => by have := (hown1.lt b (by rw [ownBlock_slice]; exact e.symm)).1; omega) (fun k hk => by have := (hown1.lt k (by rw [ownBlock_slice]; exact hk)).1; omega))
      have HB5 := hide (HBy.out.trans (Bel.of (b := b) (below_own (Below.refl _ _) hown1 hgrow3 HBy.out.size)))
      have HO5 := hide hown3
      clear HDy HBy hown1 hgrow3 hat3 hown3
      refine (next_dice C b 2 _ HD5.out (by omega) (by omega)).mono ?_
      rintro e w6 ⟨y, rfl, hy, hD, hB⟩
      have hown6 := own_bel HO5.out hB hlt
      have HD6 := hide hD
      have HB6 := hide (HB5.out.trans (hB.mono HB5.out.size))
      clear hD hB
      have hown7 := hown6.alloc (.cells #[.int .i64 2, .int .i64 (5 + y), .int .i64 0, .int .i64 0] 31)
      have HD7 := hide (HD6.out.alloc (.cells #[.int .i64 2, .int .i64 (5 + y), .int .i64 0, .int .i64 0] 31))
      have HB7 := hide (HB6.out.trans (Bel.of (b := b) ((Below.refl w.heap.size w6).alloc HB6.out.size (.cells #[.int .i64 2, .int .i64 (5 + y), .int .i64 0, .int .i64 0] 31))))
      go_wp2_with (at_builtin; refine wpList_append_rd rfl (.tmp 91) (.tmp 96) _ rfl insTy rfl hown7 rfl (Row.four w6 ⟨2, 5 + y, 0, 0⟩ _) (by simp [Value.oneCell']) (by unfold maxLen; omega) (by omega) HB7.out.size ?_; intro A4 c4 w8 hown8 hgrow8 hat8)
      replace hown8 : w8.ownsRow w.heap.size 31 4 (.slice A4 4 c4) 4 (iv [⟨1, 1, va, 0⟩, ⟨1, 2, vb, 0⟩, ⟨12, 2, 0, 0⟩, ⟨2, 5 + y, 0, 0⟩]) := hown8
      have HD8 := hide (HD7.out.grown hgrow8 (fun e => by have := (hown7.lt b (by rw [ownBlock_slice]; exact e.symm)).1; omega) (fun k hk => by have := (hown7.lt k (by rw [ownBlock_slice]; exact hk)).1; omega))
      have HB8 := hide (HB7.out.trans (Bel.of (b := b) (below_own (Below.refl _ _) hown7 hgrow8 HB7.out.size)))
      have HO8 := hide hown8
      clear HD7 HB7 hown7 hgrow8 hat8 hown8
      · skip
        go_ret
        exact ⟨A4, 4, c4, _, rfl, HO8.out, by
          intro x hx
          simp only [List.mem_cons, List.not_mem_nil, or_false] at hx
          rcases hx with rfl | rfl | rfl | rfl
          · exact made_set 0 (by omega) hva
          · exact made_set 0 (by omega) hvb
          · exact made_call 0 hnum
          · exact made_move 0 (by omega) (by omega), by omega, HD8.out, HB8.out⟩
    have e5 : (nr == 5) = false := by simpa using n5
    have e3 : (nr == 3) = false := by simpa using n3
    have e2 : (nr == 2) = false := by simpa using n2
    have hown1 := hown0.alloc (.cells #[.int .i64 1, .int .i64 2, .int .i64 vb, .int .i64 0, .int .i64 12, .int .i64 nr, .int .i64 0, .int .i64 0] 31)
    have HDy := hide (HDx.out.alloc (.cells #[.int .i64 1, .int .i64 2, .int .i64 vb, .int .i64 0, .int .i64 12, .int .i64 nr, .int .i64 0, .int .i64 0] 31))
    have HBy := hide (HBx.out.trans (Bel.of (b := b) ((Below.refl w.heap.size (wc.alloc (.cells #[.int .i64 1, .int .i64 1, .int .i64 va, .int .i64 0] 31))).alloc HBx.out.size (.cells #[.int .i64 1, .int .i64 2, .int .i64 vb, .int .i64 0, .int .i64 12, .int .i64 nr, .int .i64 0, .int .i64 0] 31))))
    have hgb : b ≠ wc.heap.size := by omega
    have hCg : C ≤ wc.heap.size := by omega
    have hRow : Row ((wc.alloc (.cells #[.int .i64 1, .int .i64 1, .int .i64 va, .int .i64 0] 31)).alloc (.cells #[.int .i64 1, .int .i64 2, .int .i64 vb, .int .i64 0, .int .i64 12, .int .i64 nr, .int .i64 0, .int .i64 0] 31)) (wc.heap.size + 2) 4 (some ⟨wc.heap.size + 1, 0, none⟩) 2 [.int .i64 1, .int .i64 2, .int .i64 vb, .int .i64 0, .int .i64 12, .int .i64 nr, .int .i64 0, .int .i64 0] := by simpa using Row.eight (wc.alloc (.cells #[.int .i64 1, .int .i64 1, .int .i64 va, .int .i64 0] 31)) ⟨1, 2, vb, 0⟩ ⟨12, nr, 0, 0⟩ 31
    go_wp2_with (at_builtin; refine wpList_append_rd rfl (.tmp 78) (.tmp 83) _ rfl insTy rfl hown1 rfl hRow (by simp [Value.oneCell']) (by unfold maxLen; omega) (by omega) HBy.out.size ?_; intro A3 c3 w5 hown3 hgrow3 hat3)
    replace hown3 : w5.ownsRow w.heap.size 31 4 (.slice A3 3 c3) 3 (iv [⟨1, 1, va, 0⟩, ⟨1, 2, vb, 0⟩, ⟨12, nr, 0, 0⟩]) := hown3
    have HD5 := hide (HDy.out.grown hgrow3 (fun e => by have := (hown1.lt b (by rw [ownBlock_slice]; exact e.symm)).1; omega) (fun k hk => by have := (hown1.lt k (by rw [ownBlock_slice]; exact hk)).1; omega))
    have HB5 := hide (HBy.out.trans (Bel.of (b := b) (below_own (Below.refl _ _) hown1 hgrow3 HBy.out.size)))
    have HO5 := hide hown3
    clear HDy HBy hown1 hgrow3 hat3 hown3
    · skip
      go_ret
      exact ⟨A3, 3, c3, _, rfl, HO5.out, by
        intro x hx
        simp only [List.mem_cons, List.not_mem_nil, or_false] at hx
        rcases hx with rfl | rfl | rfl
        · exact made_set 0 (by omega) hva
        · exact made_set 0 (by omega) hvb
        · exact made_call 0 hnum, by omega, HD5.out, HB5.out⟩
end Go.Proofs.Ytkcegdnjgkideaa
