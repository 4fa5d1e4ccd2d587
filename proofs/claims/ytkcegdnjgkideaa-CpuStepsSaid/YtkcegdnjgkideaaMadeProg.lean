/- What makes inputs of the statements: a program: a contract. -/
import Derived.Test.YtkcegdnjgkideaaMadeBlock
namespace Go.Proofs.Ytkcegdnjgkideaa
open Go.RowKit

def pathL : List (List UInt8) := [[47, 100, 101, 118], [47, 102], [47, 112, 111, 114, 116], [47, 115, 101, 109], [47, 115, 104, 109], [47, 103], [98, 97, 100], [47, 102, 47, 103]]
set_option maxHeartbeats 1000000 in
theorem paths_any (w : World) : Calls Try.prog 24 #[] w fun e w' => ∃ A c, e = .returned (.slice A 8 c) ∧ w'.ownsRow w.heap.size 9 1 (.slice A 8 c) 8 (sv pathL) ∧ Below w.heap.size w w' := by
  have hown : (w.alloc (.cells #[.string ⟨#[47, 100, 101, 118]⟩, .string ⟨#[47, 102]⟩, .string ⟨#[47, 112, 111, 114, 116]⟩, .string ⟨#[47, 115, 101, 109]⟩, .string ⟨#[47, 115, 104, 109]⟩, .string ⟨#[47, 103]⟩, .string ⟨#[98, 97, 100]⟩, .string ⟨#[47, 102, 47, 103]⟩] 9)).ownsRow w.heap.size 9 1 (.slice (some ⟨w.heap.size, 0, none⟩) 8 8) 8 (sv pathL) := own_list (sv pathL) 9 (Nat.le_refl _) (by decide)
  have hb := (Below.refl w.heap.size w).alloc (Nat.le_refl _) (.cells #[.string ⟨#[47, 100, 101, 118]⟩, .string ⟨#[47, 102]⟩, .string ⟨#[47, 112, 111, 114, 116]⟩, .string ⟨#[47, 115, 101, 109]⟩, .string ⟨#[47, 115, 104, 109]⟩, .string ⟨#[47, 103]⟩, .string ⟨#[98, 97, 100]⟩, .string ⟨#[47, 102, 47, 103]⟩] 9)
  have HO := hide hown
  clear hown
  go_enter Try.func24, Try.ntmps24
  go_wp2
  go_ret
  exact ⟨_, _, rfl, HO.out, hb⟩

theorem own_base {w : World} {base base' size n : Nat} {e : TypeId} {v : Value} {xs : List Value} (h : w.ownsRow base e size v n xs) (hb : base' ≤ base) : w.ownsRow base' e size v n xs := by
  refine ⟨h.1, ?_⟩
  rcases h.2 with h0 | ⟨g, cap, cur, hv, hg, hn⟩
  · exact .inl h0
  · exact .inr ⟨g, cap, cur, hv, Nat.le_trans hb hg, hn⟩
theorem Bel.bl {base b : Nat} {w w' w'' : World} (h : Bel base b w w') (h' : Below w'.heap.size w' w'') (hs : base ≤ w'.heap.size) : Bel base b w w'' := h.trans (Bel.of (h'.mono hs))
theorem RqP.bel {w w' : World} {base b g n c m d : Nat} {cells : Array Value} {A D : Option Addr} {code : List Cd.Ins} {strs : List (List UInt8)} (h : RqP w base g cells A n c D m d code strs) (hb : Bel w.heap.size b w w') (hbb : b < base) (hg : g ≠ b) : RqP w' base g cells A n c D m d code strs :=
  ⟨hb.obl' h.1 hg, Nat.le_trans h.2.1 hb.size, own_bel h.2.2.1 hb hbb, own_bel h.2.2.2 hb hbb⟩
/-- Instructions that are right where they stand. -/
def CodeMade (l : List Cd.Ins) : Prop := ∀ x ∈ l, InsMade l.length x
theorem CodeMade.append {l r : List Cd.Ins} (h : CodeMade l) (hr : ∀ x ∈ r, InsMade l.length x) : CodeMade (l ++ r) := by
  intro x hx
  rw [List.length_append]
  rcases List.mem_append.1 hx with hx | hx
  · exact (h x hx).mono (by omega)
  · exact (hr x hx).mono (by omega)
/-- A made program, and the dice. -/
def PrThrown (C b : Nat) (w : World) (e : Ending) (w' : World) : Prop := ∃ A n c D m d, ∃ p : Cd.Pr, e = .returned (pa A n c D m d p.pages) ∧ w'.ownsRow w.heap.size 31 4 (.slice A n c) n (iv p.code) ∧ w'.ownsRow w.heap.size 9 1 (.slice D m d) m (sv p.strs) ∧
  (CodeMade p.code ∧ p.code.length ≤ 100 ∧ p.strs = pathL ∧ (0 ≤ p.pages ∧ p.pages ≤ 2)) ∧ Dice w' C b ∧ Bel w.heap.size b w w'

set_option maxRecDepth 100000 in
set_option maxHeartbeats 16000000 in
theorem program_dice (C b : Nat) (w : World) (h : Dice w C b) (hC : C ≤ w.heap.size) :
    Calls Try.prog 11 #[.pointer (some ⟨b, 0, none⟩)] w (PrThrown C b w) := by
  have hlt := h.lt
  have OR0 := Obl.make w 28 #[.slice none 0 0, .slice none 0 0, .int .i64 0]
  have HD0 := hide (h.alloc (.cells #[.slice none 0 0, .slice none 0 0, .int .i64 0] 28))
  have HB0 := hide (Bel.of (b := b) ((Below.refl w.heap.size w).alloc (Nat.le_refl _) (.cells #[.slice none 0 0, .slice none 0 0, .int .i64 0] 28)))
  have HR0 := hide OR0
  clear h OR0
  go_enter Try.func11, Try.ntmps11
  go_wp2_with fail
  refine (paths_any _).mono ?_
  rintro e w1 ⟨D, d, rfl, hown, hb⟩
  have hown1 : w1.ownsRow w.heap.size 9 1 (.slice D 8 d) 8 (sv pathL) := own_base hown (by simp)
  have HD1 := hide (HD0.out.below hb)
  have HB1 := hide (HB0.out.trans (Bel.of (b := b) (hb.mono HB0.out.size)))
  have HR1 := hide (HR0.out.below hb HR0.out.lt)
  clear hb hown HD0 HB0 HR0
  go_wp2_with fail
  refine (next_dice C b 3 _ HD1.out (by omega) (by omega)).mono ?_
  rintro e w2 ⟨pg, rfl, hpg, hD, hB⟩
  have hownd := own_bel hown1 hB hlt
  have HD2 := hide (hD.alloc (.cells #[.slice none 0 0, .slice D 8 d, .int .i64 pg] 28))
  have HB2 := hide ((HB1.out.trans (hB.mono HB1.out.size)).trans (Bel.of (b := b) ((Below.refl w.heap.size w2).alloc (HB1.out.trans (hB.mono HB1.out.size)).size (.cells #[.slice none 0 0, .slice D 8 d, .int .i64 pg] 28))))
  have HR2 := hide ((hB.obl' HR1.out (by omega)).alloc (.cells #[.slice none 0 0, .slice D 8 d, .int .i64 pg] 28))
  have hs2 : w.heap.size ≤ w2.heap.size := (HB1.out.trans (hB.mono HB1.out.size)).size
  have hPr : RqP (w2.alloc (.cells #[.slice none 0 0, .slice D 8 d, .int .i64 pg] 28)) w.heap.size w2.heap.size #[.slice none 0 0, .slice D 8 d, .int .i64 pg] none 0 0 D 8 d [] pathL := ⟨Obl.make w2 _ _, HB2.out.size, World.ownsRow_nil _ _ _ _, hownd.alloc _⟩
  have HP2 := hide hPr
  have hrl := HR1.out.lt
  have hgr : w2.heap.size ≠ w.heap.size := by have := hB.size; omega
  clear hD hB hownd hPr hown1 HD1 HB1 HR1
  go_wp2_with fail
  generalize w2.alloc (.cells #[.slice none 0 0, .slice D 8 d, .int .i64 pg] 28) = w3 at *
  generalize w2.heap.size = gp at *
  refine (next_dice C b 9 _ HD2.out (by omega) (by omega)).mono ?_
  rintro e w4 ⟨cn, rfl, hcn, hD, hB⟩
  have hgb : gp ≠ b := by omega
  obtain ⟨i0, hi0⟩ := Int.eq_ofNat_of_zero_le (show 0 ≤ 2 + cn by omega)
  have hi10 : i0 ≤ 10 := by omega
  have HD3 := hide hD
  have HB3 := hide (HB2.out.trans (hB.mono HB2.out.size))
  have HR3 := hide (hB.obl' HR2.out (by omega))
  have HP3 := hide (HP2.out.bel hB hlt hgb)
  have HC0 : Hid (CodeMade ([] : List Cd.Ins)) := hide (by intro x hx; cases hx)
  clear hD hB HD2 HB2 HR2 HP2
  go_wp2_with fail
  clear hi0 hcn
  go_loopw [4] (fun s4 wr => ∃ (i n c : Nat) (A : Option Addr) (code : List Cd.Ins), s4 = .int .i64 (i : Int) ∧ i ≤ i0 ∧ RqP wr w.heap.size gp #[.slice A n c, .slice D 8 d, .int .i64 pg] A n c D 8 d code pathL ∧ (Hid (CodeMade code) ∧ code.length + 6 * i ≤ 60) ∧ Hid (Dice wr C b) ∧ Hid (Bel w.heap.size b w wr) ∧ Obl wr w.heap.size 28 #[.slice none 0 0, .slice none 0 0, .int .i64 0]) (fun s4 _ => (intOf s4).toNat)
  case atStart => exact ⟨i0, 0, 0, none, [], rfl, by omega, HP3.out, ⟨HC0, by simp; omega⟩, HD3, HB3, HR3.out⟩
  case round =>
    clear HC0 HP3 HD3 HB3 HR3
    obtain ⟨i, n, c, A, code, rfl, hi, hP, ⟨HC, hlen⟩, HD, HB, hR⟩ := hrel
    have k0 := hP.1.cell 0
    simp at k0
    have hnl := own_inss hP.2.2.1
    have hbk := HD.out.lt
    by_cases h0 : 0 < i
    · have hi0' : (0 : Int) < (i : Int) := by omega
      go_wp2_with fail
      refine region_D (by kernel_rfl) wr.drew.heap.size b [4, 6] ?_
      replace hP : RqP wr.drew w.heap.size gp #[.slice A n c, .slice D 8 d, .int .i64 pg] A n c D 8 d code pathL := hP
      replace HD : Hid (Dice wr.drew C b) := HD
      replace HB : Hid (Bel w.heap.size b w wr.drew) := hide ⟨HB.out.os, HB.out.tape, HB.out.output, HB.out.size, HB.out.block⟩
      replace hR : Obl wr.drew w.heap.size 28 #[.slice none 0 0, .slice none 0 0, .int .i64 0] := hR
      replace k0 : wr.drew.cell? ⟨gp, 0, none⟩ = some (.slice A n c) := k0
      have hgl : gp < wr.drew.heap.size := hP.1.lt
      generalize wr.drew = u0 at *
      refine takeDX 0 rfl (by kernel_rfl) (fun _ _ _ h => h) (by rfl) (by intro w'; go_simp; try with_reducible rfl) ?_
      refine takeD 1 [1, 4, 5, 6] rfl (by kernel_rfl) (fun _ _ _ h => h) (by rfl) (by intro w' hg; have g0 := (hg.cell (p := ⟨gp, 0, none⟩) (by show gp < _; exact hgl) (by show gp ≠ b; exact hgb)).trans k0; go_simp; try with_reducible rfl) ?_
      refine takeDX 2 rfl (by kernel_rfl) (fun _ _ _ h => h) (by rfl) (by intro w'; go_simp; try with_reducible rfl) ?_
      refine onlyD 3 rfl (by kernel_rfl) (by rfl) ?_
      intro K hK
      go_simp
      refine (block_dice C b _ HD.out (Nat.le_trans hC HB.out.size)).mono ?_
      rintro e u1 ⟨A1, m1, c1, l1, rfl, hown1, hl1, hm1, hD, hBb⟩
      have hP1 := hP.bel hBb hlt hgb
      have HD1 := hide hD
      have HB1 := hide (HB.out.trans (hBb.mono HB.out.size))
      have hR1 := hBb.obl' hR (by omega)
      have hl1m := own_inss hown1
      refine hK _ _ (fun _ => hBb) ?_
      clear hK K hD hBb hP hR HD HB k0
      refine onlyD 4 rfl (by kernel_rfl) (by rfl) ?_
      intro K hK
      refine wp_append_rd (.tmp 18) (.tmp 20) _ rfl insTy (A := A) (n := n) (c := c) rfl hP1.2.2.1 (B := u1.heap.size) (S := A1) (m := m1) (d := c1) (news := iv l1) rfl (Row.of_own hown1) (iv_one l1) (by unfold maxLen; omega) (by omega) hP1.2.1 ?_
      intro A3 c3 w3 hown3 hgrow3 hat3
      rw [← iv_append] at hown3
      have h3 := hP1.withCode hgrow3 hown3
      have HD3 := hide (HD1.out.grown hgrow3 (fun e => by have := (hP1.2.2.1.lt b (by rw [ownBlock_slice]; exact e.symm)).1; omega) (fun j hj => by have := (hP1.2.2.1.lt j (by rw [ownBlock_slice]; exact hj)).1; omega))
      have HB3 := hide (HB1.out.trans (Bel.of (b := b) (below_own (Below.refl _ _) hP1.2.2.1 hgrow3 hP1.2.1)))
      have hR3 := hR1.grown hgrow3 (hR1.apart hP1.2.2.1 (by decide))
      refine hK _ _ (fun h => absurd h (by decide)) ?_
      clear hK K HD1 HB1 hR1 hP1
      have q0 := h3.1.cell 0
      have z0 := h3.1.free 0
      simp at q0
      refine takeDX 5 rfl (by kernel_rfl) (fun _ _ _ h => h) (by rfl) (by intro w'; go_simp; try with_reducible rfl) ?_
      refine onlyD 6 rfl (by kernel_rfl) (by rfl) ?_
      intro K hK
      go_simp
      refine hK _ _ (fun h => absurd h (by decide)) ?_
      clear hK K
      have h4 := h3.put 0 (.slice A3 (n + m1) c3)
      have HD4 := hide (HD3.out.put_other (g := gp) (by omega) (by omega) 0 (.slice A3 (n + m1) c3))
      have HB4 := hide (HB3.out.setGe (g := gp) (by omega) 0 (.slice A3 (n + m1) c3))
      have hR4 := hR3.put_other (b' := gp) (by omega) 0 (.slice A3 (n + m1) c3)
      generalize w3.setCell ⟨gp, 0, none⟩ (.slice A3 (n + m1) c3) = w4' at *
      clear h3 HD3 HB3 hR3 q0 z0
      refine doneD (by kernel_rfl) ?_
      go_simp
      have HC4 : Hid (CodeMade (code ++ l1)) := hide (HC.out.append (fun x hx => (hl1 x hx).mono (by omega)))
      have hlen4 : (code ++ l1).length + 6 * i ≤ 64 := by rw [List.length_append]; omega
      replace h4 : RqP w4' w.heap.size gp #[.slice A3 (n + m1) c3, .slice D 8 d, .int .i64 pg] A3 (n + m1) c3 D 8 d (code ++ l1) pathL := h4
      generalize code ++ l1 = cd at *
      generalize n + m1 = n5 at *
      have hn5 := own_inss h4.2.2.1
      clear hnl hl1 hl1m
      go_wp2_with fail
      refine (next_dice C b 3 _ HD4.out (by omega) (by omega)).mono ?_
      rintro e w6 ⟨v, rfl, hv, hD, hB⟩
      have hP6 := h4.bel hB hlt hgb
      have HD6 := hide hD
      have HB6 := hide (HB4.out.trans (hB.mono HB4.out.size))
      have hR6 := hB.obl' hR4 (by omega)
      clear hD hB h4 HD4 HB4 hR4
      by_cases hv0 : v = 0
      · subst hv0
        go_wp2_with fail
        refine region_D (by kernel_rfl) w6.drew.heap.size b [11, 13] ?_
        replace hP6 : RqP w6.drew w.heap.size gp #[.slice A3 n5 c3, .slice D 8 d, .int .i64 pg] A3 n5 c3 D 8 d cd pathL := hP6
        replace HD6 : Hid (Dice w6.drew C b) := HD6
        replace HB6 : Hid (Bel w.heap.size b w w6.drew) := hide ⟨HB6.out.os, HB6.out.tape, HB6.out.output, HB6.out.size, HB6.out.block⟩
        replace hR6 : Obl w6.drew w.heap.size 28 #[.slice none 0 0, .slice none 0 0, .int .i64 0] := hR6
        have k6 := hP6.1.cell 0
        simp only [List.getElem?_toArray, List.getElem?_cons_zero] at k6
        have hgl6 : gp < w6.drew.heap.size := hP6.1.lt
        have hbk6 : b < w6.drew.heap.size := HD6.out.lt
        generalize w6.drew = v0 at *
        refine takeDX 0 rfl (by kernel_rfl) (fun _ _ _ h => h) (by rfl) (by intro w'; go_simp; try with_reducible rfl) ?_
        refine takeD 1 [1, 11, 12, 13] rfl (by kernel_rfl) (fun _ _ _ h => h) (by rfl) (by intro w' hg; have g0 := (hg.cell (p := ⟨gp, 0, none⟩) (by show gp < _; exact hgl6) (by show gp ≠ b; exact hgb)).trans k6; go_simp; try with_reducible rfl) ?_
        refine takeDX 3 rfl (by kernel_rfl) (fun _ _ _ h => h) (by rfl) (by intro w'; go_simp; try with_reducible rfl) ?_
        refine takeDX 7 rfl (by kernel_rfl) (fun _ _ _ h => h) (by rfl) (by intro w'; go_simp; try with_reducible rfl) ?_
        refine twoD 2 4 rfl rfl (by kernel_rfl) (by rfl) (by rfl) ?_ ?_
        · intro K hK
          go_simp
          refine hK _ _ (fun _ => Bel.of ((Below.refl _ _).alloc (Nat.le_refl _) _)) ?_
          clear hK K
          have OT : Obl (v0.alloc (.cells #[.int .i64 10, .int .i64 11] 3)) v0.heap.size 3 (nv .i64 [10, 11]).toArray := Obl.make v0 3 (nv .i64 [10, 11]).toArray
          have hPa := hP6.alloc (.cells #[.int .i64 10, .int .i64 11] 3)
          have HDa := hide (HD6.out.alloc (.cells #[.int .i64 10, .int .i64 11] 3))
          have HBa := hide (HB6.out.trans (Bel.of (b := b) ((Below.refl w.heap.size v0).alloc HB6.out.size (.cells #[.int .i64 10, .int .i64 11] 3))))
          have hRa := hR6.alloc (.cells #[.int .i64 10, .int .i64 11] 3)
          have hsa : v0.heap.size ≤ (v0.alloc (.cells #[.int .i64 10, .int .i64 11] 3)).heap.size := by simp
          have hgq : v0.heap.size ≠ b := by omega
          generalize v0.alloc (.cells #[.int .i64 10, .int .i64 11] 3) = va at *
          refine onlyD 4 rfl (by kernel_rfl) (by rfl) ?_
          intro K hK
          go_simp
          refine (next_dice C b 2 _ HDa.out (by omega) (by omega)).mono ?_
          rintro e u7 ⟨x, rfl, hx, hD, hB⟩
          obtain ⟨q, rfl⟩ := Int.eq_ofNat_of_zero_le hx.1
          have hq : q < 2 := by omega
          have hqi : (q : Int) < 2 := by omega
          have OT7 := hB.obl' OT hgq
          have c1 := OT7.num (k := q) hq
          have hgl := OT7.lt
          have hraise : v0.heap.size ≤ u7.heap.size := Nat.le_trans hsa hB.size
          have hP7 := hPa.bel hB hlt hgb
          have HD7 := hide hD
          have HB7 := hide (HBa.out.trans (hB.mono HBa.out.size))
          have hR7 := hB.obl' hRa (by omega)
          refine hK _ _ (fun _ => hB.mono hsa) ?_
          clear hK K hD OT OT7 hP6 HD6 HB6 hR6 k6 hPa HDa HBa hRa hB
          have hr : ([10, 11] : List Int)[q]'hq = 10 ∨ ([10, 11] : List Int)[q]'hq = 11 := by
            have : ∀ q : Fin 2, ([10, 11] : List Int)[q] = 10 ∨ ([10, 11] : List Int)[q] = 11 := by decide
            exact this ⟨q, hq⟩
          generalize ([10, 11] : List Int)[q]'hq = rv at *
          refine raiseD (B' := u7.heap.size) hraise _ _ _ _ ?_
          refine takeDX 5 rfl (by kernel_rfl) (fun _ _ _ h => h) (by rfl) (by intro w'; have hqb : (q : Int) < 2 := hqi; go_simp; try with_reducible rfl) ?_
          refine takeD 6 [6, 9, 10, 11, 12, 13] rfl (by kernel_rfl) (fun _ _ _ h => h) (by rfl) (by intro w' hg; have g0 := (hg.cell (p := ⟨v0.heap.size, q, none⟩) (by show v0.heap.size < _; exact hgl) (by show v0.heap.size ≠ b; omega)).trans c1; go_simp; try with_reducible rfl) ?_
          refine onlyD 8 rfl (by kernel_rfl) (by rfl) ?_
          intro K hK
          go_simp
          refine (next_dice C b 34 _ HD7.out (by omega) (by omega)).mono ?_
          rintro e u8 ⟨y, rfl, hy, hD, hB⟩
          have hP8 := hP7.bel hB hlt hgb
          have HD8 := hide hD
          have HB8 := hide (HB7.out.trans (hB.mono HB7.out.size))
          have hR8 := hB.obl' hR7 (by omega)
          have hs8 := Nat.le_refl u8.heap.size
          refine hK _ _ (fun _ => hB) ?_
          clear hK K hP7 HD7 HB7 hR7
          refine takeDX 9 rfl (by kernel_rfl) (fun _ _ _ h => h) (by rfl) (by intro w'; go_simp; try with_reducible rfl) ?_
          refine onlyD 10 rfl (by kernel_rfl) (by rfl) ?_
          intro K hK
          go_simp
          refine hK _ _ (fun _ => Bel.of ((Below.refl _ _).alloc hB.size _)) ?_
          clear hK K
          have h2 := hP8.alloc (.cells #[.int .i64 rv, .int .i64 4, .int .i64 7, .int .i64 y] 31)
          have HD2 := hide (HD8.out.alloc (.cells #[.int .i64 rv, .int .i64 4, .int .i64 7, .int .i64 y] 31))
          have HB2 := hide (HB8.out.trans (Bel.of (b := b) ((Below.refl w.heap.size u8).alloc HB8.out.size (.cells #[.int .i64 rv, .int .i64 4, .int .i64 7, .int .i64 y] 31))))
          have hR2 := hR8.alloc (.cells #[.int .i64 rv, .int .i64 4, .int .i64 7, .int .i64 y] 31)
          refine onlyD 11 rfl (by kernel_rfl) (by rfl) ?_
          intro K hK
          refine wp_append_rd (.tmp 27) (.tmp 36) _ rfl insTy (A := A3) (n := n5) (c := c3) rfl h2.2.2.1 (B := u8.heap.size + 1) (S := some ⟨u8.heap.size, 0, none⟩) (m := 1) (d := 1) (news := [.int .i64 rv, .int .i64 4, .int .i64 7, .int .i64 y]) rfl (Row.four u8 ⟨rv, 4, 7, y⟩ _) (by simp [Value.oneCell']) (by unfold maxLen; omega) (by omega) h2.2.1 ?_
          intro A7 c7 w7 hown7 hgrow7 hat7
          rw [iv_snoc cd ⟨rv, 4, 7, y⟩] at hown7
          have h3 := h2.withCode hgrow7 hown7
          have HD3 := hide (HD2.out.grown hgrow7 (fun e => by have := (h2.2.2.1.lt b (by rw [ownBlock_slice]; exact e.symm)).1; omega) (fun j hj => by have := (h2.2.2.1.lt j (by rw [ownBlock_slice]; exact hj)).1; omega))
          have HB3 := hide (HB2.out.trans (Bel.of (b := b) (below_own (Below.refl _ _) h2.2.2.1 hgrow7 h2.2.1)))
          have hR3 := hR2.grown hgrow7 (hR2.apart h2.2.2.1 (by decide))
          refine hK _ _ (fun h => absurd h (by decide)) ?_
          clear hK K
          have q0 := h3.1.cell 0
          have z0 := h3.1.free 0
          simp at q0
          refine takeDX 12 rfl (by kernel_rfl) (fun _ _ _ h => h) (by rfl) (by intro w'; go_simp; try with_reducible rfl) ?_
          refine onlyD 13 rfl (by kernel_rfl) (by rfl) ?_
          intro K hK
          go_simp
          refine hK _ _ (fun h => absurd h (by decide)) ?_
          clear hK K
          have h5 : RqP (w7.setCell ⟨gp, 0, none⟩ (.slice A7 (n5 + 1) c7)) w.heap.size gp #[.slice A7 (n5 + 1) c7, .slice D 8 d, .int .i64 pg] A7 (n5 + 1) c7 D 8 d (cd ++ [⟨rv, 4, 7, y⟩]) pathL := h3.put 0 (.slice A7 (n5 + 1) c7)
          have HD5 := hide (HD3.out.put_other (g := gp) (by omega) (by omega) 0 (.slice A7 (n5 + 1) c7))
          have HB5 := hide (HB3.out.setGe (g := gp) (by omega) 0 (.slice A7 (n5 + 1) c7))
          have hR5 := hR3.put_other (b' := gp) (by omega) 0 (.slice A7 (n5 + 1) c7)
          generalize w7.setCell ⟨gp, 0, none⟩ (.slice A7 (n5 + 1) c7) = w5' at *
          clear h3 HD3 HB3 hR3 q0 z0 h2 HD2 HB2 hR2
          refine doneD (by kernel_rfl) ?_
          go_simp
          have HC5 : Hid (CodeMade (cd ++ [⟨rv, 4, 7, y⟩])) := hide (HC4.out.append (fun x hx => by
            simp only [List.mem_singleton] at hx
            subst hx
            rcases hr with rfl | rfl
            · exact made_load _ (by omega) (by omega) (by omega)
            · exact made_store _ (by omega) (by omega) (by omega)))
          have hlen5 : (cd ++ [(⟨rv, 4, 7, y⟩ : Cd.Ins)]).length + 6 * i ≤ 65 := by rw [List.length_append]; simp only [List.length_cons, List.length_nil]; omega
          have hn7 := own_inss h5.2.2.1
          clear hr
          generalize cd ++ [(⟨rv, 4, 7, y⟩ : Cd.Ins)] = cd7 at *
          go_wp2_with fail
          refine (next_dice C b 8 _ HD5.out (by omega) (by omega)).mono ?_
          rintro e w9 ⟨z, rfl, hz, hD, hB⟩
          have hP9 := h5.bel hB hlt hgb
          have HD9 := hide hD
          have HB9 := hide (HB5.out.trans (hB.mono HB5.out.size))
          have hR9 := hB.obl' hR5 (by omega)
          clear hD hB h5 HD5 HB5 hR5
          by_cases hz0 : z = 0
          · subst hz0
            have k9 := hP9.1.cell 0
            simp at k9
            go_wp2_with fail
            refine (instr_dice C b (n5 + 1) _ HD9.out (by omega)).mono ?_
            rintro e w10 ⟨x, rfl, hx, hD, hB⟩
            simp only [ia]
            have hP10 := hP9.bel hB hlt hgb
            have HD10 := hide hD
            have HB10 := hide (HB9.out.trans (hB.mono HB9.out.size))
            have hR10 := hB.obl' hR9 (by omega)
            clear hD hB hP9 HD9 HB9 hR9 k9
            have HCx : Hid (CodeMade (cd7 ++ [x])) := hide (HC5.out.append (fun y hy => by simp only [List.mem_singleton] at hy; subst hy; rw [hn7]; exact hx))
            obtain ⟨xo, xa, xb, xc⟩ := x
            simp only
            clear hx
            have h2 := (hP10.alloc (.cells #[.int .i64 xo, .int .i64 xa, .int .i64 xb, .int .i64 xc] 31)).alloc (.cells #[.int .i64 xo, .int .i64 xa, .int .i64 xb, .int .i64 xc] 31)
            have HD2 := hide ((HD10.out.alloc (.cells #[.int .i64 xo, .int .i64 xa, .int .i64 xb, .int .i64 xc] 31)).alloc (.cells #[.int .i64 xo, .int .i64 xa, .int .i64 xb, .int .i64 xc] 31))
            have HB2 := hide (HB10.out.trans (Bel.of (b := b) (((Below.refl w.heap.size w10).alloc HB10.out.size (.cells #[.int .i64 xo, .int .i64 xa, .int .i64 xb, .int .i64 xc] 31)).alloc (Nat.le_trans HB10.out.size (by simp)) (.cells #[.int .i64 xo, .int .i64 xa, .int .i64 xb, .int .i64 xc] 31))))
            have hR2 := (hR10.alloc (.cells #[.int .i64 xo, .int .i64 xa, .int .i64 xb, .int .i64 xc] 31)).alloc (.cells #[.int .i64 xo, .int .i64 xa, .int .i64 xb, .int .i64 xc] 31)
            have j0 := (hP10.alloc (.cells #[.int .i64 xo, .int .i64 xa, .int .i64 xb, .int .i64 xc] 31)).1.cell 0
            simp at j0
            have hRow : Row ((w10.alloc (.cells #[.int .i64 xo, .int .i64 xa, .int .i64 xb, .int .i64 xc] 31)).alloc (.cells #[.int .i64 xo, .int .i64 xa, .int .i64 xb, .int .i64 xc] 31)) (w10.heap.size + 2) 4 (some ⟨w10.heap.size + 1, 0, none⟩) 1 [.int .i64 xo, .int .i64 xa, .int .i64 xb, .int .i64 xc] := by
              have := Row.four (w10.alloc (.cells #[.int .i64 xo, .int .i64 xa, .int .i64 xb, .int .i64 xc] 31)) ⟨xo, xa, xb, xc⟩ 31
              simpa using this
            go_wp2_with (at_builtin; refine wpList_append_rd rfl (.tmp 48) (.tmp 50) _ rfl insTy rfl h2.2.2.1 rfl hRow (by simp [Value.oneCell']) (by unfold maxLen; omega) (by omega) h2.2.1 ?_; intro A9 c9 w11 hown9 hgrow9 hat9; rw [iv_snoc cd7 ⟨xo, xa, xb, xc⟩] at hown9; have h3 := h2.withCode hgrow9 hown9; have q0 := h3.1.cell 0; have z0 := h3.1.free 0; simp at q0)
            have h5 : RqP (w11.setCell ⟨gp, 0, none⟩ (.slice A9 ((n5 + 1) + 1) c9)) w.heap.size gp #[.slice A9 ((n5 + 1) + 1) c9, .slice D 8 d, .int .i64 pg] A9 ((n5 + 1) + 1) c9 D 8 d (cd7 ++ [⟨xo, xa, xb, xc⟩]) pathL := h3.put 0 (.slice A9 ((n5 + 1) + 1) c9)
            have HD5 := hide ((HD2.out.grown hgrow9 (fun e => by have := (h2.2.2.1.lt b (by rw [ownBlock_slice]; exact e.symm)).1; omega) (fun j hj => by have := (h2.2.2.1.lt j (by rw [ownBlock_slice]; exact hj)).1; omega)).put_other (g := gp) (by omega) (by omega) 0 (.slice A9 ((n5 + 1) + 1) c9))
            have HB5 := hide ((HB2.out.trans (Bel.of (b := b) (below_own (Below.refl _ _) h2.2.2.1 hgrow9 h2.2.1))).setGe (g := gp) (by omega) 0 (.slice A9 ((n5 + 1) + 1) c9))
            have hR5 := (hR2.grown hgrow9 (hR2.apart h2.2.2.1 (by decide))).put_other (b' := gp) (by omega) 0 (.slice A9 ((n5 + 1) + 1) c9)
            go_roundw
            case rel => exact ⟨i - 1, (n5 + 1) + 1, c9, A9, cd7 ++ [⟨xo, xa, xb, xc⟩], congrArg (Value.int .i64) (by omega), by omega, h5, ⟨HCx, by first | omega | (rw [List.length_append]; simp only [List.length_cons, List.length_nil]; omega)⟩, HD5, HB5, hR5⟩
            case measure => simp [intOf]; omega
          · have ez : (z == 0) = false := by simpa using hz0
            go_wp2
            go_roundw
            case rel => exact ⟨i - 1, (n5 + 1), c7, A7, cd7, congrArg (Value.int .i64) (by omega), by omega, hP9, ⟨HC5, by first | omega | (rw [List.length_append]; simp only [List.length_cons, List.length_nil]; omega)⟩, HD9, HB9, hR9⟩
            case measure => simp [intOf]; omega
        · intro K hK
          go_simp
          refine (next_dice C b 2 _ HD6.out (by omega) (by omega)).mono ?_
          rintro e va ⟨x, rfl, hx, hD, hB⟩
          obtain ⟨q, rfl⟩ := Int.eq_ofNat_of_zero_le hx.1
          have hq : q < 2 := by omega
          have hqi : (q : Int) < 2 := by omega
          have hPa := hP6.bel hB hlt hgb
          have HDa := hide hD
          have HBa := hide (HB6.out.trans (hB.mono HB6.out.size))
          have hRa := hB.obl' hR6 (by omega)
          have hsa := hB.size
          refine hK _ _ (fun _ => hB) ?_
          clear hK K hD hB hP6 HD6 HB6 hR6 k6
          refine twoD 2 8 rfl rfl (by kernel_rfl) (by rfl) (by rfl) ?_ ?_
          · intro K hK
            go_simp
            refine hK _ _ (fun _ => Bel.of ((Below.refl _ _).alloc hsa _)) ?_
            clear hK K
            have OT7 : Obl (va.alloc (.cells #[.int .i64 10, .int .i64 11] 3)) va.heap.size 3 (nv .i64 [10, 11]).toArray := Obl.make va 3 (nv .i64 [10, 11]).toArray
            have c1 := OT7.num (k := q) hq
            have hgl := OT7.lt
            have hraise : v0.heap.size ≤ (va.alloc (.cells #[.int .i64 10, .int .i64 11] 3)).heap.size := Nat.le_trans hsa (by simp)
            have hP7 := hPa.alloc (.cells #[.int .i64 10, .int .i64 11] 3)
            have HD7 := hide (HDa.out.alloc (.cells #[.int .i64 10, .int .i64 11] 3))
            have HB7 := hide (HBa.out.trans (Bel.of (b := b) ((Below.refl w.heap.size va).alloc HBa.out.size (.cells #[.int .i64 10, .int .i64 11] 3))))
            have hR7 := hRa.alloc (.cells #[.int .i64 10, .int .i64 11] 3)
            have hgq : va.heap.size ≠ b := by omega
            clear OT7 hPa HDa HBa hRa
            generalize va.alloc (.cells #[.int .i64 10, .int .i64 11] 3) = u7 at *
            have hr : ([10, 11] : List Int)[q]'hq = 10 ∨ ([10, 11] : List Int)[q]'hq = 11 := by
              have : ∀ q : Fin 2, ([10, 11] : List Int)[q] = 10 ∨ ([10, 11] : List Int)[q] = 11 := by decide
              exact this ⟨q, hq⟩
            generalize ([10, 11] : List Int)[q]'hq = rv at *
            refine raiseD (B' := u7.heap.size) hraise _ _ _ _ ?_
            refine takeDX 5 rfl (by kernel_rfl) (fun _ _ _ h => h) (by rfl) (by intro w'; have hqb : (q : Int) < 2 := hqi; go_simp; try with_reducible rfl) ?_
            refine takeD 6 [6, 9, 10, 11, 12, 13] rfl (by kernel_rfl) (fun _ _ _ h => h) (by rfl) (by intro w' hg; have g0 := (hg.cell (p := ⟨va.heap.size, q, none⟩) (by show va.heap.size < _; exact hgl) (by show va.heap.size ≠ b; omega)).trans c1; go_simp; try with_reducible rfl) ?_
            refine onlyD 8 rfl (by kernel_rfl) (by rfl) ?_
            intro K hK
            go_simp
            refine (next_dice C b 34 _ HD7.out (by omega) (by omega)).mono ?_
            rintro e u8 ⟨y, rfl, hy, hD, hB⟩
            have hP8 := hP7.bel hB hlt hgb
            have HD8 := hide hD
            have HB8 := hide (HB7.out.trans (hB.mono HB7.out.size))
            have hR8 := hB.obl' hR7 (by omega)
            have hs8 := Nat.le_refl u8.heap.size
            refine hK _ _ (fun _ => hB) ?_
            clear hK K hP7 HD7 HB7 hR7
            refine takeDX 9 rfl (by kernel_rfl) (fun _ _ _ h => h) (by rfl) (by intro w'; go_simp; try with_reducible rfl) ?_
            refine onlyD 10 rfl (by kernel_rfl) (by rfl) ?_
            intro K hK
            go_simp
            refine hK _ _ (fun _ => Bel.of ((Below.refl _ _).alloc hB.size _)) ?_
            clear hK K
            have h2 := hP8.alloc (.cells #[.int .i64 rv, .int .i64 4, .int .i64 7, .int .i64 y] 31)
            have HD2 := hide (HD8.out.alloc (.cells #[.int .i64 rv, .int .i64 4, .int .i64 7, .int .i64 y] 31))
            have HB2 := hide (HB8.out.trans (Bel.of (b := b) ((Below.refl w.heap.size u8).alloc HB8.out.size (.cells #[.int .i64 rv, .int .i64 4, .int .i64 7, .int .i64 y] 31))))
            have hR2 := hR8.alloc (.cells #[.int .i64 rv, .int .i64 4, .int .i64 7, .int .i64 y] 31)
            refine onlyD 11 rfl (by kernel_rfl) (by rfl) ?_
            intro K hK
            refine wp_append_rd (.tmp 27) (.tmp 36) _ rfl insTy (A := A3) (n := n5) (c := c3) rfl h2.2.2.1 (B := u8.heap.size + 1) (S := some ⟨u8.heap.size, 0, none⟩) (m := 1) (d := 1) (news := [.int .i64 rv, .int .i64 4, .int .i64 7, .int .i64 y]) rfl (Row.four u8 ⟨rv, 4, 7, y⟩ _) (by simp [Value.oneCell']) (by unfold maxLen; omega) (by omega) h2.2.1 ?_
            intro A7 c7 w7 hown7 hgrow7 hat7
            rw [iv_snoc cd ⟨rv, 4, 7, y⟩] at hown7
            have h3 := h2.withCode hgrow7 hown7
            have HD3 := hide (HD2.out.grown hgrow7 (fun e => by have := (h2.2.2.1.lt b (by rw [ownBlock_slice]; exact e.symm)).1; omega) (fun j hj => by have := (h2.2.2.1.lt j (by rw [ownBlock_slice]; exact hj)).1; omega))
            have HB3 := hide (HB2.out.trans (Bel.of (b := b) (below_own (Below.refl _ _) h2.2.2.1 hgrow7 h2.2.1)))
            have hR3 := hR2.grown hgrow7 (hR2.apart h2.2.2.1 (by decide))
            refine hK _ _ (fun h => absurd h (by decide)) ?_
            clear hK K
            have q0 := h3.1.cell 0
            have z0 := h3.1.free 0
            simp at q0
            refine takeDX 12 rfl (by kernel_rfl) (fun _ _ _ h => h) (by rfl) (by intro w'; go_simp; try with_reducible rfl) ?_
            refine onlyD 13 rfl (by kernel_rfl) (by rfl) ?_
            intro K hK
            go_simp
            refine hK _ _ (fun h => absurd h (by decide)) ?_
            clear hK K
            have h5 : RqP (w7.setCell ⟨gp, 0, none⟩ (.slice A7 (n5 + 1) c7)) w.heap.size gp #[.slice A7 (n5 + 1) c7, .slice D 8 d, .int .i64 pg] A7 (n5 + 1) c7 D 8 d (cd ++ [⟨rv, 4, 7, y⟩]) pathL := h3.put 0 (.slice A7 (n5 + 1) c7)
            have HD5 := hide (HD3.out.put_other (g := gp) (by omega) (by omega) 0 (.slice A7 (n5 + 1) c7))
            have HB5 := hide (HB3.out.setGe (g := gp) (by omega) 0 (.slice A7 (n5 + 1) c7))
            have hR5 := hR3.put_other (b' := gp) (by omega) 0 (.slice A7 (n5 + 1) c7)
            generalize w7.setCell ⟨gp, 0, none⟩ (.slice A7 (n5 + 1) c7) = w5' at *
            clear h3 HD3 HB3 hR3 q0 z0 h2 HD2 HB2 hR2
            refine doneD (by kernel_rfl) ?_
            go_simp
            have HC5 : Hid (CodeMade (cd ++ [⟨rv, 4, 7, y⟩])) := hide (HC4.out.append (fun x hx => by
              simp only [List.mem_singleton] at hx
              subst hx
              rcases hr with rfl | rfl
              · exact made_load _ (by omega) (by omega) (by omega)
              · exact made_store _ (by omega) (by omega) (by omega)))
            have hlen5 : (cd ++ [(⟨rv, 4, 7, y⟩ : Cd.Ins)]).length + 6 * i ≤ 65 := by rw [List.length_append]; simp only [List.length_cons, List.length_nil]; omega
            have hn7 := own_inss h5.2.2.1
            clear hr
            generalize cd ++ [(⟨rv, 4, 7, y⟩ : Cd.Ins)] = cd7 at *
            go_wp2_with fail
            refine (next_dice C b 8 _ HD5.out (by omega) (by omega)).mono ?_
            rintro e w9 ⟨z, rfl, hz, hD, hB⟩
            have hP9 := h5.bel hB hlt hgb
            have HD9 := hide hD
            have HB9 := hide (HB5.out.trans (hB.mono HB5.out.size))
            have hR9 := hB.obl' hR5 (by omega)
            clear hD hB h5 HD5 HB5 hR5
            by_cases hz0 : z = 0
            · subst hz0
              have k9 := hP9.1.cell 0
              simp at k9
              go_wp2_with fail
              refine (instr_dice C b (n5 + 1) _ HD9.out (by omega)).mono ?_
              rintro e w10 ⟨x, rfl, hx, hD, hB⟩
              simp only [ia]
              have hP10 := hP9.bel hB hlt hgb
              have HD10 := hide hD
              have HB10 := hide (HB9.out.trans (hB.mono HB9.out.size))
              have hR10 := hB.obl' hR9 (by omega)
              clear hD hB hP9 HD9 HB9 hR9 k9
              have HCx : Hid (CodeMade (cd7 ++ [x])) := hide (HC5.out.append (fun y hy => by simp only [List.mem_singleton] at hy; subst hy; rw [hn7]; exact hx))
              obtain ⟨xo, xa, xb, xc⟩ := x
              simp only
              clear hx
              have h2 := (hP10.alloc (.cells #[.int .i64 xo, .int .i64 xa, .int .i64 xb, .int .i64 xc] 31)).alloc (.cells #[.int .i64 xo, .int .i64 xa, .int .i64 xb, .int .i64 xc] 31)
              have HD2 := hide ((HD10.out.alloc (.cells #[.int .i64 xo, .int .i64 xa, .int .i64 xb, .int .i64 xc] 31)).alloc (.cells #[.int .i64 xo, .int .i64 xa, .int .i64 xb, .int .i64 xc] 31))
              have HB2 := hide (HB10.out.trans (Bel.of (b := b) (((Below.refl w.heap.size w10).alloc HB10.out.size (.cells #[.int .i64 xo, .int .i64 xa, .int .i64 xb, .int .i64 xc] 31)).alloc (Nat.le_trans HB10.out.size (by simp)) (.cells #[.int .i64 xo, .int .i64 xa, .int .i64 xb, .int .i64 xc] 31))))
              have hR2 := (hR10.alloc (.cells #[.int .i64 xo, .int .i64 xa, .int .i64 xb, .int .i64 xc] 31)).alloc (.cells #[.int .i64 xo, .int .i64 xa, .int .i64 xb, .int .i64 xc] 31)
              have j0 := (hP10.alloc (.cells #[.int .i64 xo, .int .i64 xa, .int .i64 xb, .int .i64 xc] 31)).1.cell 0
              simp at j0
              have hRow : Row ((w10.alloc (.cells #[.int .i64 xo, .int .i64 xa, .int .i64 xb, .int .i64 xc] 31)).alloc (.cells #[.int .i64 xo, .int .i64 xa, .int .i64 xb, .int .i64 xc] 31)) (w10.heap.size + 2) 4 (some ⟨w10.heap.size + 1, 0, none⟩) 1 [.int .i64 xo, .int .i64 xa, .int .i64 xb, .int .i64 xc] := by
                have := Row.four (w10.alloc (.cells #[.int .i64 xo, .int .i64 xa, .int .i64 xb, .int .i64 xc] 31)) ⟨xo, xa, xb, xc⟩ 31
                simpa using this
              go_wp2_with (at_builtin; refine wpList_append_rd rfl (.tmp 48) (.tmp 50) _ rfl insTy rfl h2.2.2.1 rfl hRow (by simp [Value.oneCell']) (by unfold maxLen; omega) (by omega) h2.2.1 ?_; intro A9 c9 w11 hown9 hgrow9 hat9; rw [iv_snoc cd7 ⟨xo, xa, xb, xc⟩] at hown9; have h3 := h2.withCode hgrow9 hown9; have q0 := h3.1.cell 0; have z0 := h3.1.free 0; simp at q0)
              have h5 : RqP (w11.setCell ⟨gp, 0, none⟩ (.slice A9 ((n5 + 1) + 1) c9)) w.heap.size gp #[.slice A9 ((n5 + 1) + 1) c9, .slice D 8 d, .int .i64 pg] A9 ((n5 + 1) + 1) c9 D 8 d (cd7 ++ [⟨xo, xa, xb, xc⟩]) pathL := h3.put 0 (.slice A9 ((n5 + 1) + 1) c9)
              have HD5 := hide ((HD2.out.grown hgrow9 (fun e => by have := (h2.2.2.1.lt b (by rw [ownBlock_slice]; exact e.symm)).1; omega) (fun j hj => by have := (h2.2.2.1.lt j (by rw [ownBlock_slice]; exact hj)).1; omega)).put_other (g := gp) (by omega) (by omega) 0 (.slice A9 ((n5 + 1) + 1) c9))
              have HB5 := hide ((HB2.out.trans (Bel.of (b := b) (below_own (Below.refl _ _) h2.2.2.1 hgrow9 h2.2.1))).setGe (g := gp) (by omega) 0 (.slice A9 ((n5 + 1) + 1) c9))
              have hR5 := (hR2.grown hgrow9 (hR2.apart h2.2.2.1 (by decide))).put_other (b' := gp) (by omega) 0 (.slice A9 ((n5 + 1) + 1) c9)
              go_roundw
              case rel => exact ⟨i - 1, (n5 + 1) + 1, c9, A9, cd7 ++ [⟨xo, xa, xb, xc⟩], congrArg (Value.int .i64) (by omega), by omega, h5, ⟨HCx, by first | omega | (rw [List.length_append]; simp only [List.length_cons, List.length_nil]; omega)⟩, HD5, HB5, hR5⟩
              case measure => simp [intOf]; omega
            · have ez : (z == 0) = false := by simpa using hz0
              go_wp2
              go_roundw
              case rel => exact ⟨i - 1, (n5 + 1), c7, A7, cd7, congrArg (Value.int .i64) (by omega), by omega, hP9, ⟨HC5, by first | omega | (rw [List.length_append]; simp only [List.length_cons, List.length_nil]; omega)⟩, HD9, HB9, hR9⟩
              case measure => simp [intOf]; omega
          · intro K hK
            go_simp
            refine (next_dice C b 34 _ HDa.out (by omega) (by omega)).mono ?_
            rintro e vb ⟨y, rfl, hy, hD, hB⟩
            have hPb := hPa.bel hB hlt hgb
            have HDb := hide hD
            have HBb := hide (HBa.out.trans (hB.mono HBa.out.size))
            have hRb := hB.obl' hRa (by omega)
            have hsb := Nat.le_trans hsa hB.size
            refine hK _ _ (fun _ => hB.mono hsa) ?_
            clear hK K hD hB hPa HDa HBa hRa
            refine onlyD 2 rfl (by kernel_rfl) (by rfl) ?_
            intro K hK
            go_simp
            refine hK _ _ (fun _ => Bel.of ((Below.refl _ _).alloc hsb _)) ?_
            clear hK K
            have OT7 : Obl (vb.alloc (.cells #[.int .i64 10, .int .i64 11] 3)) vb.heap.size 3 (nv .i64 [10, 11]).toArray := Obl.make vb 3 (nv .i64 [10, 11]).toArray
            have c1 := OT7.num (k := q) hq
            have hgl := OT7.lt
            have hraise : v0.heap.size ≤ (vb.alloc (.cells #[.int .i64 10, .int .i64 11] 3)).heap.size := Nat.le_trans hsb (by simp)
            have hP8 := hPb.alloc (.cells #[.int .i64 10, .int .i64 11] 3)
            have HD8 := hide (HDb.out.alloc (.cells #[.int .i64 10, .int .i64 11] 3))
            have HB8 := hide (HBb.out.trans (Bel.of (b := b) ((Below.refl w.heap.size vb).alloc HBb.out.size (.cells #[.int .i64 10, .int .i64 11] 3))))
            have hR8 := hRb.alloc (.cells #[.int .i64 10, .int .i64 11] 3)
            have hgq : vb.heap.size ≠ b := by omega
            clear OT7 hPb HDb HBb hRb
            generalize vb.alloc (.cells #[.int .i64 10, .int .i64 11] 3) = u8 at *
            have hr : ([10, 11] : List Int)[q]'hq = 10 ∨ ([10, 11] : List Int)[q]'hq = 11 := by
              have : ∀ q : Fin 2, ([10, 11] : List Int)[q] = 10 ∨ ([10, 11] : List Int)[q] = 11 := by decide
              exact this ⟨q, hq⟩
            generalize ([10, 11] : List Int)[q]'hq = rv at *
            refine raiseD (B' := u8.heap.size) hraise _ _ _ _ ?_
            refine takeDX 5 rfl (by kernel_rfl) (fun _ _ _ h => h) (by rfl) (by intro w'; have hqb : (q : Int) < 2 := hqi; go_simp; try with_reducible rfl) ?_
            refine takeD 6 [6, 9, 10, 11, 12, 13] rfl (by kernel_rfl) (fun _ _ _ h => h) (by rfl) (by intro w' hg; have g0 := (hg.cell (p := ⟨vb.heap.size, q, none⟩) (by show vb.heap.size < _; exact hgl) (by show vb.heap.size ≠ b; omega)).trans c1; go_simp; try with_reducible rfl) ?_
            refine takeDX 9 rfl (by kernel_rfl) (fun _ _ _ h => h) (by rfl) (by intro w'; go_simp; try with_reducible rfl) ?_
            refine onlyD 10 rfl (by kernel_rfl) (by rfl) ?_
            intro K hK
            go_simp
            refine hK _ _ (fun _ => Bel.of ((Below.refl _ _).alloc (Nat.le_refl _) _)) ?_
            clear hK K
            have h2 := hP8.alloc (.cells #[.int .i64 rv, .int .i64 4, .int .i64 7, .int .i64 y] 31)
            have HD2 := hide (HD8.out.alloc (.cells #[.int .i64 rv, .int .i64 4, .int .i64 7, .int .i64 y] 31))
            have HB2 := hide (HB8.out.trans (Bel.of (b := b) ((Below.refl w.heap.size u8).alloc HB8.out.size (.cells #[.int .i64 rv, .int .i64 4, .int .i64 7, .int .i64 y] 31))))
            have hR2 := hR8.alloc (.cells #[.int .i64 rv, .int .i64 4, .int .i64 7, .int .i64 y] 31)
            refine onlyD 11 rfl (by kernel_rfl) (by rfl) ?_
            intro K hK
            refine wp_append_rd (.tmp 27) (.tmp 36) _ rfl insTy (A := A3) (n := n5) (c := c3) rfl h2.2.2.1 (B := u8.heap.size + 1) (S := some ⟨u8.heap.size, 0, none⟩) (m := 1) (d := 1) (news := [.int .i64 rv, .int .i64 4, .int .i64 7, .int .i64 y]) rfl (Row.four u8 ⟨rv, 4, 7, y⟩ _) (by simp [Value.oneCell']) (by unfold maxLen; omega) (by omega) h2.2.1 ?_
            intro A7 c7 w7 hown7 hgrow7 hat7
            rw [iv_snoc cd ⟨rv, 4, 7, y⟩] at hown7
            have h3 := h2.withCode hgrow7 hown7
            have HD3 := hide (HD2.out.grown hgrow7 (fun e => by have := (h2.2.2.1.lt b (by rw [ownBlock_slice]; exact e.symm)).1; omega) (fun j hj => by have := (h2.2.2.1.lt j (by rw [ownBlock_slice]; exact hj)).1; omega))
            have HB3 := hide (HB2.out.trans (Bel.of (b := b) (below_own (Below.refl _ _) h2.2.2.1 hgrow7 h2.2.1)))
            have hR3 := hR2.grown hgrow7 (hR2.apart h2.2.2.1 (by decide))
            refine hK _ _ (fun h => absurd h (by decide)) ?_
            clear hK K
            have q0 := h3.1.cell 0
            have z0 := h3.1.free 0
            simp at q0
            refine takeDX 12 rfl (by kernel_rfl) (fun _ _ _ h => h) (by rfl) (by intro w'; go_simp; try with_reducible rfl) ?_
            refine onlyD 13 rfl (by kernel_rfl) (by rfl) ?_
            intro K hK
            go_simp
            refine hK _ _ (fun h => absurd h (by decide)) ?_
            clear hK K
            have h5 : RqP (w7.setCell ⟨gp, 0, none⟩ (.slice A7 (n5 + 1) c7)) w.heap.size gp #[.slice A7 (n5 + 1) c7, .slice D 8 d, .int .i64 pg] A7 (n5 + 1) c7 D 8 d (cd ++ [⟨rv, 4, 7, y⟩]) pathL := h3.put 0 (.slice A7 (n5 + 1) c7)
            have HD5 := hide (HD3.out.put_other (g := gp) (by omega) (by omega) 0 (.slice A7 (n5 + 1) c7))
            have HB5 := hide (HB3.out.setGe (g := gp) (by omega) 0 (.slice A7 (n5 + 1) c7))
            have hR5 := hR3.put_other (b' := gp) (by omega) 0 (.slice A7 (n5 + 1) c7)
            generalize w7.setCell ⟨gp, 0, none⟩ (.slice A7 (n5 + 1) c7) = w5' at *
            clear h3 HD3 HB3 hR3 q0 z0 h2 HD2 HB2 hR2
            refine doneD (by kernel_rfl) ?_
            go_simp
            have HC5 : Hid (CodeMade (cd ++ [⟨rv, 4, 7, y⟩])) := hide (HC4.out.append (fun x hx => by
              simp only [List.mem_singleton] at hx
              subst hx
              rcases hr with rfl | rfl
              · exact made_load _ (by omega) (by omega) (by omega)
              · exact made_store _ (by omega) (by omega) (by omega)))
            have hlen5 : (cd ++ [(⟨rv, 4, 7, y⟩ : Cd.Ins)]).length + 6 * i ≤ 65 := by rw [List.length_append]; simp only [List.length_cons, List.length_nil]; omega
            have hn7 := own_inss h5.2.2.1
            clear hr
            generalize cd ++ [(⟨rv, 4, 7, y⟩ : Cd.Ins)] = cd7 at *
            go_wp2_with fail
            refine (next_dice C b 8 _ HD5.out (by omega) (by omega)).mono ?_
            rintro e w9 ⟨z, rfl, hz, hD, hB⟩
            have hP9 := h5.bel hB hlt hgb
            have HD9 := hide hD
            have HB9 := hide (HB5.out.trans (hB.mono HB5.out.size))
            have hR9 := hB.obl' hR5 (by omega)
            clear hD hB h5 HD5 HB5 hR5
            by_cases hz0 : z = 0
            · subst hz0
              have k9 := hP9.1.cell 0
              simp at k9
              go_wp2_with fail
              refine (instr_dice C b (n5 + 1) _ HD9.out (by omega)).mono ?_
              rintro e w10 ⟨x, rfl, hx, hD, hB⟩
              simp only [ia]
              have hP10 := hP9.bel hB hlt hgb
              have HD10 := hide hD
              have HB10 := hide (HB9.out.trans (hB.mono HB9.out.size))
              have hR10 := hB.obl' hR9 (by omega)
              clear hD hB hP9 HD9 HB9 hR9 k9
              have HCx : Hid (CodeMade (cd7 ++ [x])) := hide (HC5.out.append (fun y hy => by simp only [List.mem_singleton] at hy; subst hy; rw [hn7]; exact hx))
              obtain ⟨xo, xa, xb, xc⟩ := x
              simp only
              clear hx
              have h2 := (hP10.alloc (.cells #[.int .i64 xo, .int .i64 xa, .int .i64 xb, .int .i64 xc] 31)).alloc (.cells #[.int .i64 xo, .int .i64 xa, .int .i64 xb, .int .i64 xc] 31)
              have HD2 := hide ((HD10.out.alloc (.cells #[.int .i64 xo, .int .i64 xa, .int .i64 xb, .int .i64 xc] 31)).alloc (.cells #[.int .i64 xo, .int .i64 xa, .int .i64 xb, .int .i64 xc] 31))
              have HB2 := hide (HB10.out.trans (Bel.of (b := b) (((Below.refl w.heap.size w10).alloc HB10.out.size (.cells #[.int .i64 xo, .int .i64 xa, .int .i64 xb, .int .i64 xc] 31)).alloc (Nat.le_trans HB10.out.size (by simp)) (.cells #[.int .i64 xo, .int .i64 xa, .int .i64 xb, .int .i64 xc] 31))))
              have hR2 := (hR10.alloc (.cells #[.int .i64 xo, .int .i64 xa, .int .i64 xb, .int .i64 xc] 31)).alloc (.cells #[.int .i64 xo, .int .i64 xa, .int .i64 xb, .int .i64 xc] 31)
              have j0 := (hP10.alloc (.cells #[.int .i64 xo, .int .i64 xa, .int .i64 xb, .int .i64 xc] 31)).1.cell 0
              simp at j0
              have hRow : Row ((w10.alloc (.cells #[.int .i64 xo, .int .i64 xa, .int .i64 xb, .int .i64 xc] 31)).alloc (.cells #[.int .i64 xo, .int .i64 xa, .int .i64 xb, .int .i64 xc] 31)) (w10.heap.size + 2) 4 (some ⟨w10.heap.size + 1, 0, none⟩) 1 [.int .i64 xo, .int .i64 xa, .int .i64 xb, .int .i64 xc] := by
                have := Row.four (w10.alloc (.cells #[.int .i64 xo, .int .i64 xa, .int .i64 xb, .int .i64 xc] 31)) ⟨xo, xa, xb, xc⟩ 31
                simpa using this
              go_wp2_with (at_builtin; refine wpList_append_rd rfl (.tmp 48) (.tmp 50) _ rfl insTy rfl h2.2.2.1 rfl hRow (by simp [Value.oneCell']) (by unfold maxLen; omega) (by omega) h2.2.1 ?_; intro A9 c9 w11 hown9 hgrow9 hat9; rw [iv_snoc cd7 ⟨xo, xa, xb, xc⟩] at hown9; have h3 := h2.withCode hgrow9 hown9; have q0 := h3.1.cell 0; have z0 := h3.1.free 0; simp at q0)
              have h5 : RqP (w11.setCell ⟨gp, 0, none⟩ (.slice A9 ((n5 + 1) + 1) c9)) w.heap.size gp #[.slice A9 ((n5 + 1) + 1) c9, .slice D 8 d, .int .i64 pg] A9 ((n5 + 1) + 1) c9 D 8 d (cd7 ++ [⟨xo, xa, xb, xc⟩]) pathL := h3.put 0 (.slice A9 ((n5 + 1) + 1) c9)
              have HD5 := hide ((HD2.out.grown hgrow9 (fun e => by have := (h2.2.2.1.lt b (by rw [ownBlock_slice]; exact e.symm)).1; omega) (fun j hj => by have := (h2.2.2.1.lt j (by rw [ownBlock_slice]; exact hj)).1; omega)).put_other (g := gp) (by omega) (by omega) 0 (.slice A9 ((n5 + 1) + 1) c9))
              have HB5 := hide ((HB2.out.trans (Bel.of (b := b) (below_own (Below.refl _ _) h2.2.2.1 hgrow9 h2.2.1))).setGe (g := gp) (by omega) 0 (.slice A9 ((n5 + 1) + 1) c9))
              have hR5 := (hR2.grown hgrow9 (hR2.apart h2.2.2.1 (by decide))).put_other (b' := gp) (by omega) 0 (.slice A9 ((n5 + 1) + 1) c9)
              go_roundw
              case rel => exact ⟨i - 1, (n5 + 1) + 1, c9, A9, cd7 ++ [⟨xo, xa, xb, xc⟩], congrArg (Value.int .i64) (by omega), by omega, h5, ⟨HCx, by first | omega | (rw [List.length_append]; simp only [List.length_cons, List.length_nil]; omega)⟩, HD5, HB5, hR5⟩
              case measure => simp [intOf]; omega
            · have ez : (z == 0) = false := by simpa using hz0
              go_wp2
              go_roundw
              case rel => exact ⟨i - 1, (n5 + 1), c7, A7, cd7, congrArg (Value.int .i64) (by omega), by omega, hP9, ⟨HC5, by first | omega | (rw [List.length_append]; simp only [List.length_cons, List.length_nil]; omega)⟩, HD9, HB9, hR9⟩
              case measure => simp [intOf]; omega
      · have ev : (v == 0) = false := by simpa using hv0
        clear hv
        go_wp2_with fail
        refine (next_dice C b 8 _ HD6.out (by omega) (by omega)).mono ?_
        rintro e w9 ⟨z, rfl, hz, hD, hB⟩
        have hP9 := hP6.bel hB hlt hgb
        have HD9 := hide hD
        have HB9 := hide (HB6.out.trans (hB.mono HB6.out.size))
        have hR9 := hB.obl' hR6 (by omega)
        clear hD hB hP6 HD6 HB6 hR6
        by_cases hz0 : z = 0
        · subst hz0
          have k9 := hP9.1.cell 0
          simp at k9
          go_wp2_with fail
          refine (instr_dice C b n5 _ HD9.out (by omega)).mono ?_
          rintro e w10 ⟨x, rfl, hx, hD, hB⟩
          simp only [ia]
          have hP10 := hP9.bel hB hlt hgb
          have HD10 := hide hD
          have HB10 := hide (HB9.out.trans (hB.mono HB9.out.size))
          have hR10 := hB.obl' hR9 (by omega)
          clear hD hB hP9 HD9 HB9 hR9 k9
          have HCx : Hid (CodeMade (cd ++ [x])) := hide (HC4.out.append (fun y hy => by simp only [List.mem_singleton] at hy; subst hy; rw [hn5]; exact hx))
          obtain ⟨xo, xa, xb, xc⟩ := x
          simp only
          clear hx
          have h2 := (hP10.alloc (.cells #[.int .i64 xo, .int .i64 xa, .int .i64 xb, .int .i64 xc] 31)).alloc (.cells #[.int .i64 xo, .int .i64 xa, .int .i64 xb, .int .i64 xc] 31)
          have HD2 := hide ((HD10.out.alloc (.cells #[.int .i64 xo, .int .i64 xa, .int .i64 xb, .int .i64 xc] 31)).alloc (.cells #[.int .i64 xo, .int .i64 xa, .int .i64 xb, .int .i64 xc] 31))
          have HB2 := hide (HB10.out.trans (Bel.of (b := b) (((Below.refl w.heap.size w10).alloc HB10.out.size (.cells #[.int .i64 xo, .int .i64 xa, .int .i64 xb, .int .i64 xc] 31)).alloc (Nat.le_trans HB10.out.size (by simp)) (.cells #[.int .i64 xo, .int .i64 xa, .int .i64 xb, .int .i64 xc] 31))))
          have hR2 := (hR10.alloc (.cells #[.int .i64 xo, .int .i64 xa, .int .i64 xb, .int .i64 xc] 31)).alloc (.cells #[.int .i64 xo, .int .i64 xa, .int .i64 xb, .int .i64 xc] 31)
          have j0 := (hP10.alloc (.cells #[.int .i64 xo, .int .i64 xa, .int .i64 xb, .int .i64 xc] 31)).1.cell 0
          simp at j0
          have hRow : Row ((w10.alloc (.cells #[.int .i64 xo, .int .i64 xa, .int .i64 xb, .int .i64 xc] 31)).alloc (.cells #[.int .i64 xo, .int .i64 xa, .int .i64 xb, .int .i64 xc] 31)) (w10.heap.size + 2) 4 (some ⟨w10.heap.size + 1, 0, none⟩) 1 [.int .i64 xo, .int .i64 xa, .int .i64 xb, .int .i64 xc] := by
            have := Row.four (w10.alloc (.cells #[.int .i64 xo, .int .i64 xa, .int .i64 xb, .int .i64 xc] 31)) ⟨xo, xa, xb, xc⟩ 31
            simpa using this
          go_wp2_with (at_builtin; refine wpList_append_rd rfl (.tmp 48) (.tmp 50) _ rfl insTy rfl h2.2.2.1 rfl hRow (by simp [Value.oneCell']) (by unfold maxLen; omega) (by omega) h2.2.1 ?_; intro A9 c9 w11 hown9 hgrow9 hat9; rw [iv_snoc cd ⟨xo, xa, xb, xc⟩] at hown9; have h3 := h2.withCode hgrow9 hown9; have q0 := h3.1.cell 0; have z0 := h3.1.free 0; simp at q0)
          have h5 : RqP (w11.setCell ⟨gp, 0, none⟩ (.slice A9 (n5 + 1) c9)) w.heap.size gp #[.slice A9 (n5 + 1) c9, .slice D 8 d, .int .i64 pg] A9 (n5 + 1) c9 D 8 d (cd ++ [⟨xo, xa, xb, xc⟩]) pathL := h3.put 0 (.slice A9 (n5 + 1) c9)
          have HD5 := hide ((HD2.out.grown hgrow9 (fun e => by have := (h2.2.2.1.lt b (by rw [ownBlock_slice]; exact e.symm)).1; omega) (fun j hj => by have := (h2.2.2.1.lt j (by rw [ownBlock_slice]; exact hj)).1; omega)).put_other (g := gp) (by omega) (by omega) 0 (.slice A9 (n5 + 1) c9))
          have HB5 := hide ((HB2.out.trans (Bel.of (b := b) (below_own (Below.refl _ _) h2.2.2.1 hgrow9 h2.2.1))).setGe (g := gp) (by omega) 0 (.slice A9 (n5 + 1) c9))
          have hR5 := (hR2.grown hgrow9 (hR2.apart h2.2.2.1 (by decide))).put_other (b' := gp) (by omega) 0 (.slice A9 (n5 + 1) c9)
          go_roundw
          case rel => exact ⟨i - 1, n5 + 1, c9, A9, cd ++ [⟨xo, xa, xb, xc⟩], congrArg (Value.int .i64) (by omega), by omega, h5, ⟨HCx, by first | omega | (rw [List.length_append]; simp only [List.length_cons, List.length_nil]; omega)⟩, HD5, HB5, hR5⟩
          case measure => simp [intOf]; omega
        · have ez : (z == 0) = false := by simpa using hz0
          go_wp2
          go_roundw
          case rel => exact ⟨i - 1, n5, c3, A3, cd, congrArg (Value.int .i64) (by omega), by omega, hP9, ⟨HC4, by first | omega | (rw [List.length_append]; simp only [List.length_cons, List.length_nil]; omega)⟩, HD9, HB9, hR9⟩
          case measure => simp [intOf]; omega
    · obtain rfl : i = 0 := by omega
      go_wp2_with fail
      refine (next_dice C b 4 _ HD.out (by omega) (by omega)).mono ?_
      rintro e w6 ⟨v, rfl, hv, hD, hB⟩
      have hP6 := hP.bel hB hlt hgb
      have HD6 := hide hD
      have HB6 := hide (HB.out.trans (hB.mono HB.out.size))
      have hR6 := hB.obl' hR (by omega)
      clear hD hB hP HD HB hR k0
      by_cases hv0 : 0 < v
      · have hPa := hP6.alloc (.cells #[.int .i64 8, .int .i64 0, .int .i64 0, .int .i64 0] 31)
        have HDa := hide (HD6.out.alloc (.cells #[.int .i64 8, .int .i64 0, .int .i64 0, .int .i64 0] 31))
        have HBa := hide (HB6.out.trans (Bel.of (b := b) ((Below.refl w.heap.size w6).alloc HB6.out.size (.cells #[.int .i64 8, .int .i64 0, .int .i64 0, .int .i64 0] 31))))
        have hRa := hR6.alloc (.cells #[.int .i64 8, .int .i64 0, .int .i64 0, .int .i64 0] 31)
        have k0 := hP6.1.cell 0
        simp at k0
        go_wp2_with (at_builtin; refine wpList_append_rd rfl (.tmp 57) (.tmp 59) _ rfl insTy rfl hPa.2.2.1 rfl (Row.four w6 ⟨8, 0, 0, 0⟩ _) (by simp [Value.oneCell']) (by unfold maxLen; omega) (by omega) hPa.2.1 ?_; intro A3 c3 w8 hown3 hgrow3 hat3; rw [iv_snoc code ⟨8, 0, 0, 0⟩] at hown3; have h3 := hPa.withCode hgrow3 hown3; have q0 := h3.1.cell 0; have z0 := h3.1.free 0; simp at q0; have h4 := h3.put 0 (.slice A3 (n + 1) c3); have j0 := h4.1.cell 0; have j1 := h4.1.cell 1; have j2 := h4.1.cell 2; simp at j0 j1 j2; have hR8 := (hRa.grown hgrow3 (hRa.apart hPa.2.2.1 (by decide))).put_other (b' := gp) (by omega) 0 (.slice A3 (n + 1) c3); have p0 := hR8.cell 0; have p1 := hR8.cell 1; have p2 := hR8.cell 2; simp at p0 p1 p2; have y0 := hR8.free 0; have y1 := hR8.free 1; have y2 := hR8.free 2)
        have HD8 := hide ((HDa.out.grown hgrow3 (fun e => by have := (hPa.2.2.1.lt b (by rw [ownBlock_slice]; exact e.symm)).1; omega) (fun j hj => by have := (hPa.2.2.1.lt j (by rw [ownBlock_slice]; exact hj)).1; omega)).put_other (g := gp) (by omega) (by omega) 0 (.slice A3 (n + 1) c3))
        have HB8 := hide ((HBa.out.trans (Bel.of (b := b) (below_own (Below.refl _ _) hPa.2.2.1 hgrow3 hPa.2.1))).setGe (g := gp) (by omega) 0 (.slice A3 (n + 1) c3))
        have HCj : Hid (CodeMade (code ++ [⟨8, 0, 0, 0⟩])) := hide (HC.out.append (fun x hx => by simp only [List.mem_singleton] at hx; subst hx; exact made_jump' _ (by omega) ⟨by omega, by omega⟩))
        clear q0 z0 j0 j1 j2 p0 p1 p2 y0 y1 y2
        have j0 := h4.1.cell 0
        have j1 := h4.1.cell 1
        have j2 := h4.1.cell 2
        simp at j0 j1 j2
        have p0 := hR8.cell 0
        have y0 := hR8.free 0
        have p1 := hR8.cell 1
        have y1 := hR8.free 1
        have p2 := hR8.cell 2
        have y2 := hR8.free 2
        simp at p0 p1 p2
        have hne1 : (Value.slice A3 (n + 1) c3).ownBlock ≠ some w.heap.size := by rw [ownBlock_slice]; exact fun e => hR8.apart h4.2.2.1 (by decide) e.symm
        have hne2 : (Value.slice D 8 d).ownBlock ≠ some w.heap.size := by rw [ownBlock_slice]; exact fun e => hR8.apart h4.2.2.2 (by decide) e.symm
        have OF : Obl ((((w8.setCell ⟨gp, 0, none⟩ (.slice A3 (n + 1) c3)).setCell ⟨w.heap.size, 0, none⟩ (.slice A3 (n + 1) c3)).setCell ⟨w.heap.size, 1, none⟩ (.slice D 8 d)).setCell ⟨w.heap.size, 2, none⟩ (.int .i64 pg)) w.heap.size 28 #[.slice A3 (n + 1) c3, .slice D 8 d, .int .i64 pg] := (((hR8.put 0 (.slice A3 (n + 1) c3)).put 1 (.slice D 8 d)).put 2 (.int .i64 pg))
        have HDF := hide (((HD8.out.put_other (g := w.heap.size) (by omega) hC 0 (.slice A3 (n + 1) c3)).put_other (g := w.heap.size) (by omega) hC 1 (.slice D 8 d)).put_other (g := w.heap.size) (by omega) hC 2 (.int .i64 pg))
        have HBF := hide (((HB8.out.setGe (g := w.heap.size) (Nat.le_refl _) 0 (.slice A3 (n + 1) c3)).setGe (g := w.heap.size) (Nat.le_refl _) 1 (.slice D 8 d)).setGe (g := w.heap.size) (Nat.le_refl _) 2 (.int .i64 pg))
        have HW1 : Hid (((((w8.setCell ⟨gp, 0, none⟩ (.slice A3 (n + 1) c3)).setCell ⟨w.heap.size, 0, none⟩ (.slice A3 (n + 1) c3)).setCell ⟨w.heap.size, 1, none⟩ (.slice D 8 d)).setCell ⟨w.heap.size, 2, none⟩ (.int .i64 pg)).ownsRow w.heap.size 31 4 (.slice A3 (n + 1) c3) (n + 1) (iv (code ++ [⟨8, 0, 0, 0⟩]))) := hide (ownsRow_setCell_other (ownsRow_setCell_other (ownsRow_setCell_other h4.2.2.1 hne1 _) hne1 _) hne1 _)
        have HW2 : Hid (((((w8.setCell ⟨gp, 0, none⟩ (.slice A3 (n + 1) c3)).setCell ⟨w.heap.size, 0, none⟩ (.slice A3 (n + 1) c3)).setCell ⟨w.heap.size, 1, none⟩ (.slice D 8 d)).setCell ⟨w.heap.size, 2, none⟩ (.int .i64 pg)).ownsRow w.heap.size 9 1 (.slice D 8 d) 8 (sv pathL)) := hide (ownsRow_setCell_other (ownsRow_setCell_other (ownsRow_setCell_other h4.2.2.2 hne2 _) hne2 _) hne2 _)
        refine bodyPost_ret (results_cell_1 rfl _ (b := w.heap.size) rfl OF Try.underlying28 rfl prSize) rfl ?_
        exact ⟨A3, (n + 1), c3, D, 8, d, ⟨(code ++ [⟨8, 0, 0, 0⟩]), pathL, pg⟩, rfl, HW1.out, HW2.out, ⟨HCj.out, by show (code ++ [(⟨8, 0, 0, 0⟩ : Cd.Ins)]).length ≤ 100; rw [List.length_append]; simp only [List.length_cons, List.length_nil]; omega, rfl, by show 0 ≤ pg ∧ pg ≤ 2; omega⟩, HDF.out, HBF.out⟩
      · skip
        have j0 := hP6.1.cell 0
        have j1 := hP6.1.cell 1
        have j2 := hP6.1.cell 2
        simp at j0 j1 j2
        have p0 := hR6.cell 0
        have y0 := hR6.free 0
        have p1 := hR6.cell 1
        have y1 := hR6.free 1
        have p2 := hR6.cell 2
        have y2 := hR6.free 2
        simp at p0 p1 p2
        have hne1 : (Value.slice A n c).ownBlock ≠ some w.heap.size := by rw [ownBlock_slice]; exact fun e => hR6.apart hP6.2.2.1 (by decide) e.symm
        have hne2 : (Value.slice D 8 d).ownBlock ≠ some w.heap.size := by rw [ownBlock_slice]; exact fun e => hR6.apart hP6.2.2.2 (by decide) e.symm
        have OF : Obl (((w6.setCell ⟨w.heap.size, 0, none⟩ (.slice A n c)).setCell ⟨w.heap.size, 1, none⟩ (.slice D 8 d)).setCell ⟨w.heap.size, 2, none⟩ (.int .i64 pg)) w.heap.size 28 #[.slice A n c, .slice D 8 d, .int .i64 pg] := (((hR6.put 0 (.slice A n c)).put 1 (.slice D 8 d)).put 2 (.int .i64 pg))
        have HDF := hide (((HD6.out.put_other (g := w.heap.size) (by omega) hC 0 (.slice A n c)).put_other (g := w.heap.size) (by omega) hC 1 (.slice D 8 d)).put_other (g := w.heap.size) (by omega) hC 2 (.int .i64 pg))
        have HBF := hide (((HB6.out.setGe (g := w.heap.size) (Nat.le_refl _) 0 (.slice A n c)).setGe (g := w.heap.size) (Nat.le_refl _) 1 (.slice D 8 d)).setGe (g := w.heap.size) (Nat.le_refl _) 2 (.int .i64 pg))
        have HW1 : Hid ((((w6.setCell ⟨w.heap.size, 0, none⟩ (.slice A n c)).setCell ⟨w.heap.size, 1, none⟩ (.slice D 8 d)).setCell ⟨w.heap.size, 2, none⟩ (.int .i64 pg)).ownsRow w.heap.size 31 4 (.slice A n c) n (iv code)) := hide (ownsRow_setCell_other (ownsRow_setCell_other (ownsRow_setCell_other hP6.2.2.1 hne1 _) hne1 _) hne1 _)
        have HW2 : Hid ((((w6.setCell ⟨w.heap.size, 0, none⟩ (.slice A n c)).setCell ⟨w.heap.size, 1, none⟩ (.slice D 8 d)).setCell ⟨w.heap.size, 2, none⟩ (.int .i64 pg)).ownsRow w.heap.size 9 1 (.slice D 8 d) 8 (sv pathL)) := hide (ownsRow_setCell_other (ownsRow_setCell_other (ownsRow_setCell_other hP6.2.2.2 hne2 _) hne2 _) hne2 _)
        go_wp2
        refine bodyPost_ret (results_cell_1 rfl _ (b := w.heap.size) rfl OF Try.underlying28 rfl prSize) rfl ?_
        exact ⟨A, n, c, D, 8, d, ⟨code, pathL, pg⟩, rfl, HW1.out, HW2.out, ⟨HC.out, by show code.length ≤ 100; omega, rfl, by show 0 ≤ pg ∧ pg ≤ 2; omega⟩, HDF.out, HBF.out⟩
end Go.Proofs.Ytkcegdnjgkideaa
