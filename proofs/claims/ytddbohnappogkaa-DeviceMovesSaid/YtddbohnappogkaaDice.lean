/- What makes inputs of the statements: dice and what is thrown with them: contracts that say only how great. -/
import Derived.Test.YtddbohnappogkaaBel
import Derived.Test.YtddbohnappogkaaIns
import Derived.Test.YtddbohnappogkaaRowMem
namespace Go.Proofs.Ytddbohnappogkaa
open Go.RowKit


/-- Dice at block b, over bytes that lie below C. -/
def Dice (w : World) (C b : Nat) : Prop := ∃ A n c l, Obl w b 66 #[.slice A n c] ∧ Bytes w C A n l ∧ (n ≤ c ∧ c ≤ 9223372036854775807) ∧ C ≤ b
theorem Dice.lt {w : World} {C b : Nat} (h : Dice w C b) : b < w.heap.size := by
  obtain ⟨A, n, c, l, h1, _⟩ := h
  exact h1.lt
theorem Dice.below {w w' : World} {C b : Nat} (h : Dice w C b) (hb : Below w.heap.size w w') : Dice w' C b := by
  have hlt := h.lt
  obtain ⟨A, n, c, l, h1, h2, h3, h4⟩ := h
  exact ⟨A, n, c, l, h1.below hb h1.lt, h2.belowLe hb (by omega), h3, h4⟩
theorem Dice.alloc {w : World} {C b : Nat} (h : Dice w C b) (o : Obj) : Dice (w.alloc o) C b := h.below ((Below.refl _ _).alloc (Nat.le_refl _) _)
/-- A number from lo to hi, and the dice. -/
def Thrown (lo hi : Int) (C b : Nat) (w : World) (e : Ending) (w' : World) : Prop := ∃ v : Int, e = .returned (.int .i64 v) ∧ (lo ≤ v ∧ v ≤ hi) ∧ Dice w' C b ∧ Bel w.heap.size b w w'

theorem Bytes.tail {w : World} {B b o n : Nat} {l : List UInt8} (h : Bytes w B (some ⟨b, o, none⟩) (n + 1) l) : Bytes w B (some ⟨b, o + 1, none⟩) n (l.drop 1) := by
  have hl := h.1
  refine ⟨by rw [List.length_drop]; omega, ⟨by rw [bv_length, List.length_drop]; omega, by simp, ?_⟩⟩
  have := h.2.rd.drop_ 1
  simpa [bv] using this
theorem tmod_range {x n : Int} (hx : 0 ≤ x) (hn : 0 < n) : 0 ≤ x.tmod n ∧ x.tmod n < n := ⟨Int.tmod_nonneg n hx, Int.tmod_lt_of_pos x hn⟩

set_option maxRecDepth 100000 in
set_option maxHeartbeats 2000000 in
theorem next_dice (C b : Nat) (n : Int) (w : World) (h : Dice w C b) (h1 : 1 ≤ n) (h2 : n ≤ 1000000) :
    Calls Try.prog 18 #[.pointer (some ⟨b, 0, none⟩), .int .i64 n] w (Thrown 0 (n - 1) C b w) := by
  have HD := hide h
  obtain ⟨A, q, c, l, O, hB, ⟨hqc, hc63⟩, hCb⟩ := h
  have hlt := O.lt
  have k0 := O.cell 0
  have z0 := O.free 0
  simp at k0
  by_cases hq : q = 0
  · subst hq
    go_enter Try.func18, Try.ntmps18
    go_wp2
    go_ret
    exact ⟨0, rfl, by omega, HD.out, Bel.refl _ _ _⟩
  · have eq0 : ¬ (q : Int) = 0 := by omega
    have eq0' : ((q : Int) == 0) = false := by simp; omega
    by_cases hn1 : n ≤ 1
    · go_enter Try.func18, Try.ntmps18
      go_wp2
      go_ret
      exact ⟨0, rfl, by omega, HD.out, Bel.refl _ _ _⟩
    · obtain ⟨p, rfl⟩ : ∃ p, q = p + 1 := ⟨q - 1, by omega⟩
      obtain ⟨bb, oo, hl0, rfl, hbb, hcb⟩ := hB.at_ (k := 0) (by omega)
      rw [Nat.add_zero] at hcb
      have hx := (l[0]'hl0).toNat_lt
      generalize (l[0]'hl0).toNat = x at *
      have hr := tmod_range (x := (x : Int)) (n := n) (by omega) (by omega)
      have HR := hide hr
      obtain ⟨AR, hAR⟩ : ∃ AR : Option Addr, (if c = 1 then some (⟨bb, oo, none⟩ : Addr) else some (⟨bb, oo + 1, none⟩ : Addr)) = AR := ⟨_, rfl⟩
      have hT : Bytes w C AR p (l.drop 1) := by
        by_cases hc : c = 1
        · have hp0 : p = 0 := by omega
          subst hp0
          have : l.drop 1 = [] := List.eq_nil_of_length_eq_zero (by rw [List.length_drop]; have := hB.1; omega)
          rw [this]
          exact Bytes.nil
        · rw [if_neg hc] at hAR
          subst hAR
          exact hB.tail
      have h1p : (1 : Int) ≤ (p : Int) + 1 := by omega
      have HF : Hid (Dice (w.setCell ⟨b, 0, none⟩ (.slice AR p (c - 1))) C b) := hide ⟨AR, p, c - 1, l.drop 1, O.put 0 _, hT.below ((Below.refl _ _).setCell (p := ⟨b, 0, none⟩) hCb _), ⟨by omega, by omega⟩, hCb⟩
      have hBl : Bel w.heap.size b w (w.setCell ⟨b, 0, none⟩ (.slice AR p (c - 1))) := (Bel.refl _ _ _).put 0 _
      clear hT hB HD hr hl0
      go_enter Try.func18, Try.ntmps18
      go_wp2
      go_ret
      exact ⟨(x : Int) % n, rfl, ⟨Int.emod_nonneg _ (by omega), by have := Int.emod_lt_of_pos (x : Int) (b := n) (by omega); omega⟩, HF.out, hBl⟩

theorem Thrown.wide {lo hi lo' hi' : Int} {C b : Nat} {w w' : World} {e : Ending} (h : Thrown lo hi C b w e w') (h1 : lo' ≤ lo) (h2 : hi ≤ hi') : Thrown lo' hi' C b w e w' := by
  obtain ⟨v, he, hv, h3⟩ := h
  exact ⟨v, he, by omega, h3⟩
/-- A list of numbers in a block of its own. -/
theorem Obl.num {w : World} {g : Nat} {t : TypeId} {L : List Int} (h : Obl w g t (nv .i64 L).toArray) {k : Nat} (hk : k < L.length) : w.cell? ⟨g, k, none⟩ = some (.int .i64 L[k]) := by
  rw [h.cell, List.getElem?_toArray, nv_at hk]
def wordL : List Int := [0, 1, 2, 3, 1, 0, 5, 16, -1, 200, 14, 9]
set_option maxRecDepth 100000 in
set_option maxHeartbeats 1000000 in
theorem word_dice (C b : Nat) (w : World) (h : Dice w C b) : Calls Try.prog 26 #[.pointer (some ⟨b, 0, none⟩)] w (Thrown (-1) 200 C b w) := by
  have O : Obl (w.alloc (.cells #[.int .i64 0, .int .i64 1, .int .i64 2, .int .i64 3, .int .i64 1, .int .i64 0, .int .i64 5, .int .i64 16, .int .i64 (-1), .int .i64 200, .int .i64 14, .int .i64 9] 3)) w.heap.size 3 (nv .i64 wordL).toArray := Obl.make w 3 (nv .i64 wordL).toArray
  have hlt := h.lt
  have hD0 := h.alloc (.cells #[.int .i64 0, .int .i64 1, .int .i64 2, .int .i64 3, .int .i64 1, .int .i64 0, .int .i64 5, .int .i64 16, .int .i64 (-1), .int .i64 200, .int .i64 14, .int .i64 9] 3)
  have HB0 := hide (Bel.of (b := b) ((Below.refl w.heap.size w).alloc (Nat.le_refl _) (.cells #[.int .i64 0, .int .i64 1, .int .i64 2, .int .i64 3, .int .i64 1, .int .i64 0, .int .i64 5, .int .i64 16, .int .i64 (-1), .int .i64 200, .int .i64 14, .int .i64 9] 3)))
  have HD := hide hD0
  have HO := hide O
  clear h hD0 O
  go_enter Try.func26, Try.ntmps26
  go_wp2_with fail
  refine (next_dice C b 12 _ HD.out (by omega) (by omega)).mono ?_
  rintro e w1 ⟨v, rfl, hv, hD, hB⟩
  obtain ⟨k, rfl⟩ := Int.eq_ofNat_of_zero_le hv.1
  have hk : k < wordL.length := by show k < 12; omega
  have O1 := hB.obl' HO.out (by omega)
  have c1 := O1.num hk
  have hr : -1 ≤ wordL[k] ∧ wordL[k] ≤ 200 := by
    have : ∀ k : Fin 12, -1 ≤ wordL[k] ∧ wordL[k] ≤ 200 := by decide
    exact this ⟨k, hk⟩
  have H1 := hide hD
  have H2 := hide (HB0.out.then hB)
  have hk12 : (k : Int) < 12 := by omega
  clear hD hB O1
  generalize wordL[k] = r at *
  go_wp2
  go_ret
  exact ⟨r, rfl, hr, H1.out, H2.out⟩

theorem Bytes.takeN {w : World} {B n : Nat} {A : Option Addr} {l : List UInt8} (h : Bytes w B A n l) {k : Nat} (hk : k ≤ n) : Bytes w B A k (l.take k) := by
  have hl := h.1
  refine ⟨by rw [List.length_take]; omega, ⟨by rw [bv_length, List.length_take]; omega, fun hA => ?_, ?_⟩⟩
  · have := h.2.2.1 hA
    omega
  · have := h.2.rd.take_ k
    simpa [bv] using this

/-- Dice, made of a row that came in. -/
def NewPost (w : World) (e : Ending) (w' : World) : Prop := e = .returned (.pointer (some ⟨w.heap.size, 0, none⟩)) ∧ Dice w' w.heap.size w.heap.size ∧ Below w.heap.size w w' ∧ w'.heap.size = w.heap.size + 1
set_option maxHeartbeats 1000000 in
theorem new_dice (C : Nat) (A : Option Addr) (n c : Nat) (l : List UInt8) (w : World) (h : Bytes w C A n l) (hC : C ≤ w.heap.size) (hn : n ≤ c ∧ c ≤ 9223372036854775807) :
    Calls Try.prog 9 #[.slice A n c] w (NewPost w) := by
  by_cases h4 : n ≤ 400
  · have hD : Dice (w.alloc (.cells #[.slice A n c] 66)) w.heap.size w.heap.size := ⟨A, n, c, l, Obl.make w _ _, (h.mono hC).below ((Below.refl _ _).alloc (Nat.le_refl _) _), ⟨hn.1, hn.2⟩, Nat.le_refl _⟩
    have HP : Hid (NewPost w (.returned (.pointer (some ⟨w.heap.size, 0, none⟩))) (w.alloc (.cells #[.slice A n c] 66))) := hide ⟨rfl, hD, (Below.refl _ _).alloc (Nat.le_refl _) _, by simp⟩
    clear hD
    have h4' : (n : Int) ≤ 400 := by omega
    have hnc : (n : Int) ≤ (c : Int) := by omega
    have hmin : min (n : Int) 400 = (n : Int) := by omega
    go_enter Try.func9, Try.ntmps9
    go_wp2
    go_ret
    exact HP.out
  · have hD : Dice (w.alloc (.cells #[.slice A 400 c] 66)) w.heap.size w.heap.size := ⟨A, 400, c, l.take 400, Obl.make w _ _, ((h.takeN (by omega)).mono hC).below ((Below.refl _ _).alloc (Nat.le_refl _) _), ⟨by omega, hn.2⟩, Nat.le_refl _⟩
    have HP : Hid (NewPost w (.returned (.pointer (some ⟨w.heap.size, 0, none⟩))) (w.alloc (.cells #[.slice A 400 c] 66))) := hide ⟨rfl, hD, (Below.refl _ _).alloc (Nat.le_refl _) _, by simp⟩
    clear hD
    have h4' : (400 : Int) < (n : Int) := by omega
    have hnc : (n : Int) ≤ (c : Int) := by omega
    have hmin : min (n : Int) 400 = 400 := by omega
    go_enter Try.func9, Try.ntmps9
    go_wp2
    go_ret
    exact HP.out
theorem Dice.grown {w w' : World} {C b : Nat} {row : Option Nat} (h : Dice w C b) (hg : w.grownBy w' row) (h1 : some b ≠ row) (h2 : ∀ k, row = some k → C ≤ k) : Dice w' C b := by
  have hlt := h.lt
  obtain ⟨A, n, c, l, h3, h4, h5, h6⟩ := h
  refine ⟨A, n, c, l, h3.grown hg h1, h4.below ?_, h5, h6⟩
  exact ⟨hg.os, hg.tape, hg.output, hg.size, fun k hk => hg.block k (by omega) (fun e => by have := h2 k e.symm; omega)⟩
theorem own_bel {w w' : World} {b base size n : Nat} {e : TypeId} {v : Value} {xs : List Value} (h : w.ownsRow base e size v n xs) (hb : Bel w.heap.size b w w') (hbb : b < base) : w'.ownsRow base e size v n xs := by
  refine ⟨h.1, ?_⟩
  rcases h.2 with h0 | ⟨g, cap, cur, hv, hg, hh, hn⟩
  · exact .inl h0
  · exact .inr ⟨g, cap, cur, hv, hg, (hb.block g (lt_of_block hh) (by omega)).trans hh, hn⟩
theorem Dice.put_other {w : World} {C b g : Nat} (h : Dice w C b) (hne : b ≠ g) (hC : C ≤ g) (i : Nat) (u : Value) : Dice (w.setCell ⟨g, i, none⟩ u) C b := by
  obtain ⟨A, n, c, l, h1, h2, h3, h4⟩ := h
  exact ⟨A, n, c, l, h1.put_other hne i u, h2.below ((Below.refl _ _).setCell (p := ⟨g, i, none⟩) hC _), h3, h4⟩
theorem Dice.row_other {w : World} {C b g : Nat} (h : Dice w C b) (hne : b ≠ g) (hC : C ≤ g) (cells : Array Value) : Dice (w.setRow g cells) C b := by
  obtain ⟨A, n, c, l, h1, h2, h3, h4⟩ := h
  exact ⟨A, n, c, l, h1.row_other hne cells, h2.below (below_row (Below.refl _ _) hC _), h3, h4⟩
theorem Bel.setGe {base b : Nat} {w w' : World} (h : Bel base b w w') {g : Nat} (hg : base ≤ g) (i : Nat) (u : Value) : Bel base b w (w'.setCell ⟨g, i, none⟩ u) := h.trans (Bel.of ((Below.refl base w').setCell (p := ⟨g, i, none⟩) hg _))
theorem Bel.rowGe {base b : Nat} {w w' : World} (h : Bel base b w w') {g : Nat} (hg : base ≤ g) (cells : Array Value) : Bel base b w (w'.setRow g cells) := h.trans (Bel.of (below_row (Below.refl base w') hg cells))
theorem Dice.le {w : World} {C b : Nat} (h : Dice w C b) : C ≤ b := by
  obtain ⟨_, _, _, _, _, _, _, h4⟩ := h
  exact h4
end Go.Proofs.Ytddbohnappogkaa
