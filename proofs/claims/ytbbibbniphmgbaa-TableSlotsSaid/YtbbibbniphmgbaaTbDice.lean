/- Layer 10: made slots, made tables: contracts. -/
import Derived.Test.YtbbibbniphmgbaaTbSane
import Derived.Test.YtbbibbniphmgbaaTbFacts
import Derived.Test.YtbbibbniphmgbaaDice
namespace Go.Proofs.Ytbbibbniphmgbaa
open Go.RowKit

set_option maxRecDepth 100000 in
set_option maxHeartbeats 8000000 in
theorem make_pos (n b s : Int) (hn : 0 ≤ n ∧ n ≤ 2) (hb : 0 ≤ b ∧ b ≤ 1) (hs : 1 ≤ s ∧ s ≤ 9) (W : World) : Calls Try.prog 60 #[.int .i64 n, .int .i64 b, .int .i64 s] W fun e w' => ∃ v : Int, e = .returned (.tuple #[.int .u64 v, .int .i64 0]) ∧ v ≠ 0 ∧ w' = W := by
  have h1 : n = 0 ∨ n = 1 ∨ n = 2 := by omega
  have h2 : b = 0 ∨ b = 1 := by omega
  have h3 : s = 1 ∨ s = 2 ∨ s = 3 ∨ s = 4 ∨ s = 5 ∨ s = 6 ∨ s = 7 ∨ s = 8 ∨ s = 9 := by omega
  clear hn hb hs
  rcases h1 with rfl | rfl | rfl <;> rcases h2 with rfl | rfl <;> rcases h3 with rfl | rfl | rfl | rfl | rfl | rfl | rfl | rfl | rfl <;>
    (go_enter Try.func60, Try.ntmps60
     go_wp2
     go_ret2
     exact ⟨_, rfl, by decide, rfl⟩)
/-- An identifier, which is none but zero, and the dice. -/
def PosThrown (C b : Nat) (w : World) (e : Ending) (w' : World) : Prop := ∃ v : Int, e = .returned (.int .u64 v) ∧ v ≠ 0 ∧ Dice w' C b ∧ Bel w.heap.size b w w'
set_option maxRecDepth 100000 in
set_option maxHeartbeats 4000000 in
theorem pos_dice (C b : Nat) (W : World) (h : Dice W C b) : Calls Try.prog 31 #[.pointer (some ⟨b, 0, none⟩)] W (PosThrown C b W) := by
  have HD := hide h
  clear h
  go_enter Try.func31, Try.ntmps31
  go_wp2_with fail
  refine (next_dice C b 3 _ HD.out (by omega) (by omega)).mono ?_
  rintro e w1 ⟨n, rfl, hn, hD, hB⟩
  have HD1 := hide hD
  have HB1 := hide hB
  clear hD hB HD
  go_wp2_with fail
  refine (next_dice C b 2 _ HD1.out (by omega) (by omega)).mono ?_
  rintro e w2 ⟨q, rfl, hq, hD, hB⟩
  have HD2 := hide hD
  have HB2 := hide (HB1.out.then hB)
  clear hD hB HD1 HB1
  go_wp2_with fail
  refine (next_dice C b 9 _ HD2.out (by omega) (by omega)).mono ?_
  rintro e w3 ⟨s, rfl, hs, hD, hB⟩
  have HD3 := hide hD
  have HB3 := hide (HB2.out.then hB)
  have hs0 := hs.1
  have hs1 : s ≤ 8 := by omega
  clear hD hB HD2 HB2
  go_wp2_with fail
  refine (make_pos n q (1 + s) ⟨hn.1, by omega⟩ ⟨hq.1, by omega⟩ ⟨by omega, by omega⟩ _).mono ?_
  rintro e w4 ⟨v, rfl, hv, rfl⟩
  have HV := hide hv
  clear hv
  go_wp2_with fail
  go_ret
  exact ⟨v, rfl, HV.out, HD3.out, HB3.out⟩

/-- A slot that is valid, and the dice. -/
def SlotThrown (C b : Nat) (w : World) (e : Ending) (w' : World) : Prop := ∃ s : Tb.Slot, e = .returned (sta s) ∧ (s.Ok ∧ s.kind ≠ 0) ∧ Dice w' C b ∧ Bel w.heap.size b w w'
theorem ret_slot1 {w : World} {fn : Func} {p : Tmp} (hr : fn.results = #[.cell p 25]) (tmps : Array Value) {g : Nat} (hp : tmps.getD p undef = .pointer (some ⟨g, 0, none⟩)) {y : Tb.Slot} {t : TypeId} (h : Obl w g t #[.int .i64 y.kind, .int .u64 y.desc, .int .u64 y.target, .int .i64 y.fin]) :
    (results fn tmps).run Try.prog w = .ok (sta y) w := results_cell_1 hr tmps hp h Try.underlying25 rfl slotSize
theorem slot_ok {k d t f : Int} (h1 : 1 ≤ k) (h2 : k ≤ 8) (ht : t ≠ 0) (hd : d ≠ 0 ↔ k = 1) (hf : f = 0 ∨ f = 1 ∧ k = 4) : (⟨k, d, t, f⟩ : Tb.Slot).Ok ∧ (⟨k, d, t, f⟩ : Tb.Slot).kind ≠ 0 := by
  have h0 : (⟨k, d, t, f⟩ : Tb.Slot).kind ≠ 0 := by show k ≠ 0; omega
  exact ⟨(Tb.Slot.ok_of h0).2 ⟨by show 0 < k; omega, h2, ht, hd, hf⟩, h0⟩
theorem obl_four {w : World} {g : Nat} {t : TypeId} {x y z u x' y' z' u' : Value} (h : Obl w g t #[x, y, z, u]) (hx : x = x') (hy : y = y') (hz : z = z') (hu : u = u') : Obl w g t #[x', y', z', u'] := by subst hx hy hz hu; exact h
theorem Dice.set_other {w : World} {C b g : Nat} (h : Dice w C b) (hne : b ≠ g) (hC : C ≤ g) (i : Nat) (u : Value) : Dice (w.setCell ⟨g, i, none⟩ u) C b := h.put_other hne hC i u
set_option maxRecDepth 100000 in
set_option maxHeartbeats 16000000 in
theorem slot_dice (C b : Nat) (W : World) (h : Dice W C b) : Calls Try.prog 11 #[.pointer (some ⟨b, 0, none⟩)] W (SlotThrown C b W) := by
  have hbW := h.lt
  have hC := h.le
  obtain ⟨w1, hw1, O1, hb1, hs1⟩ := start_slot0 W
  have HD1 := hide (h.below hb1)
  have HB1 := hide (Bel.of hb1 : Bel W.heap.size b W w1)
  clear h hb1 hs1
  go_enter Try.func11, Try.ntmps11
  go_wp2_with fail
  refine (next_dice C b 8 _ HD1.out (by omega) (by omega)).mono ?_
  rintro e w2 ⟨v, rfl, hv, hD, hB⟩
  obtain ⟨k, hk⟩ : ∃ k, 1 + v = k := ⟨_, rfl⟩
  have hk1 : 1 ≤ k := by omega
  have hk8 : k ≤ 8 := by omega
  have hv0 := hv.1
  have hv1 : v ≤ 7 := by omega
  have O2 := hB.obl' O1 (by omega)
  have HD2 := hide hD
  have HB2 := hide (HB1.out.trans (hB.mono HB1.out.size))
  clear hD hB hv O1 HD1 HB1
  go_wp2_with fail
  refine (pos_dice C b _ HD2.out).mono ?_
  rintro e w3 ⟨t, rfl, ht, hD, hB⟩
  have O3 := hB.obl' O2 (by omega)
  have HT := hide ht
  have HB3 := hide (HB2.out.trans (hB.mono HB2.out.size))
  obtain ⟨wz, hwz, g3, hg3, w4, hw4, OZ, ON, hb4, hs4⟩ := start_zslot w3 ⟨k, 0, t, 0⟩
  subst hg3
  have hg3 : W.heap.size < w3.heap.size := O3.lt
  have O4 := O3.below hb4 O3.lt
  have HD4 := hide (hD.below hb4)
  have HB4 := hide (HB3.out.trans (Bel.of (hb4.mono (by omega))))
  have k0 : w4.cell? ⟨w3.heap.size, 0, none⟩ = some (.int .i64 k) := ON.cell 0
  clear hD hB ht O2 O3 HD2 HB2 HB3 hb4 hs4
  by_cases h1 : k = 1
  · have z1 : (k == 1) = true := by simpa using h1
    have z4 : (k == 4) = false := by simp [h1]
    have H1 := hide h1
    clear h1
    go_wp2_with (first | (refine store_slot rfl _ _ rfl rfl (c := ⟨k, 0, t, 0⟩) rfl OZ rfl ?_; rw [hw4]) | fail)
    refine (pos_dice C b _ HD4.out).mono ?_
    rintro e w5 ⟨d, rfl, hd, hD, hB⟩
    have HDD := hide hd
    have O5 := hB.obl' O4 (by omega)
    have ON5 := hB.obl' ON (by omega)
    have zf := ON5.free 1
    have kc : w5.cell? ⟨w3.heap.size, 1, none⟩ = some (.int .u64 0) := ON5.cell 1
    obtain ⟨w6, hw6⟩ : ∃ w, w5.setCell ⟨w3.heap.size, 1, none⟩ (.int .u64 d) = w := ⟨_, rfl⟩
    have ON6 : Obl w6 w3.heap.size 25 #[.int .i64 k, .int .u64 d, .int .u64 t, .int .i64 0] := by rw [← hw6]; exact obl_four (ON5.put 1 (.int .u64 d)) rfl rfl rfl rfl
    have O6 : Obl w6 W.heap.size 25 #[.int .i64 0, .int .u64 0, .int .u64 0, .int .i64 0] := by rw [← hw6]; exact O5.put_other (b' := w3.heap.size) (by omega) 1 _
    have HD6 : Hid (Dice w6 C b) := hide (by rw [← hw6]; exact hD.put_other (by omega) (by omega) 1 _)
    have HB6 : Hid (Bel W.heap.size b W w6) := hide (by rw [← hw6]; exact (HB4.out.trans (hB.mono HB4.out.size)).setGe (by omega) 1 _)
    have k6 : w6.cell? ⟨w3.heap.size, 0, none⟩ = some (.int .i64 k) := ON6.cell 0
    clear hd hD hB O4 O5 ON HD4 HB4
    go_wp2_with (first | (refine wpList_val (by rfl) (exec_load_slot0 (y := ⟨k, d, t, 0⟩) rfl rfl ON6) ?_) | (refine store_slot rfl _ _ rfl rfl (c := ⟨k, d, t, 0⟩) rfl O6 rfl ?_) | fail)
    refine bodyPost_ret (ret_slot1 (y := ⟨k, d, t, 0⟩) rfl _ rfl (O6.row_same _)) rfl ?_
    exact ⟨⟨k, d, t, 0⟩, rfl, slot_ok hk1 hk8 HT.out ⟨fun _ => H1.out, fun _ => HDD.out⟩ (.inl rfl), HD6.out.row_other (by omega) (by omega) _, HB6.out.rowGe (Nat.le_refl _) _⟩
  have z1 : (k == 1) = false := by simpa using h1
  by_cases h4 : k = 4
  · have z4 : (k == 4) = true := by simpa using h4
    have H4 := hide h4
    have H1 := hide h1
    clear h1 h4
    go_wp2_with (first | (refine store_slot rfl _ _ rfl rfl (c := ⟨k, 0, t, 0⟩) rfl OZ rfl ?_; rw [hw4]) | fail)
    refine (next_dice C b 2 _ HD4.out (by omega) (by omega)).mono ?_
    rintro e w5 ⟨f, rfl, hf, hD, hB⟩
    have HFF : Hid (f = 0 ∨ f = 1) := hide (by omega)
    have O5 := hB.obl' O4 (by omega)
    have ON5 := hB.obl' ON (by omega)
    have zf := ON5.free 3
    have kc : w5.cell? ⟨w3.heap.size, 3, none⟩ = some (.int .i64 0) := ON5.cell 3
    obtain ⟨w6, hw6⟩ : ∃ w, w5.setCell ⟨w3.heap.size, 3, none⟩ (.int .i64 f) = w := ⟨_, rfl⟩
    have ON6 : Obl w6 w3.heap.size 25 #[.int .i64 k, .int .u64 0, .int .u64 t, .int .i64 f] := by rw [← hw6]; exact obl_four (ON5.put 3 (.int .i64 f)) rfl rfl rfl rfl
    have O6 : Obl w6 W.heap.size 25 #[.int .i64 0, .int .u64 0, .int .u64 0, .int .i64 0] := by rw [← hw6]; exact O5.put_other (b' := w3.heap.size) (by omega) 3 _
    have HD6 : Hid (Dice w6 C b) := hide (by rw [← hw6]; exact hD.put_other (by omega) (by omega) 3 _)
    have HB6 : Hid (Bel W.heap.size b W w6) := hide (by rw [← hw6]; exact (HB4.out.trans (hB.mono HB4.out.size)).setGe (by omega) 3 _)
    clear hf hD hB O4 O5 ON HD4 HB4
    go_wp2_with (first | (refine wpList_val (by rfl) (exec_load_slot0 (y := ⟨k, 0, t, f⟩) rfl rfl ON6) ?_) | (refine store_slot rfl _ _ rfl rfl (c := ⟨k, 0, t, f⟩) rfl O6 rfl ?_) | fail)
    refine bodyPost_ret (ret_slot1 (y := ⟨k, 0, t, f⟩) rfl _ rfl (O6.row_same _)) rfl ?_
    exact ⟨⟨k, 0, t, f⟩, rfl, slot_ok hk1 hk8 HT.out ⟨fun x => absurd rfl x, fun x => absurd x H1.out⟩ (HFF.out.imp id fun e => ⟨e, H4.out⟩), HD6.out.row_other (by omega) (by omega) _, HB6.out.rowGe (Nat.le_refl _) _⟩
  · have z4 : (k == 4) = false := by simpa using h4
    have H1 := hide h1
    clear h1 h4
    go_wp2_with (first | (refine store_slot rfl _ _ rfl rfl (c := ⟨k, 0, t, 0⟩) rfl OZ rfl ?_; rw [hw4]) | (refine wpList_val (by rfl) (exec_load_slot0 (y := ⟨k, 0, t, 0⟩) rfl rfl ON) ?_) | (refine store_slot rfl _ _ rfl rfl (c := ⟨k, 0, t, 0⟩) rfl O4 rfl ?_) | fail)
    refine bodyPost_ret (ret_slot1 (y := ⟨k, 0, t, 0⟩) rfl _ rfl (O4.row_same _)) rfl ?_
    exact ⟨⟨k, 0, t, 0⟩, rfl, slot_ok hk1 hk8 HT.out ⟨fun x => absurd rfl x, fun x => absurd x H1.out⟩ (.inl rfl), HD4.out.row_other (by omega) (by omega) _, HB4.out.rowGe (Nat.le_refl _) _⟩

/-- The beginning of a row of the call's own. -/
def PartOf (w : World) (base : Nat) (A : Option Addr) (n c : Nat) (l : List Tb.Slot) : Prop := ∃ m L, w.ownsRow base 25 4 (.slice A m c) m (stv L) ∧ n ≤ m ∧ l = L.take n
theorem PartOf.slots {w : World} {base n c : Nat} {A : Option Addr} {l : List Tb.Slot} (h : PartOf w base A n c l) : Slots w w.heap.size A n l := by
  obtain ⟨m, L, h1, h2, rfl⟩ := h
  exact (Slots.of_own h1).takeN h2
theorem PartOf.bel {w w' : World} {base n c b : Nat} {A : Option Addr} {l : List Tb.Slot} (h : PartOf w base A n c l) (hb : Bel w.heap.size b w w') (hbb : b < base) : PartOf w' base A n c l := by
  obtain ⟨m, L, h1, h2, rfl⟩ := h
  exact ⟨m, L, own_bel h1 hb hbb, h2, rfl⟩
theorem PartOf.below {w w' : World} {base n c : Nat} {A : Option Addr} {l : List Tb.Slot} (h : PartOf w base A n c l) (hb : Below w.heap.size w w') : PartOf w' base A n c l := by
  obtain ⟨m, L, h1, h2, rfl⟩ := h
  exact ⟨m, L, own_below h1 hb, h2, rfl⟩
/-- A table that is valid, and the dice. -/
def TabThrown (C b : Nat) (w : World) (e : Ending) (w' : World) : Prop := ∃ (A : Option Addr) (n c : Nat) (l : List Tb.Slot), e = .returned (.slice A n c) ∧ (PartOf w' w.heap.size A n c l ∧ n ≤ c ∧ c ≤ 9223372036854775807) ∧ n ≤ 5 ∧ Tb.Valid l ∧ Dice w' C b ∧ Bel w.heap.size b w w'
theorem own_blk_ge {w : World} {base n c size : Nat} {e : TypeId} {A : Option Addr} {xs : List Value} (h : w.ownsRow base e size (.slice A n c) n xs) {k : Nat} (hk : blk A = some k) : base ≤ k := (h.lt k (by rw [ownBlock_slice]; exact hk)).1
set_option maxRecDepth 100000 in
set_option maxHeartbeats 16000000 in
theorem table_dice (C b : Nat) (W : World) (h : Dice W C b) : Calls Try.prog 12 #[.pointer (some ⟨b, 0, none⟩)] W (TabThrown C b W) := by
  have hbW := h.lt
  have hC := h.le
  have HD := hide h
  clear h
  go_enter Try.func12, Try.ntmps12
  go_wp2_with fail
  refine (next_dice C b 6 _ HD.out (by omega) (by omega)).mono ?_
  rintro e w1 ⟨v, rfl, hv, hD, hB⟩
  obtain ⟨q, rfl⟩ := Int.eq_ofNat_of_zero_le hv.1
  have hq : q ≤ 5 := by omega
  have HD1 := hide hD
  have HB1 := hide hB
  clear hD hB hv HD
  go_wp2_with fail
  go_loopw [3, 4] (fun s3 s4 wr => ∃ (i m c : Nat) (O : Option Addr) (L : List Tb.Slot), s4 = .int .i64 (i : Int) ∧ s3 = .slice O m c ∧ i + m ≤ 5 ∧ Hid (wr.ownsRow W.heap.size 25 4 (.slice O m c) m (stv L)) ∧ Hid (∀ s ∈ L, s.Ok) ∧ Hid (Dice wr C b) ∧ Hid (Bel W.heap.size b W wr)) (fun _ s4 _ => (intOf s4).toNat)
  case atStart => exact ⟨q, 0, 0, none, [], rfl, rfl, by omega, hide own_none, hide (by simp), HD1, HB1⟩
  case round =>
    obtain ⟨i, m, c, O, L, rfl, rfl, him, HO, HK, HDr, HBr⟩ := hrel
    have hWr := HBr.out.size
    rcases Nat.eq_zero_or_pos i with h0 | h0
    · subst h0
      have hcc := own_cap HO.out
      have hc63 := own_cap63 HO.out
      have hmc : (m : Int) ≤ (c : Int) := by omega
      have hl := own_slots HO.out
      have HL := hide hl
      go_wp2_with fail
      go_loopw [3] (fun s3 wx => ∃ p : Nat, s3 = .slice O p c ∧ p ≤ m ∧ wx = wr ∧ Hid (∀ j (hj : j < L.length), p ≤ j → L[j].kind = 0)) (fun s3 _ => slLen s3)
      case atStart => exact ⟨m, rfl, by omega, by first | rfl | trivial, hide (fun j hj hp => by omega)⟩
      case round =>
        obtain ⟨p, rfl, hp, rfl, HZ⟩ := hrel
        rcases Nat.eq_zero_or_pos p with h1 | h1
        · subst h1
          go_wp2_with fail
          go_ret
          exact ⟨O, 0, c, L.take 0, rfl, ⟨⟨m, L, HO.out, Nat.zero_le _, rfl⟩, Nat.zero_le _, own_cap63 HO.out⟩, by omega, by rw [List.take_zero]; exact Tb.valid_nil, HDr.out, HBr.out⟩
        · obtain ⟨j, hj⟩ : ∃ j, p - 1 = j := ⟨_, rfl⟩
          have dm : (p : Int) - 1 = (j : Int) := by omega
          have h0' : (0 : Int) < (p : Int) := by omega
          have hjp : (j : Int) < (p : Int) := by omega
          have hjc : (j : Int) ≤ (c : Int) := by omega
          have hpc : (p : Int) ≤ (c : Int) := by omega
          obtain ⟨g, rfl, hg1, hg2⟩ := own_addr HO.out (by omega)
          obtain ⟨b0, o0, hjl, e9, hb9, c0, c1, c2, c3⟩ := (Slots.of_own HO.out).at_ (show j < m by omega)
          cases e9
          have HLL : Hid (Tb.lastOf (L.take p) = L[j]) := hide (Tb.lastOf_take hj h1 (by omega))
          obtain ⟨x, hx⟩ : ∃ x, L[j] = x := ⟨_, rfl⟩
          have HX := hide hx
          rw [hx] at c0 c1 c2 c3 HLL
          rw [Nat.zero_add] at c0
          have HJ := hide hj
          clear hx hj hl
          by_cases hz : x.kind = 0
          · have z2 : (x.kind == 0) = true := by simpa using hz
            have HZ2 : Hid (∀ i (hi : i < L.length), j ≤ i → L[i].kind = 0) := hide (fun i hi hji => by
              have hjj := HJ.out
              rcases Nat.lt_or_ge i p with h' | h'
              · obtain rfl : i = j := by omega
                rw [HX.out]; exact hz
              · exact HZ.out i hi h')
            clear hz
            go_wp2_with fail
            go_roundw
            case rel => exact ⟨j, rfl, by omega, by first | rfl | trivial, HZ2⟩
            case measure => simp [slLen]; omega
          · have z2 : (x.kind == 0) = false := by simpa using hz
            have HZZ := hide hz
            clear hz
            go_wp2_with fail
            go_ret
            exact ⟨_, p, c, L.take p, rfl, ⟨⟨m, L, HO.out, hp, rfl⟩, by omega, own_cap63 HO.out⟩, by omega, ⟨by rw [List.length_take]; have := HL.out; omega, fun s hs => HK.out s (List.mem_of_mem_take hs), by rw [HLL.out]; exact HZZ.out⟩, HDr.out, HBr.out⟩
    · obtain ⟨p, hp⟩ : ∃ p, i - 1 = p := ⟨_, rfl⟩
      have dm : (i : Int) - 1 = (p : Int) := by omega
      have h0' : (0 : Int) < (i : Int) := by omega
      have hp5 : p + 1 = i := by omega
      have HP5 := hide hp5
      clear hp hp5
      go_wp2_with fail
      refine (next_dice C b 4 _ HDr.out (by omega) (by omega)).mono ?_
      rintro e w2 ⟨v, rfl, hv, hD, hB⟩
      have HD2 := hide hD
      have HB2 := hide (HBr.out.trans (hB.mono hWr))
      have HO2 := hide (own_bel HO.out hB hbW)
      have hW2 : W.heap.size ≤ w2.heap.size := HB2.out.size
      clear hD hB hv HO HDr HBr
      by_cases hz : v = 0
      · have z1 : (v == 0) = true := by simpa using hz
        clear hz
        go_wp2_with (first | (refine wpList_val (by rfl) (exec_build (t := 25) (vs := []) rfl rfl built_slot0) ?_) | (at_builtin; refine wpList_append_rd rfl _ _ _ rfl slotTy (base := W.heap.size) rfl (HO2.out.alloc (.cells #[.int .i64 0, .int .u64 0, .int .u64 0, .int .i64 0] 25)) rfl (Row.slot0 w2 25) (by simp [Value.oneCell']) (by unfold maxLen; omega) (by omega) (by simp; omega) ?_; intro A7 c7 w7 hown7 hg7 _; have HB7 := hide (below_own ((Below.refl W.heap.size w2).alloc hW2 _) (HO2.out.alloc _) hg7 (by simp; omega)); have HD7 := hide ((HD2.out.alloc _).grown hg7 (fun e => by have := own_blk_ge HO2.out e.symm; omega) (fun k hk => by have := own_blk_ge HO2.out hk; omega)); rw [show stv L ++ [.int .i64 0, .int .u64 0, .int .u64 0, .int .i64 0] = stv (L ++ [Tb.Slot.zero]) from stv_snoc L Tb.Slot.zero] at hown7; have HO7 := hide hown7; clear hown7 hg7) | fail)
        have HB8 := hide (HB2.out.trans (Bel.of HB7.out))
        go_roundw
        case rel => exact ⟨p, m + 1, c7, A7, L ++ [Tb.Slot.zero], by first | rfl | go_num, rfl, by have := HP5.out; omega, HO7, hide (fun s hs => by rcases List.mem_append.1 hs with h1 | h1; exact HK.out s h1; rw [List.mem_singleton.1 h1]; exact Tb.Slot.zero_ok), HD7, HB8⟩
        case measure => have := HP5.out; simp [intOf]; omega
      · have z1 : (v == 0) = false := by simpa using hz
        clear hz
        go_wp2_with fail
        refine (slot_dice C b _ HD2.out).mono ?_
        rintro e w3 ⟨s, rfl, hs, hD, hB⟩
        have HSS := hide hs
        have HD3 := hide hD
        have HB3 := hide (HB2.out.trans (hB.mono hW2))
        have HO3 := hide (own_bel HO2.out hB hbW)
        have hW3 : W.heap.size ≤ w3.heap.size := HB3.out.size
        clear hD hB hs HD2 HB2 HO2
        go_wp2_with (first | (at_builtin; refine wpList_append_rd rfl _ _ _ rfl slotTy (base := W.heap.size) rfl (HO3.out.alloc (.cells #[.int .i64 s.kind, .int .u64 s.desc, .int .u64 s.target, .int .i64 s.fin] 25)) rfl (Row.slot w3 s 25) (by simp [Value.oneCell']) (by unfold maxLen; omega) (by omega) (by simp; omega) ?_; intro A7 c7 w7 hown7 hg7 _; have HB7 := hide (below_own ((Below.refl W.heap.size w3).alloc hW3 _) (HO3.out.alloc _) hg7 (by simp; omega)); have HD7 := hide ((HD3.out.alloc _).grown hg7 (fun e => by have := own_blk_ge HO3.out e.symm; omega) (fun k hk => by have := own_blk_ge HO3.out hk; omega)); rw [stv_snoc L s] at hown7; have HO7 := hide hown7; clear hown7 hg7) | fail)
        have HB8 := hide (HB3.out.trans (Bel.of HB7.out))
        go_roundw
        case rel => exact ⟨p, m + 1, c7, A7, L ++ [s], by first | rfl | go_num, rfl, by have := HP5.out; omega, HO7, hide (fun x hx => by rcases List.mem_append.1 hx with h1 | h1; exact HK.out x h1; rw [List.mem_singleton.1 h1]; exact HSS.out.1), HD7, HB8⟩
        case measure => have := HP5.out; simp [intOf]; omega
end Go.Proofs.Ytbbibbniphmgbaa
