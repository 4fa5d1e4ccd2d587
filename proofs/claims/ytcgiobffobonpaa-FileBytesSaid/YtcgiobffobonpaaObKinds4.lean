/- Made objects: ports: a contract. -/
import Derived.Test.YtcgiobffobonpaaIdTy
import Derived.Test.YtcgiobffobonpaaObKinds
namespace Go.Proofs.Ytcgiobffobonpaa
open Go.RowKit

/-- Some answer, and nothing else. -/
def BoolSame (w : World) (e : Ending) (w' : World) : Prop := ∃ v, e = .returned (.bool v) ∧ w' = w
set_option maxRecDepth 100000 in
set_option maxHeartbeats 4000000 in
theorem has_any (A : Option Addr) (n c B : Nat) (L : List Int) (id : Int) (W : World) (hL : Nums .u64 W B A n L) (hn : n ≤ 1000) : Calls Try.prog 47 #[.slice A n c, .int .u64 id] W (BoolSame W) := by
  have hn' : (n : Int) ≤ 1000 := by omega
  go_enter Try.func47, Try.ntmps47
  go_wp2_with fail
  go_loop [9] (fun s => ∃ k : Nat, s = .int .i64 (k : Int) ∧ k ≤ n) (fun s => n - (intOf s).toNat)
  case atStart => exact ⟨0, rfl, by omega⟩
  case round =>
    obtain ⟨k, rfl, hk⟩ := hrel
    by_cases hlt : k < n
    · have hlt' : (k : Int) < (n : Int) := by omega
      obtain ⟨b1, f1, hl, rfl, hb1, c1⟩ := hL.at_ hlt
      generalize L[k] = v at *
      by_cases hv : v = id
      · subst hv
        go_wp2_with fail
        go_ret
        exact ⟨true, rfl, rfl⟩
      · have hv' : (v == id) = false := by simpa using hv
        go_wp2_with fail
        go_round
        case rel => exact ⟨k + 1, by go_num, by omega⟩
        case measure => simp [intOf]; omega
    · obtain rfl : k = n := by omega
      go_wp2_with fail
      go_ret
      exact ⟨false, rfl, rfl⟩

set_option maxRecDepth 100000 in
set_option maxHeartbeats 8000000 in
theorem port_dice (C b : Nat) (id : Int) (W : World) (h : Dice W C b) : Calls Try.prog 31 #[.pointer (some ⟨b, 0, none⟩), .int .u64 id] W (ObThrown C b W) := by
  obtain ⟨w1, hw, OR, hb, hs⟩ := start_z W
  have hbl := h.lt
  have hCb := h.le
  have HD := hide (h.below hb)
  have HB := hide (Bel.of (b := b) hb)
  clear hb h
  go_enter Try.func31, Try.ntmps31
  go_wp2_with fail
  refine (portNew id _).mono ?_
  rintro e w2 ⟨rfl, hb2⟩
  obtain ⟨w3, hw3, m, hm, w4, hw4, OZ, O, hb4, hs4⟩ := laid_ob { Ob.zero with id := id, kind := 6, refs := 1 } w2
  have hmW : W.heap.size < m := by have := hb2.size; omega
  have OR4 := (OR.below hb2 OR.lt).below hb4 (by omega)
  have HD4 := hide ((HD.out.below hb2).below hb4)
  have HB4 := hide (HB.out.trans (Bel.of (b := b) ((hb2.trans (hb4.mono hb2.size)).mono (by omega))))
  clear hb2 hb4 OR HD HB hw hs
  go_wp2_with (first | (refine store_ob rfl _ _ rfl rfl (c := { Ob.zero with id := id, kind := 6, refs := 1 }) rfl OZ rfl ?_; rw [hw4]) | fail)
  refine (next_dice C b 3 _ HD4.out (by omega) (by omega)).mono ?_
  rintro e w5 ⟨r, rfl, hr, hD, hB⟩
  have O5 := hB.obl' O (by omega)
  have OR5 := hB.obl' OR4 (by omega)
  have z2 := O5.free 2
  have k2 : w5.cell? ⟨m, 2, none⟩ = some (.int .i64 1) := O5.cell 2
  have O6 : Obl (w5.setCell ⟨m, 2, none⟩ (.int .i64 r)) m 41 (oc { Ob.zero with id := id, kind := 6, refs := r }) := O5.put 2 _
  have OR6 := OR5.put_other (b' := m) (by omega) 2 (.int .i64 r)
  have HD6 := hide (hD.put_other (g := m) (by omega) (by omega) 2 (.int .i64 r))
  have HB6 := hide ((HB4.out.trans (hB.mono HB4.out.size)).setGe (g := m) (by omega) 2 (.int .i64 r))
  obtain ⟨w6, hw6⟩ : ∃ w6, w5.setCell ⟨m, 2, none⟩ (.int .i64 r) = w6 := ⟨_, rfl⟩
  rw [hw6] at O6 OR6 HD6 HB6
  clear hD hB O OR4 HD4 HB4 OZ hw4 hw3 O5 OR5 hr
  go_wp2_with fail
  refine (next_dice C b 10 _ HD6.out (by omega) (by omega)).mono ?_
  rintro e w7 ⟨n0, rfl, hn, hD, hB⟩
  obtain ⟨n0, rfl⟩ := Int.eq_ofNat_of_zero_le hn.1
  have hn9 : n0 ≤ 9 := by omega
  have O7 := hB.obl' O6 (by omega)
  have OR7 := hide (hB.obl' OR6 (by omega))
  have HD7 := hide hD
  have HB7 := hide (HB6.out.trans (hB.mono HB6.out.size))
  have hm7 := O7.lt
  clear hD hB O6 OR6 HD6 HB6 hn hw6
  go_wp2_with fail
  go_loopw [6] (fun s15 wr => ∃ (k q c : Nat) (A : Option Addr) (I : List Int), s15 = .int .i64 (k : Int) ∧ k ≤ 9 ∧ q ≤ 8 ∧ Obl wr m 41 (oc { Ob.zero with id := id, kind := 6, refs := r, backlog := ⟨A, q, c⟩ }) ∧ wr.ownsRow (m + 1) 22 1 (.slice A q c) q (nv .u64 I) ∧
      Hid (Obl wr W.heap.size 41 (oc Ob.zero)) ∧ Hid (Dice wr C b) ∧ Hid (Bel W.heap.size b W wr)) (fun s15 _ => (intOf s15).toNat)
  case atStart => exact ⟨n0, 0, 0, none, [], rfl, hn9, by omega, O7, own_nil, OR7, HD7, HB7⟩
  case round =>
    clear O7 OR7 HD7 HB7 hn9
    obtain ⟨k, q, c, A, I, rfl, hk, hq, O, hown, OR, HD, HB⟩ := hrel
    have hml := O.lt
    have k29 : wr.cell? ⟨m, 29, none⟩ = some (.slice A q c) := O.cell 29
    by_cases h0 : 0 < k ∧ q < 8
    · obtain ⟨h0, h8⟩ := h0
      have h0' : (0 : Int) < (k : Int) := by omega
      have h8' : (q : Int) < 8 := by omega
      go_wp2_with fail
      refine (id_dice C b _ HD.out).mono ?_
      rintro e w8 ⟨v, rfl, hD, hB⟩
      have O8 := hB.obl' O (by omega)
      have OR8 := hide (hB.obl' OR.out (by omega))
      have hown8 := own_keep hown (keep_bel hB (by omega))
      have HD8 := hide hD
      have HB8 := hide (HB.out.trans (hB.mono HB.out.size))
      have hml8 := O8.lt
      have j29 : w8.cell? ⟨m, 29, none⟩ = some (.slice A q c) := O8.cell 29
      have z29 := O8.free 29
      clear hD hB O OR hown HD HB k29
      go_wp2_with fail
      refine (has_any A q c _ I v _ (Nums.of_own hown8) (by omega)).mono ?_
      rintro e w9 ⟨bv, rfl, hw9⟩
      rw [hw9]
      clear hw9
      cases bv with
      | true =>
        go_wp2_with fail
        go_roundw
        case rel => exact ⟨k - 1, q, c, A, I, by go_num, by omega, hq, O8, hown8, OR8, HD8, HB8⟩
        case measure => simp [intOf]; omega
      | false =>
        have Oa := O8.alloc (.cells #[.int .u64 v] 22)
        have ORa := hide (OR8.out.alloc (.cells #[.int .u64 v] 22))
        have HDa := hide (HD8.out.alloc (.cells #[.int .u64 v] 22))
        have HBa := hide (HB8.out.trans (Bel.of (b := b) ((Below.refl W.heap.size w8).alloc HB8.out.size (.cells #[.int .u64 v] 22))))
        have howna := hown8.alloc (.cells #[.int .u64 v] 22)
        have hrow := Row.new w8 (.int .u64 v) 22
        have hsz : m + 1 ≤ (w8.alloc (.cells #[.int .u64 v] 22)).heap.size := by simp; omega
        have hq1 : q + 1 ≤ 1000 := by omega
        have ja := Oa.cell 29
        have za := Oa.free 29
        obtain ⟨wa, hwa⟩ : ∃ wa, w8.alloc (.cells #[.int .u64 v] 22) = wa := ⟨_, rfl⟩
        rw [hwa] at Oa ORa HDa HBa howna hrow hsz ja za
        have ja' : wa.cell? ⟨m, 29, none⟩ = some (.slice A q c) := Oa.cell 29
        clear O8 OR8 hown8 HD8 HB8
        go_wp2_with (first | (at_builtin; refine wpList_append_rd rfl _ _ _ rfl idTy (xs := nv .u64 I) (base := m + 1) rfl howna rfl hrow (by simp [Value.oneCell']) (by unfold maxLen; omega) (by omega) hsz ?_; intro A3 c3 w3 hown3 hg3 _; have O3 := Oa.grown hg3 (fun e => by have := (howna.lt m (by rw [ownBlock_slice]; exact e.symm)).1; omega); have OR3 := ORa.out.grown hg3 (fun e => by have := (howna.lt W.heap.size (by rw [ownBlock_slice]; exact e.symm)).1; omega); have HD3 := hide (HDa.out.grown hg3 (fun e => by have := (howna.lt b (by rw [ownBlock_slice]; exact e.symm)).1; omega) (fun j hj => by have := (howna.lt j (by rw [ownBlock_slice]; exact hj)).1; omega)); have HB3 := hide (HBa.out.trans (Bel.of (b := b) ((below_own (Below.refl (m + 1) wa) howna hg3 hsz).mono (by omega)))); have z3 := O3.free 29; have k3 : w3.cell? ⟨m, 29, none⟩ = some (.slice A q c) := O3.cell 29; have O4 : Obl (w3.setCell ⟨m, 29, none⟩ (.slice A3 (q + 1) c3)) m 41 (oc { Ob.zero with id := id, kind := 6, refs := r, backlog := ⟨A3, q + 1, c3⟩ }) := O3.put 29 _; have OR4 := hide (OR3.put_other (b' := m) (by omega) 29 (.slice A3 (q + 1) c3)); have HD4 := hide (HD3.out.put_other (g := m) (by omega) (by omega) 29 (.slice A3 (q + 1) c3)); have HB4 := hide (HB3.out.setGe (g := m) (by omega) 29 (.slice A3 (q + 1) c3)); have hown4 := own_keep hown3 (keep_put (m := m) (by omega) 29 (.slice A3 (q + 1) c3)); obtain ⟨w4, hw4⟩ : ∃ w4, w3.setCell ⟨m, 29, none⟩ (.slice A3 (q + 1) c3) = w4 := ⟨_, rfl⟩; rw [hw4] at O4 OR4 HD4 HB4 hown4; rw [nv_snoc] at hown4; clear O3 OR3 HD3 HB3 hown3) | fail)
        go_roundw
        case rel => exact ⟨k - 1, q + 1, c3, A3, I ++ [v], by go_num, by omega, by omega, O4, hown4, OR4, HD4, HB4⟩
        case measure => simp [intOf]; omega
    · have OR' := OR.out
      have hcase : ¬ 0 < k ∨ (0 < k ∧ ¬ q < 8) := by omega
      rcases hcase with h1 | ⟨h1, h2⟩
      · obtain rfl : k = 0 := by omega
        go_wp2_with (first | (refine load_ob rfl _ rfl rfl O ?_) | (refine store_ob rfl _ _ rfl rfl (c := { Ob.zero with id := id, kind := 6, refs := r, backlog := ⟨A, q, c⟩ }) rfl OR' rfl ?_) | fail)
        refine bodyPost_ret (ret_ob rfl _ rfl (OR'.row_same _)) rfl ?_
        exact thrown_own (base := m + 1) ⟨⟨[], own_nil⟩, ⟨[], own_nil⟩, ⟨I, hown⟩, ⟨[], own_nil⟩, ⟨[], own_nil⟩, ⟨[], own_nil, by simp⟩, noProc_zero⟩ (by omega) HD.out HB.out hbl hCb
      · have h1' : (0 : Int) < (k : Int) := by omega
        have h2' : ¬ (q : Int) < 8 := by omega
        go_wp2_with (first | (refine load_ob rfl _ rfl rfl O ?_) | (refine store_ob rfl _ _ rfl rfl (c := { Ob.zero with id := id, kind := 6, refs := r, backlog := ⟨A, q, c⟩ }) rfl OR' rfl ?_) | fail)
        refine bodyPost_ret (ret_ob rfl _ rfl (OR'.row_same _)) rfl ?_
        exact thrown_own (base := m + 1) ⟨⟨[], own_nil⟩, ⟨[], own_nil⟩, ⟨I, hown⟩, ⟨[], own_nil⟩, ⟨[], own_nil⟩, ⟨[], own_nil, by simp⟩, noProc_zero⟩ (by omega) HD.out HB.out hbl hCb
end Go.Proofs.Ytcgiobffobonpaa
