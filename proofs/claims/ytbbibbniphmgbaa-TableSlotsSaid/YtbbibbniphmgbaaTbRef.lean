/- Layer 10, the reference: Valid, Get, Put, Clear, Same: contracts. -/
import Derived.Test.YtbbibbniphmgbaaTbClear
import Derived.Test.YtbbibbniphmgbaaRegionX
import Derived.BigQuiet
namespace Go.Proofs.Ytbbibbniphmgbaa
open Go.RowKit

set_option maxRecDepth 100000 in
set_option maxHeartbeats 8000000 in
theorem rfValid_any (l : List Tb.Slot) (A : Option Addr) (n cap : Nat) (W : World) (h : Slots W W.heap.size A n l) (hn : n ≤ cap ∧ cap ≤ 9223372036854775807) :
    Calls Try.prog 23 #[.slice A n cap] W (BoolPost (decide (Tb.Valid l)) W) := by
  have hl := h.len
  have HR := hide h
  have hn' : (n : Int) ≤ 9223372036854775807 := by omega
  have hnc : (n : Int) ≤ (cap : Int) := by omega
  clear h
  go_enter Try.func23, Try.ntmps23
  go_wp2_with fail
  go_loopw [7] (fun s7 wr => ∃ k : Nat, s7 = .int .i64 (k : Int) ∧ k ≤ n ∧ Hid (Below W.heap.size W wr) ∧ Hid (∀ j (hj : j < l.length), j < k → l[j].Ok)) (fun s7 _ => n - (intOf s7).toNat)
  case atStart => exact ⟨0, rfl, by omega, hide (Below.refl _ _), hide (fun j _ hj => by omega)⟩
  case round =>
    obtain ⟨k, rfl, hk, HB, HC⟩ := hrel
    by_cases hlt : k < n
    · have hlt' : (k : Int) < (n : Int) := by omega
      obtain ⟨b, o, hkl, rfl, hb, c0, c1, c2, c3⟩ := (HR.out.below HB.out).at_ hlt
      obtain ⟨y, hy⟩ : ∃ y, l[k] = y := ⟨_, rfl⟩
      have HY := hide hy
      rw [hy] at c0 c1 c2 c3
      obtain ⟨w3, hw3, g, hg, w4, hw4, OZ, ON, hb4, hs4⟩ := start_zslot wr y
      have HB4 := hide (HB.out.trans (hb4.mono (by have := HB.out.size; omega)))
      clear hy hb4 hs4
      go_wp2_with (first | (refine wpList_val (by rfl) (exec_load_slot rfl rfl c0 c1 c2 c3) ?_) | (refine store_slot rfl _ _ rfl rfl (c := y) rfl OZ rfl ?_; rw [hw4]) | (refine wpList_val (by rfl) (exec_load_slot0 rfl rfl ON) ?_) | fail)
      refine (refSlot_any y _).mono ?_
      rintro e w5 ⟨rfl, hb5⟩
      have HB5 := hide (HB4.out.trans (hb5.mono HB4.out.size))
      clear hb5 c0 c1 c2 c3
      by_cases hok : y.Ok
      · rw [decide_eq_true hok]
        have HC2 : Hid (∀ j (hj : j < l.length), j < k + 1 → l[j].Ok) := hide (fun j hj hjk => by
          rcases Nat.lt_or_ge j k with h' | h'
          · exact HC.out j hj h'
          · obtain rfl : j = k := by omega
            rw [HY.out]; exact hok)
        clear hok
        go_wp2_with fail
        go_roundw
        case rel => exact ⟨k + 1, by go_num, by omega, HB5, HC2⟩
        case measure => simp [intOf]; omega
      · rw [decide_eq_false hok]
        have HF : Hid (decide (Tb.Valid l) = false) := hide (decide_eq_false (fun h => hok (by have := h.2.1 l[k] (List.getElem_mem hkl); rwa [HY.out] at this)))
        clear hok
        go_wp2_with fail
        go_ret
        exact ⟨ret_bool2 HF.out.symm, HB5.out⟩
    · obtain rfl : k = n := by omega
      have HA : Hid (∀ s ∈ l, s.Ok) := hide (fun s hs => by
        obtain ⟨j, hj, rfl⟩ := List.getElem_of_mem hs
        exact HC.out j hj (by omega))
      by_cases h16 : 16 < k
      · have h16' : ¬ (k : Int) ≤ 16 := by omega
        have HF : Hid (decide (Tb.Valid l) = false) := hide (decide_eq_false (fun h => by have := h.1; omega))
        go_wp2_with fail
        go_ret
        exact ⟨ret_bool2 HF.out.symm, HB.out⟩
      · have h16' : (k : Int) ≤ 16 := by omega
        rcases Nat.eq_zero_or_pos k with h0 | h0
        · subst h0
          have HF : Hid (decide (Tb.Valid l) = true) := hide (by rw [List.eq_nil_of_length_eq_zero hl]; exact decide_eq_true Tb.valid_nil)
          go_wp2_with fail
          go_ret
          exact ⟨ret_bool2 HF.out.symm, HB.out⟩
        · obtain ⟨p, hp⟩ : ∃ p, k - 1 = p := ⟨_, rfl⟩
          have dm : (k : Int) - 1 = (p : Int) := by omega
          have h0' : ((k : Int) == 0) = false := by simp; omega
          have hpm : (p : Int) < (k : Int) := by omega
          obtain ⟨b, o, hpl, rfl, hb, c0, c1, c2, c3⟩ := (HR.out.below HB.out).at_ (show p < k by omega)
          have HL : Hid (Tb.lastOf l = l[p]) := hide (by subst hp; exact Tb.lastOf_eq hl h0)
          obtain ⟨x, hx⟩ : ∃ x, l[p] = x := ⟨_, rfl⟩
          rw [hx] at c0 c1 c2 c3 HL
          clear hx hp
          by_cases hz : x.kind = 0
          · have HF : Hid (decide (Tb.Valid l) = false) := hide (decide_eq_false (fun h => by have := h.2.2; rw [HL.out] at this; exact this hz))
            have z1 : (x.kind != 0) = false := by simp [hz]
            clear hz
            go_wp2_with fail
            go_ret
            exact ⟨ret_bool2 HF.out.symm, HB.out⟩
          · have HF : Hid (decide (Tb.Valid l) = true) := hide (decide_eq_true ⟨by omega, HA.out, by rw [HL.out]; exact hz⟩)
            have z1 : (x.kind != 0) = true := by simp [hz]
            clear hz
            go_wp2_with fail
            go_ret
            exact ⟨ret_bool2 HF.out.symm, HB.out⟩

set_option maxRecDepth 100000 in
set_option maxHeartbeats 8000000 in
theorem rfGet_any (l : List Tb.Slot) (A : Option Addr) (n cap B : Nat) (i : Int) (W : World) (h : Slots W B A n l) (hB : B ≤ W.heap.size) (hn : n ≤ cap ∧ cap ≤ 9223372036854775807) :
    Calls Try.prog 19 #[.slice A n cap, .int .i64 i] W (GetPost10 (Tb.get l i) W) := by
  have hl := h.len
  have HR := hide (h.mono hB)
  have hn' : (n : Int) ≤ 9223372036854775807 := by omega
  have hnc : (n : Int) ≤ (cap : Int) := by omega
  clear h
  obtain ⟨w1, hw, O1, hb, hs⟩ := start_slot0 W
  have HB := hide hb
  clear hb
  by_cases hi : 0 ≤ i ∧ i < (n : Int)
  · obtain ⟨k, rfl⟩ := Int.eq_ofNat_of_zero_le hi.1
    obtain ⟨b, o, hkl, rfl, hb, c0, c1, c2, c3⟩ := (HR.out.below HB.out).at_ (i := k) (by omega)
    have h1' : ¬ (n : Int) ≤ (k : Int) := by omega
    have h2' : (k : Int) < (n : Int) := by omega
    have h3' : ¬ (k : Int) < 0 := by omega
    have HG := hide (Tb.get_at hkl)
    have HN := hide (Tb.get_none hkl)
    obtain ⟨x, hx⟩ : ∃ x, l[k] = x := ⟨_, rfl⟩
    rw [hx] at c0 c1 c2 c3 HG HN
    clear hi hx
    by_cases hz : x.kind = 0
    · have HF := hide (HN.out hz)
      have z1 : (x.kind == 0) = true := by simpa using hz
      clear hz
      go_enter Try.func19, Try.ntmps19
      go_wp2_with (first | (refine wpList_val (by rfl) (exec_build rfl rfl built_slot0) ?_) | (refine store_slot rfl _ _ rfl rfl (c := Tb.Slot.zero) rfl O1 rfl ?_) | fail)
      refine bodyPost_ret (ret_slot (y := Tb.Slot.zero) rfl _ rfl (O1.row_same _)) rfl ?_
      exact GetPost10.of HF.out rfl (below_row HB.out (Nat.le_refl _) _)
    · have HF := hide (HG.out hz)
      have z1 : (x.kind == 0) = false := by simpa using hz
      clear hz
      go_enter Try.func19, Try.ntmps19
      go_wp2_with (first | (refine wpList_val (by rfl) (exec_load_slot rfl rfl c0 c1 c2 c3) ?_) | (refine store_slot rfl _ _ rfl rfl (c := x) rfl O1 rfl ?_) | fail)
      refine bodyPost_ret (ret_slot (y := x) rfl _ rfl (O1.row_same _)) rfl ?_
      exact GetPost10.of HF.out rfl (below_row HB.out (Nat.le_refl _) _)
  · have HF := hide (Tb.get_out (l := l) (i := i) (by rw [hl]; exact hi))
    by_cases h0 : i < 0
    · clear hi
      go_enter Try.func19, Try.ntmps19
      go_wp2_with (first | (refine wpList_val (by rfl) (exec_build rfl rfl built_slot0) ?_) | (refine store_slot rfl _ _ rfl rfl (c := Tb.Slot.zero) rfl O1 rfl ?_) | fail)
      refine bodyPost_ret (ret_slot (y := Tb.Slot.zero) rfl _ rfl (O1.row_same _)) rfl ?_
      exact GetPost10.of HF.out rfl (below_row HB.out (Nat.le_refl _) _)
    · have h1' : (n : Int) ≤ i := by omega
      clear hi
      go_enter Try.func19, Try.ntmps19
      go_wp2_with (first | (refine wpList_val (by rfl) (exec_build rfl rfl built_slot0) ?_) | (refine store_slot rfl _ _ rfl rfl (c := Tb.Slot.zero) rfl O1 rfl ?_) | fail)
      refine bodyPost_ret (ret_slot (y := Tb.Slot.zero) rfl _ rfl (O1.row_same _)) rfl ?_
      exact GetPost10.of HF.out rfl (below_row HB.out (Nat.le_refl _) _)

theorem slots_ne {l r : List Tb.Slot} {k : Nat} (hl : k < l.length) (hr : k < r.length) (h : l[k] ≠ r[k]) : ¬ l = r := by rintro rfl; exact h rfl
set_option maxRecDepth 100000 in
set_option maxHeartbeats 4000000 in
theorem tbSame_any (A B : Option Addr) (n m c d C : Nat) (l r : List Tb.Slot) (w : World) (ha : Slots w C A n l) (hb : Slots w C B m r) (hn : n ≤ 9223372036854775807) (hm : m ≤ 9223372036854775807) :
    Calls Try.prog 15 #[.slice A n c, .slice B m d] w (BoolPost (decide (l = r)) w) := by
  have hal := ha.len
  have hbl := hb.len
  by_cases hnm : n = m
  · subst hnm
    have e0 : ((n : Int) == n) = true := by simp
    have e1 : ((n : Int) != n) = false := by simp
    go_enter Try.func15, Try.ntmps15
    go_wp2_with fail
    go_loopw [13] (fun s13 wr => ∃ (k q : Nat), s13 = .int .i64 (k : Int) ∧ k ≤ n ∧ Hid (l.take k = r.take k) ∧ wr = w.drewN q) (fun s13 _ => n - (intOf s13).toNat)
    case atStart => exact ⟨0, 0, rfl, by omega, hide rfl, rfl⟩
    case round =>
      obtain ⟨k, q, rfl, hk, HE, rfl⟩ := hrel
      by_cases hlt : k < n
      · have hlt' : (k : Int) < (n : Int) := by omega
        obtain ⟨b1, o1, hl1, rfl, hc, c0, c1, c2, c3⟩ := (ha.drewN q).at_ hlt
        obtain ⟨b2, o2, hl2, rfl, hd, d0, d1, d2, d3⟩ := (hb.drewN q).at_ hlt
        by_cases he : l[k] = r[k]
        · have HE2 : Hid (l.take (k + 1) = r.take (k + 1)) := hide (by rw [List.take_succ_eq_append_getElem hl1, List.take_succ_eq_append_getElem hl2, HE.out, he])
          rw [← he] at d0 d1 d2 d3
          generalize l[k] = x at *
          clear he
          go_wp2_with fail
          refine region_B (by kernel_rfl) C ?_
          refine takeB 0 rfl (by kernel_rfl) (fun _ _ _ h => h) (by rfl) (by intro w' hg; go_simp; try with_reducible rfl) ?_
          refine takeB 1 rfl (by kernel_rfl) (fun _ _ _ h => h) (by rfl) (by intro w' hg; go_simp; try with_reducible rfl) ?_
          refine takeB 2 rfl (by kernel_rfl) (fun _ _ _ h => h) (by rfl) (by intro w' hg; go_simp; try with_reducible rfl) ?_
          refine takeB 3 rfl (by kernel_rfl) (fun _ _ _ h => h) (by rfl) (fun w' hg => exec_load_slot (y := x) rfl rfl ((hg.cell (p := ⟨b1, o1 + k * 4, none⟩) hc).trans (show (w.drewN q).drew.cell? _ = _ from c0)) ((hg.cell (p := ⟨b1, o1 + k * 4 + 1, none⟩) hc).trans (show (w.drewN q).drew.cell? _ = _ from c1)) ((hg.cell (p := ⟨b1, o1 + k * 4 + 2, none⟩) hc).trans (show (w.drewN q).drew.cell? _ = _ from c2)) ((hg.cell (p := ⟨b1, o1 + k * 4 + 3, none⟩) hc).trans (show (w.drewN q).drew.cell? _ = _ from c3))) ?_
          refine takeB 4 rfl (by kernel_rfl) (fun _ _ _ h => h) (by rfl) (by intro w' hg; go_simp; try with_reducible rfl) ?_
          refine takeB 5 rfl (by kernel_rfl) (fun _ _ _ h => h) (by rfl) (by intro w' hg; go_simp; try with_reducible rfl) ?_
          refine takeB 6 rfl (by kernel_rfl) (fun _ _ _ h => h) (by rfl) (by intro w' hg; go_simp; try with_reducible rfl) ?_
          refine takeB 7 rfl (by kernel_rfl) (fun _ _ _ h => h) (by rfl) (fun w' hg => exec_load_slot (y := x) rfl rfl ((hg.cell (p := ⟨b2, o2 + k * 4, none⟩) hd).trans (show (w.drewN q).drew.cell? _ = _ from d0)) ((hg.cell (p := ⟨b2, o2 + k * 4 + 1, none⟩) hd).trans (show (w.drewN q).drew.cell? _ = _ from d1)) ((hg.cell (p := ⟨b2, o2 + k * 4 + 2, none⟩) hd).trans (show (w.drewN q).drew.cell? _ = _ from d2)) ((hg.cell (p := ⟨b2, o2 + k * 4 + 3, none⟩) hd).trans (show (w.drewN q).drew.cell? _ = _ from d3))) ?_
          refine takeB 8 rfl (by kernel_rfl) (fun _ _ _ h => h) (by rfl) (by intro w' hg; exact exec_neq_slot (x := x) (y := x) rfl (by kernel_rfl) (by kernel_rfl)) ?_
          refine doneB (by kernel_rfl) ?_
          rw [show decide (x = x) = true by simp]
          go_simp
          go_wp2
          go_roundw
          case rel => exact ⟨k + 1, q + 1, by go_num, by omega, HE2, rfl⟩
          case measure => simp [intOf]; omega
        · have HN : Hid (decide (l = r) = false) := hide (decide_eq_false (slots_ne hl1 hl2 he))
          generalize l[k] = x at *
          generalize r[k] = y at *
          have HX : Hid (decide (x = y) = false) := hide (decide_eq_false he)
          clear he
          go_wp2_with fail
          refine region_B (by kernel_rfl) C ?_
          refine takeB 0 rfl (by kernel_rfl) (fun _ _ _ h => h) (by rfl) (by intro w' hg; go_simp; try with_reducible rfl) ?_
          refine takeB 1 rfl (by kernel_rfl) (fun _ _ _ h => h) (by rfl) (by intro w' hg; go_simp; try with_reducible rfl) ?_
          refine takeB 2 rfl (by kernel_rfl) (fun _ _ _ h => h) (by rfl) (by intro w' hg; go_simp; try with_reducible rfl) ?_
          refine takeB 3 rfl (by kernel_rfl) (fun _ _ _ h => h) (by rfl) (fun w' hg => exec_load_slot (y := x) rfl rfl ((hg.cell (p := ⟨b1, o1 + k * 4, none⟩) hc).trans (show (w.drewN q).drew.cell? _ = _ from c0)) ((hg.cell (p := ⟨b1, o1 + k * 4 + 1, none⟩) hc).trans (show (w.drewN q).drew.cell? _ = _ from c1)) ((hg.cell (p := ⟨b1, o1 + k * 4 + 2, none⟩) hc).trans (show (w.drewN q).drew.cell? _ = _ from c2)) ((hg.cell (p := ⟨b1, o1 + k * 4 + 3, none⟩) hc).trans (show (w.drewN q).drew.cell? _ = _ from c3))) ?_
          refine takeB 4 rfl (by kernel_rfl) (fun _ _ _ h => h) (by rfl) (by intro w' hg; go_simp; try with_reducible rfl) ?_
          refine takeB 5 rfl (by kernel_rfl) (fun _ _ _ h => h) (by rfl) (by intro w' hg; go_simp; try with_reducible rfl) ?_
          refine takeB 6 rfl (by kernel_rfl) (fun _ _ _ h => h) (by rfl) (by intro w' hg; go_simp; try with_reducible rfl) ?_
          refine takeB 7 rfl (by kernel_rfl) (fun _ _ _ h => h) (by rfl) (fun w' hg => exec_load_slot (y := y) rfl rfl ((hg.cell (p := ⟨b2, o2 + k * 4, none⟩) hd).trans (show (w.drewN q).drew.cell? _ = _ from d0)) ((hg.cell (p := ⟨b2, o2 + k * 4 + 1, none⟩) hd).trans (show (w.drewN q).drew.cell? _ = _ from d1)) ((hg.cell (p := ⟨b2, o2 + k * 4 + 2, none⟩) hd).trans (show (w.drewN q).drew.cell? _ = _ from d2)) ((hg.cell (p := ⟨b2, o2 + k * 4 + 3, none⟩) hd).trans (show (w.drewN q).drew.cell? _ = _ from d3))) ?_
          refine takeB 8 rfl (by kernel_rfl) (fun _ _ _ h => h) (by rfl) (by intro w' hg; exact exec_neq_slot (x := x) (y := y) rfl (by kernel_rfl) (by kernel_rfl)) ?_
          refine doneB (by kernel_rfl) ?_
          rw [HX.out]
          go_simp
          go_wp2
          go_ret
          exact ⟨ret_bool2 HN.out.symm, Below.drews (q + 1)⟩
      · obtain rfl : k = n := by omega
        have HY : Hid (decide (l = r) = true) := hide (decide_eq_true (by have := HE.out; rwa [List.take_of_length_le (by omega), List.take_of_length_le (by omega)] at this))
        go_wp2
        go_ret
        exact ⟨ret_bool2 HY.out.symm, Below.drews q⟩
  · have e0 : ((n : Int) == m) = false := by simp; omega
    have e1 : ((n : Int) != m) = true := by simp; omega
    have HN : Hid (decide (l = r) = false) := hide (decide_eq_false (by rintro rfl; omega))
    go_enter Try.func15, Try.ntmps15
    go_wp2
    go_ret
    exact ⟨ret_bool2 HN.out.symm, Below.refl _ _⟩

set_option maxRecDepth 100000 in
set_option maxHeartbeats 8000000 in
theorem rfPut_any (l : List Tb.Slot) (s : Tb.Slot) (A : Option Addr) (n cap B : Nat) (W : World) (h : Slots W B A n l) (hB : B ≤ W.heap.size) (hn : n ≤ cap ∧ cap ≤ 9223372036854775807) :
    Calls Try.prog 14 #[.slice A n cap, sta s] W (PutPost (Tb.put l s) W) := by
  have hl := h.len
  obtain ⟨w1, hw, m, hm, O1, hb, hs⟩ := start_sl W s
  subst hm
  have HB := hide hb
  have HR := hide ((h.mono hB).later hb)
  clear hb h
  go_enter Try.func14, Try.ntmps14
  go_wp2_with fail
  refine (rfValid_any l A n cap _ HR.out hn).mono ?_
  rintro e w2 ⟨rfl, hb2⟩
  have HR2 := hide (HR.out.later hb2)
  have O2 := O1.below hb2 O1.lt
  have HB2 := hide (HB.out.trans (hb2.mono HB.out.size))
  clear hb2 O1 HR HB
  by_cases hv : Tb.Valid l
  case neg =>
    rw [decide_eq_false hv]
    have HF := hide (Tb.put_bad (s := s) (fun h => hv h.1))
    clear hv
    go_wp2_with fail
    go_ret3
    exact PutPost.of HF.out rfl Slots.nil (by omega) HB2.out
  rw [decide_eq_true hv]
  have HV := hide hv
  have h16 : n ≤ 16 := by have := hv.1; omega
  clear hv
  go_wp2_with (first | (refine wpList_val (by rfl) (exec_load_slot0 rfl rfl O2) ?_) | fail)
  refine (refSlot_any s _).mono ?_
  rintro e w3 ⟨rfl, hb3⟩
  have HR3 := hide (HR2.out.later hb3)
  have O3 := O2.below hb3 O2.lt
  have HB3 := hide (HB2.out.trans (hb3.mono HB2.out.size))
  have k0 := O3.cell 0
  simp at k0
  clear hb3 O2 HR2 HB2
  by_cases hok : s.Ok
  case neg =>
    rw [decide_eq_false hok]
    have HF := hide (Tb.put_bad (l := l) (fun h => hok h.2.1))
    clear hok
    go_wp2_with fail
    go_ret3
    exact PutPost.of HF.out rfl Slots.nil (by omega) HB3.out
  rw [decide_eq_true hok]
  have HOK := hide hok
  clear hok
  by_cases hz : s.kind = 0
  · have z1 : (s.kind == 0) = true := by simpa using hz
    have HF := hide (Tb.put_bad (l := l) (s := s) (fun h => h.2.2 hz))
    clear hz
    go_wp2_with fail
    go_ret3
    exact PutPost.of HF.out rfl Slots.nil (by omega) HB3.out
  have z1 : (s.kind == 0) = false := by simpa using hz
  have HA : Hid (Tb.Valid l ∧ s.Ok ∧ s.kind ≠ 0) := hide ⟨HV.out, HOK.out, hz⟩
  have HS3 : Hid (W.heap.size < w3.heap.size) := hide O3.lt
  clear hz HOK HV
  go_wp2_with (first | (at_builtin; refine wpList_append_rd rfl _ _ _ rfl slotTy (A := none) (n := 0) (c := 0) (xs := []) (base := w3.heap.size) rfl own_none (S := A) (m := n) (d := cap) (news := stv l) rfl HR3.out.2 (stv_one _) (by unfold maxLen; omega) (by omega) (Nat.le_refl _) ?_; intro A4 c4 w4 hown4 hg4 _; rw [Nat.zero_add, List.nil_append] at hown4; have HO4 := hide hown4; have HB4 := hide (HB3.out.trans ((below_none hg4).mono HB3.out.size)); have O4 := O3.below (below_none hg4) O3.lt; have hs4 : w3.heap.size ≤ w4.heap.size := hg4.size; clear hown4 hg4 O3 k0) | fail)
  have HC4 : Hid (n ≤ c4 ∧ c4 ≤ 9223372036854775807) := hide ⟨own_cap HO4.out, own_cap63 HO4.out⟩
  go_loopw [27] (fun s27 wr => ∃ k : Nat, s27 = .int .i64 (k : Int) ∧ k ≤ n ∧ Hid (Below w4.heap.size w4 wr) ∧ Hid (∀ j (hj : j < l.length), j < k → l[j].kind ≠ 0)) (fun s27 _ => n - (intOf s27).toNat)
  case atStart => exact ⟨0, rfl, by omega, hide (Below.refl _ _), hide (fun j _ hj => by omega)⟩
  case round =>
    obtain ⟨k, rfl, hk, HB, HZ⟩ := hrel
    have OR := O4.below HB.out O4.lt
    have HOR := hide (own_below HO4.out HB.out)
    by_cases hlt : k < n
    · have hlt' : (k : Int) < (n : Int) := by omega
      obtain ⟨b, o, hkl, e4, hb, c0, c1, c2, c3⟩ := (Slots.of_own HOR.out).at_ hlt
      obtain ⟨g4, e5, hg5⟩ := own_addr HOR.out (by omega)
      obtain rfl := e4.symm.trans e5 |> Option.some.inj |> Addr.mk.inj |> And.left
      obtain rfl : o = 0 := (Addr.mk.inj (Option.some.inj (e4.symm.trans e5))).2.1
      subst e4
      obtain ⟨y, hy⟩ : ∃ y, l[k] = y := ⟨_, rfl⟩
      have HY := hide hy
      rw [hy] at c0 c1 c2 c3
      rw [Nat.zero_add] at c0 c1 c2 c3
      obtain ⟨w5, hw5, g, hg, w6, hw6, OZ, ON, hb6, hs6⟩ := start_zslot wr y
      have HO6 := hide (own_below HOR.out (hb6.mono (by omega)))
      have O6 := OR.below hb6 (by have := OR.lt; omega)
      have HB6 := hide (HB.out.trans (hb6.mono (by have := HB.out.size; omega)))
      have n0 := ON.cell 0
      simp at n0
      clear e5 hy hb6
      by_cases hz : y.kind = 0
      · have z2 : (y.kind == 0) = true := by simpa using hz
        have HFR : Hid (Tb.free l = k) := hide (Tb.free_eq hkl (by rw [HY.out]; exact hz) HZ.out)
        have HF := hide (Tb.put_in HA.out (by rw [HFR.out]; omega) HFR.out hkl)
        have HKL := hide hkl
        clear hz HZ
        go_wp2_with (first | (refine wpList_val (by rfl) (exec_load_slot rfl rfl c0 c1 c2 c3) ?_) | (refine store_slot rfl _ _ rfl rfl (c := y) rfl OZ rfl ?_; rw [hw6]) | (refine wpList_val (by rfl) (exec_load_slot0 rfl rfl O6) ?_) | (refine store_slot_mid rfl _ _ rfl rfl (s := s) rfl HO6.out HKL.out ?_) | fail)
        go_ret3
        have h8 := own_setSlot HO6.out (k := k) HKL.out s
        exact PutPost.of HF.out rfl (Slots.of_own h8) ⟨own_cap h8, own_cap63 h8⟩ (below_cells (HB4.out.trans (HB6.out.mono (by have := HS3.out; omega))) (by have := HS3.out; have := hg5.1; omega) _ _)
      · have z2 : (y.kind == 0) = false := by simpa using hz
        have HZ2 : Hid (∀ j (hj : j < l.length), j < k + 1 → l[j].kind ≠ 0) := hide (fun j hj hjk => by
          rcases Nat.lt_or_ge j k with h' | h'
          · exact HZ.out j hj h'
          · obtain rfl : j = k := by omega
            rw [HY.out]; exact hz)
        clear hz HZ
        go_wp2_with (first | (refine wpList_val (by rfl) (exec_load_slot rfl rfl c0 c1 c2 c3) ?_) | (refine store_slot rfl _ _ rfl rfl (c := y) rfl OZ rfl ?_; rw [hw6]) | fail)
        go_roundw
        case rel => exact ⟨k + 1, by go_num, by omega, HB6, HZ2⟩
        case measure => simp [intOf]; omega
    · obtain rfl : k = n := by omega
      have HFR : Hid (Tb.free l = k) := hide (by rw [Tb.free_none (fun j hj => HZ.out j hj (by omega)), hl])
      by_cases hf : k < 16
      · have hf' : ¬ (16 : Int) ≤ (k : Int) := by omega
        have HF := hide (Tb.put_end HA.out (by rw [HFR.out]; exact hf) hl HFR.out)
        have hwr : w4.heap.size ≤ wr.heap.size := HB.out.size
        go_wp2_with (first | (refine wpList_val (by rfl) (exec_load_slot0 rfl rfl OR) ?_) | (at_builtin; refine wpList_append_rd rfl _ _ _ rfl slotTy (base := w3.heap.size) rfl (HOR.out.alloc (.cells #[.int .i64 s.kind, .int .u64 s.desc, .int .u64 s.target, .int .i64 s.fin] 25)) rfl (Row.slot wr s 25) (by simp [Value.oneCell']) (by unfold maxLen; omega) (by omega) (by simp; omega) ?_; intro A7 c7 w7 hown7 hg7 _; have HB7 := hide (below_own ((Below.refl w3.heap.size wr).alloc (by omega) _) (HOR.out.alloc _) hg7 (by simp; omega)); rw [stv_snoc l s] at hown7; have HO7 := hide hown7; clear hown7 hg7) | fail)
        go_ret3
        exact PutPost.of HF.out rfl (Slots.of_own HO7.out) ⟨own_cap HO7.out, own_cap63 HO7.out⟩ ((HB4.out.trans (HB.out.mono (by have := HS3.out; omega))).trans (HB7.out.mono (by have := HS3.out; omega)))
      · have hf' : (16 : Int) ≤ (k : Int) := by omega
        have HF := hide (Tb.put_full HA.out (by rw [HFR.out]; exact hf))
        go_wp2_with fail
        go_ret3
        exact PutPost.of HF.out rfl Slots.nil (by omega) (HB4.out.trans (HB.out.mono (by have := HS3.out; omega)))

set_option maxRecDepth 100000 in
set_option maxHeartbeats 8000000 in
theorem rfClear_any (l : List Tb.Slot) (A : Option Addr) (n cap B : Nat) (i : Int) (W : World) (h : Slots W B A n l) (hB : B ≤ W.heap.size) (hn : n ≤ cap ∧ cap ≤ 9223372036854775807) :
    Calls Try.prog 21 #[.slice A n cap, .int .i64 i] W (ClearPost (Tb.clear l i) W) := by
  have hl := h.len
  have HR := hide (h.mono hB)
  have hn' : (n : Int) ≤ 9223372036854775807 := by omega
  have hnc : (n : Int) ≤ (cap : Int) := by omega
  clear h
  go_enter Try.func21, Try.ntmps21
  go_wp2_with fail
  refine (rfValid_any l A n cap _ HR.out hn).mono ?_
  rintro e w2 ⟨rfl, hb2⟩
  have HR2 := hide (HR.out.later hb2)
  have HB2 := hide hb2
  clear hb2 HR
  by_cases hv : Tb.Valid l
  case neg =>
    rw [decide_eq_false hv]
    have HF := hide (Tb.clear_bad hv i)
    clear hv
    go_wp2_with fail
    go_ret2
    exact ClearPost.of HF.out rfl Slots.nil (by omega) HB2.out
  rw [decide_eq_true hv]
  have HV := hide hv
  have h16 : n ≤ 16 := by have := hv.1; omega
  clear hv
  go_wp2_with fail
  refine (rfGet_any l A n cap _ i _ HR2.out (Nat.le_refl _) hn).mono ?_
  intro e w3 hp
  rcases Tb.get_or (l := l) i with hg | ⟨k, hk, rfl, hg, hz⟩
  · obtain ⟨rfl, hb3⟩ := hp.got hg
    have HF := hide (Tb.clear_miss HV.out hg)
    have HB3 := hide (HB2.out.trans (hb3.mono HB2.out.size))
    clear hp hg hb3
    obtain ⟨w4, hw4, O4, hb4, hs4⟩ := start_slot0 w3
    have HB4 := hide (HB3.out.trans (hb4.mono HB3.out.size))
    have HS : Hid (W.heap.size ≤ w3.heap.size) := hide HB3.out.size
    clear hb4 hs4
    go_wp2_with (first | (refine store_slot rfl _ _ rfl rfl (c := Tb.Slot.zero) rfl O4 rfl ?_) | fail)
    go_ret2
    exact ClearPost.of HF.out rfl Slots.nil (by omega) (below_row HB4.out HS.out _)
  · obtain ⟨rfl, hb3⟩ := hp.got hg
    have HF := hide (Tb.clear_at HV.out hg)
    have HB3 := hide (HB2.out.trans (hb3.mono HB2.out.size))
    have HR3 := hide (HR2.out.later hb3)
    have HK : Hid (k < l.length) := hide hk
    have hkn : (k : Int) < (n : Int) := by omega
    have hkn2 : k < n := by omega
    clear hp hg hb3 HR2 hz
    generalize l[k] = x
    obtain ⟨w4, hw4, O4, hb4, hs4⟩ := start_slot0 w3
    have HB4 := hide (HB3.out.trans (hb4.mono HB3.out.size))
    have HS : Hid (W.heap.size ≤ w3.heap.size) := hide HB3.out.size
    obtain ⟨w5, hw5⟩ : ∃ w5, w4.setRow w3.heap.size #[.int .i64 x.kind, .int .u64 x.desc, .int .u64 x.target, .int .i64 x.fin] = w5 := ⟨_, rfl⟩
    have HB5 : Hid (Below W.heap.size W w5) := hide (by rw [← hw5]; exact below_row HB4.out HS.out _)
    have hs5 : w5.heap.size = w3.heap.size + 1 := by rw [← hw5]; simpa [World.setRow] using hs4
    have HR5 : Hid (Slots w5 w3.heap.size A n l) := hide (by
      rw [← hw5]
      exact HR3.out.below (below_row hb4 (Nat.le_refl _) _))
    clear hb4 HR3
    go_wp2_with (first | (refine store_slot rfl _ _ rfl rfl (c := x) rfl O4 rfl ?_; rw [hw5]) | (at_builtin; refine wpList_append_rd rfl _ _ _ rfl slotTy (A := none) (n := 0) (c := 0) (xs := []) (base := w5.heap.size) rfl own_none (S := A) (m := n) (d := cap) (news := stv l) rfl HR5.out.2 (stv_one _) (by unfold maxLen; omega) (by omega) (by omega) ?_; intro A6 c6 w6 hown6 hg6 _; rw [Nat.zero_add, List.nil_append] at hown6; have HO6 := hide hown6; have HB6 := hide (HB5.out.trans ((below_none hg6).mono HB5.out.size)); have hs6 : w5.heap.size ≤ w6.heap.size := hg6.size; obtain ⟨g, rfl, hgl⟩ := own_addr hown6 (by omega); clear hown6 hg6) | (refine wpList_val (by rfl) (exec_build rfl rfl built_slot0) ?_) | (refine store_slot_mid rfl _ _ rfl rfl (s := Tb.Slot.zero) rfl HO6.out HK.out ?_; obtain ⟨w7, hw7⟩ : ∃ w7, w6.setCells g (k * 4) [.int .i64 Tb.Slot.zero.kind, .int .u64 Tb.Slot.zero.desc, .int .u64 Tb.Slot.zero.target, .int .i64 Tb.Slot.zero.fin] = w7 := ⟨_, rfl⟩; rw [hw7]) | fail)
    go_simp
    have h8 := own_setSlot HO6.out (k := k) HK.out Tb.Slot.zero
    rw [hw7] at h8
    have HB7 : Hid (Below W.heap.size W w7) := hide (by rw [← hw7]; exact below_cells HB6.out (by have := HS.out; omega) _ _)
    have HO7 := hide h8
    have hc6 : n ≤ c6 ∧ c6 ≤ 9223372036854775807 := ⟨own_cap HO6.out, own_cap63 HO6.out⟩
    have hc6' : (n : Int) ≤ (c6 : Int) := by omega
    have HL2 : Hid ((l.set k Tb.Slot.zero).length = n) := hide (by simpa using hl)
    clear h8 hw7
    generalize l.set k Tb.Slot.zero = r at *
    go_loopw [8] (fun s8 wr => ∃ m : Nat, s8 = .slice (some ⟨g, 0, none⟩) m c6 ∧ m ≤ n ∧ wr = w7 ∧ Hid (∀ j (hj : j < r.length), m ≤ j → r[j].kind = 0)) (fun s8 _ => slLen s8)
    case atStart => exact ⟨n, rfl, by omega, by first | rfl | trivial, hide (fun j hj hm => by have := HL2.out; omega)⟩
    case round =>
      obtain ⟨m, rfl, hm, rfl, HZ⟩ := hrel
      rcases Nat.eq_zero_or_pos m with h0 | h0
      · subst h0
        have HT : Hid (Tb.trim r = r.take 0) := hide (Tb.trim_take (Nat.zero_le _) HZ.out (by rw [Tb.lastOf_take0]; decide))
        go_wp2_with fail
        go_ret2
        exact ClearPost.of (HF.out.trans (by rw [HT.out])) rfl ((Slots.of_own HO7.out).takeN (Nat.zero_le _)) (by omega) HB7.out
      · obtain ⟨p, hp⟩ : ∃ p, m - 1 = p := ⟨_, rfl⟩
        have dm : (m : Int) - 1 = (p : Int) := by omega
        have h0' : (0 : Int) < (m : Int) := by omega
        have hpm : (p : Int) < (m : Int) := by omega
        have hpc : (p : Int) ≤ (c6 : Int) := by omega
        have hmc : (m : Int) ≤ (c6 : Int) := by omega
        have hlr := HL2.out
        obtain ⟨b, o, hpl, e9, hb, c0, c1, c2, c3⟩ := (Slots.of_own HO7.out).at_ (show p < n by omega)
        cases e9
        have HL : Hid (Tb.lastOf (r.take m) = r[p]) := hide (Tb.lastOf_take hp h0 (by omega))
        obtain ⟨x, hx⟩ : ∃ x, r[p] = x := ⟨_, rfl⟩
        have HX := hide hx
        rw [hx] at c0 c1 c2 c3 HL
        rw [Nat.zero_add] at c0
        have HP := hide hp
        clear hx hp hlr
        by_cases hz : x.kind = 0
        · have z2 : (x.kind == 0) = true := by simpa using hz
          have HZ2 : Hid (∀ j (hj : j < r.length), p ≤ j → r[j].kind = 0) := hide (fun j hj hpj => by
            have hpp := HP.out
            rcases Nat.lt_or_ge j m with h' | h'
            · obtain rfl : j = p := by omega
              rw [HX.out]; exact hz
            · exact HZ.out j hj h')
          clear hz
          go_wp2_with fail
          go_roundw
          case rel => exact ⟨p, rfl, by omega, by first | rfl | trivial, HZ2⟩
          case measure => simp [slLen]; omega
        · have z2 : (x.kind == 0) = false := by simpa using hz
          have HT : Hid (Tb.trim r = r.take m) := hide (Tb.trim_take (by have := HL2.out; omega) HZ.out (by rw [HL.out]; exact hz))
          clear hz
          go_wp2_with fail
          go_ret2
          exact ClearPost.of (HF.out.trans (by rw [HT.out])) rfl ((Slots.of_own HO7.out).takeN hm) (by omega) HB7.out
end Go.Proofs.Ytbbibbniphmgbaa
