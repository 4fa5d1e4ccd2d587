/- Layer 4, slices.Equal at strings and instructions: contracts. -/
import Derived.Test.YtfjekckcpkkdiaaGreatDoorCodeMem
import Derived.Test.YtfjekckcpkkdiaaGreatDoorWordsRef
import Derived.Test.YtfjekckcpkkdiaaGreatDoorRegionB
import Derived.Deep.QuietTactic
import Derived.BigQuiet
namespace Go.Proofs.YtfjekckcpkkdiaaGreatDoor
open Go.RowKit

theorem ins_ne {l r : List Cd.Ins} {k : Nat} (hl : k < l.length) (hr : k < r.length) (h : l[k] ≠ r[k]) : l ≠ r := by rintro rfl; exact h rfl
theorem strs_ne' {l r : List (List UInt8)} {k : Nat} (hl : k < l.length) (hr : k < r.length) (h : l[k] ≠ r[k]) : l ≠ r := by rintro rfl; exact h rfl
theorem take_eq_all {α : Type} {l r : List α} {n : Nat} (h : l.take n = r.take n) (hl : l.length = n) (hr : r.length = n) : l = r := by
  rwa [List.take_of_length_le (by omega), List.take_of_length_le (by omega)] at h
theorem take_snoc_eq {α : Type} {l r : List α} {k : Nat} (h : l.take k = r.take k) (hl : k < l.length) (hr : k < r.length) (he : l[k] = r[k]) : l.take (k + 1) = r.take (k + 1) := by
  rw [List.take_succ_eq_append_getElem hl, List.take_succ_eq_append_getElem hr, h, he]
def insEq (x y : Cd.Ins) : Bool := (x.op == y.op) && ((x.a == y.a) && ((x.b == y.b) && (x.c == y.c)))
theorem insEq_iff (x y : Cd.Ins) : insEq x y = true ↔ x = y := by
  obtain ⟨a, b, c, d⟩ := x
  obtain ⟨e, f, g, h⟩ := y
  simp [insEq]

set_option maxRecDepth 100000 in
set_option maxHeartbeats 2000000 in
theorem equalIns_any (A B : Option Addr) (n m c d C : Nat) (l r : List Cd.Ins) (w : World) (ha : Inss w C A n l) (hb : Inss w C B m r) (hn : n ≤ 9223372036854775807) (hm : m ≤ 9223372036854775807) :
    Calls Tryz.prog 35 #[.slice A n c, .slice B m d] w fun e w' => e = .returned (.bool (decide (l = r))) ∧ Below w.heap.size w w' := by
  have hal := ha.len
  have hbl := hb.len
  by_cases hnm : n = m
  · subst hnm
    have e0 : ((n : Int) == n) = true := by simp
    go_enter Tryz.func35, Tryz.ntmps35
    go_wp2_with fail
    go_loopw [13] (fun s13 wr => ∃ (k q : Nat), s13 = .int .i64 (k : Int) ∧ k ≤ n ∧ Hid (l.take k = r.take k) ∧ wr = w.drewN q) (fun s13 _ => n - (intOf s13).toNat)
    case atStart => exact ⟨0, 0, rfl, by omega, hide rfl, rfl⟩
    case round =>
      obtain ⟨k, q, rfl, hk, HE, rfl⟩ := hrel
      by_cases hlt : k < n
      · obtain ⟨b1, o1, hl1, rfl, hb1, c0, c1, c2, c3⟩ := (ha.drewN q).at_ hlt
        obtain ⟨b2, o2, hl2, rfl, hb2, d0, d1, d2, d3⟩ := (hb.drewN q).at_ hlt
        by_cases he : l[k] = r[k]
        · have HE2 := hide (take_snoc_eq HE.out hl1 hl2 he)
          rw [← he] at d0 d1 d2 d3
          generalize l[k] = x at *
          clear he
          have eo : (x.op == x.op) = true := by simp
          have ea : (x.a == x.a) = true := by simp
          have eb : (x.b == x.b) = true := by simp
          have ec : (x.c == x.c) = true := by simp
          go_wp2_with fail
          refine region_B (by kernel_rfl) C ?_
          refine takeB 0 rfl (by kernel_rfl) (fun _ _ _ h => h) (by rfl) (by intro w' hg; go_simp; try with_reducible rfl) ?_
          refine takeB 1 rfl (by kernel_rfl) (fun _ _ _ h => h) (by rfl) (by intro w' hg; go_simp; try with_reducible rfl) ?_
          refine takeB 2 rfl (by kernel_rfl) (fun _ _ _ h => h) (by rfl) (by intro w' hg; go_simp; try with_reducible rfl) ?_
          refine takeB 3 rfl (by kernel_rfl) (fun _ _ _ h => h) (by rfl) (by intro w' hg; have g0 := (hg.cell (p := ⟨b1, o1 + k * 4, none⟩) hb1).trans (show (w.drewN q).drew.cell? _ = _ from c0); have g1 := (hg.cell (p := ⟨b1, o1 + k * 4 + 1, none⟩) hb1).trans (show (w.drewN q).drew.cell? _ = _ from c1); have g2 := (hg.cell (p := ⟨b1, o1 + k * 4 + 2, none⟩) hb1).trans (show (w.drewN q).drew.cell? _ = _ from c2); have g3 := (hg.cell (p := ⟨b1, o1 + k * 4 + 3, none⟩) hb1).trans (show (w.drewN q).drew.cell? _ = _ from c3); go_simp; try with_reducible rfl) ?_
          refine takeB 4 rfl (by kernel_rfl) (fun _ _ _ h => h) (by rfl) (by intro w' hg; go_simp; try with_reducible rfl) ?_
          refine takeB 5 rfl (by kernel_rfl) (fun _ _ _ h => h) (by rfl) (by intro w' hg; go_simp; try with_reducible rfl) ?_
          refine takeB 6 rfl (by kernel_rfl) (fun _ _ _ h => h) (by rfl) (by intro w' hg; go_simp; try with_reducible rfl) ?_
          refine takeB 7 rfl (by kernel_rfl) (fun _ _ _ h => h) (by rfl) (by intro w' hg; have g0 := (hg.cell (p := ⟨b2, o2 + k * 4, none⟩) hb2).trans (show (w.drewN q).drew.cell? _ = _ from d0); have g1 := (hg.cell (p := ⟨b2, o2 + k * 4 + 1, none⟩) hb2).trans (show (w.drewN q).drew.cell? _ = _ from d1); have g2 := (hg.cell (p := ⟨b2, o2 + k * 4 + 2, none⟩) hb2).trans (show (w.drewN q).drew.cell? _ = _ from d2); have g3 := (hg.cell (p := ⟨b2, o2 + k * 4 + 3, none⟩) hb2).trans (show (w.drewN q).drew.cell? _ = _ from d3); go_simp; try with_reducible rfl) ?_
          refine takeB 8 rfl (by kernel_rfl) (fun _ _ _ h => h) (by rfl) (by intro w' hg; go_simp; try with_reducible rfl) ?_
          refine doneB (by kernel_rfl) ?_
          go_simp
          go_wp2
          go_roundw
          case rel => exact ⟨k + 1, q + 1, by go_num, by omega, HE2, rfl⟩
          case measure => simp [intOf]; omega
        · have HN : Hid (decide (l = r) = false) := hide (decide_eq_false (ins_ne hl1 hl2 he))
          generalize l[k] = x at *
          generalize r[k] = y at *
          have hd : ¬ x.op = y.op ∨ (x.op = y.op ∧ ¬ x.a = y.a) ∨ (x.op = y.op ∧ x.a = y.a ∧ ¬ x.b = y.b) ∨ (x.op = y.op ∧ x.a = y.a ∧ x.b = y.b ∧ ¬ x.c = y.c) := by
            by_cases h1 : x.op = y.op
            · by_cases h2 : x.a = y.a
              · by_cases h3 : x.b = y.b
                · by_cases h4 : x.c = y.c
                  · exact absurd ((insEq_iff x y).1 (by simp [insEq, h1, h2, h3, h4])) he
                  · exact .inr (.inr (.inr ⟨h1, h2, h3, h4⟩))
                · exact .inr (.inr (.inl ⟨h1, h2, h3⟩))
              · exact .inr (.inl ⟨h1, h2⟩)
            · exact .inl h1
          clear he
          rcases hd with h1 | ⟨h1, h2⟩ | ⟨h1, h2, h3⟩ | ⟨h1, h2, h3, h4⟩
          all_goals
            go_wp2_with fail
            refine region_B (by kernel_rfl) C ?_
            refine takeB 0 rfl (by kernel_rfl) (fun _ _ _ h => h) (by rfl) (by intro w' hg; go_simp; try with_reducible rfl) ?_
            refine takeB 1 rfl (by kernel_rfl) (fun _ _ _ h => h) (by rfl) (by intro w' hg; go_simp; try with_reducible rfl) ?_
            refine takeB 2 rfl (by kernel_rfl) (fun _ _ _ h => h) (by rfl) (by intro w' hg; go_simp; try with_reducible rfl) ?_
            refine takeB 3 rfl (by kernel_rfl) (fun _ _ _ h => h) (by rfl) (by intro w' hg; have g0 := (hg.cell (p := ⟨b1, o1 + k * 4, none⟩) hb1).trans (show (w.drewN q).drew.cell? _ = _ from c0); have g1 := (hg.cell (p := ⟨b1, o1 + k * 4 + 1, none⟩) hb1).trans (show (w.drewN q).drew.cell? _ = _ from c1); have g2 := (hg.cell (p := ⟨b1, o1 + k * 4 + 2, none⟩) hb1).trans (show (w.drewN q).drew.cell? _ = _ from c2); have g3 := (hg.cell (p := ⟨b1, o1 + k * 4 + 3, none⟩) hb1).trans (show (w.drewN q).drew.cell? _ = _ from c3); go_simp; try with_reducible rfl) ?_
            refine takeB 4 rfl (by kernel_rfl) (fun _ _ _ h => h) (by rfl) (by intro w' hg; go_simp; try with_reducible rfl) ?_
            refine takeB 5 rfl (by kernel_rfl) (fun _ _ _ h => h) (by rfl) (by intro w' hg; go_simp; try with_reducible rfl) ?_
            refine takeB 6 rfl (by kernel_rfl) (fun _ _ _ h => h) (by rfl) (by intro w' hg; go_simp; try with_reducible rfl) ?_
            refine takeB 7 rfl (by kernel_rfl) (fun _ _ _ h => h) (by rfl) (by intro w' hg; have g0 := (hg.cell (p := ⟨b2, o2 + k * 4, none⟩) hb2).trans (show (w.drewN q).drew.cell? _ = _ from d0); have g1 := (hg.cell (p := ⟨b2, o2 + k * 4 + 1, none⟩) hb2).trans (show (w.drewN q).drew.cell? _ = _ from d1); have g2 := (hg.cell (p := ⟨b2, o2 + k * 4 + 2, none⟩) hb2).trans (show (w.drewN q).drew.cell? _ = _ from d2); have g3 := (hg.cell (p := ⟨b2, o2 + k * 4 + 3, none⟩) hb2).trans (show (w.drewN q).drew.cell? _ = _ from d3); go_simp; try with_reducible rfl) ?_
            refine takeB 8 rfl (by kernel_rfl) (fun _ _ _ h => h) (by rfl) (by intro w' hg; go_simp; try with_reducible rfl) ?_
            refine doneB (by kernel_rfl) ?_
            go_simp
            go_wp2
            go_ret
            exact ⟨ret_bool HN.out.symm, Below.drews (q + 1)⟩
      · obtain rfl : k = n := by omega
        have HY : Hid (decide (l = r) = true) := hide (decide_eq_true (take_eq_all HE.out hal hbl))
        go_wp2
        go_ret
        exact ⟨ret_bool HY.out.symm, Below.drews q⟩
  · have e0 : ((n : Int) == m) = false := by simp; omega
    have HN : Hid (decide (l = r) = false) := hide (decide_eq_false (by rintro rfl; omega))
    go_enter Tryz.func35, Tryz.ntmps35
    go_wp2
    go_ret
    exact ⟨ret_bool HN.out.symm, Below.refl _ _⟩

set_option maxHeartbeats 400000 in
theorem equalStrs_any (A B : Option Addr) (n m c d : Nat) (l r : List (List UInt8)) (w : World) (C : Nat) (ha : Strs w C A n l) (hb : Strs w C B m r) (hn : n ≤ 9223372036854775807) (hm : m ≤ 9223372036854775807) :
    Calls Tryz.prog 36 #[.slice A n c, .slice B m d] w fun e w' => e = .returned (.bool (decide (l = r))) ∧ Below w.heap.size w w' := by
  by_cases hnm : n = m
  · subst hnm
    have e1 : ((n : Int) != (n : Int)) = false := by simp
    go_enter Tryz.func36, Tryz.ntmps36
    go_wp2_with fail
    go_loopw [13] (fun s13 wr => ∃ k : Nat, s13 = .int .i64 (k : Int) ∧ k ≤ n ∧ Hid (l.take k = r.take k) ∧ ∃ q, wr = w.drewN q) (fun s13 _ => n - (intOf s13).toNat)
    case atStart => exact ⟨0, rfl, by omega, hide rfl, 0, rfl⟩
    case round =>
      obtain ⟨k, rfl, hk, Hk, q, rfl⟩ := hrel
      by_cases hlt : k < n
      · obtain ⟨ba, oa, hla, rfl, _, hca⟩ := ha.at_ hlt
        obtain ⟨bb, ob, hlb, rfl, _, hcb⟩ := hb.at_ hlt
        by_cases he : l[k] = r[k]
        · have hcmp : (l[k] == r[k]) = true := by simpa using he
          have Hk2 : Hid (l.take (k + 1) = r.take (k + 1)) := hide (by
            rw [List.take_succ_eq_append_getElem hla, List.take_succ_eq_append_getElem hlb, Hk.out, he])
          clear he
          go_wp2_with fail
          go_quiet (fail)
          go_wp2
          go_roundw
          case rel => exact ⟨k + 1, by go_num, by omega, Hk2, _, rfl⟩
          case measure => simp [intOf]; omega
        · have hcmp : (l[k] == r[k]) = false := by simpa using he
          have hne := hide (strs_ne hla hlb he)
          clear he
          go_wp2_with fail
          go_quiet (fail)
          go_wp2
          go_ret
          exact ⟨ret_bool (decide_eq_false hne.out).symm, ⟨rfl, rfl, rfl, Nat.le_refl _, fun _ _ => rfl⟩⟩
      · obtain rfl : k = n := by omega
        go_wp2
        go_ret
        have hlr : l = r := by
          have := Hk.out
          rwa [List.take_of_length_le (by rw [ha.len]; exact Nat.le_refl _), List.take_of_length_le (by rw [hb.len]; exact Nat.le_refl _)] at this
        exact ⟨ret_bool (decide_eq_true hlr).symm, ⟨rfl, rfl, rfl, Nat.le_refl _, fun _ _ => rfl⟩⟩
  · have e1 : ((n : Int) != (m : Int)) = true := by simp; omega
    have e2 : ((n : Int) == (m : Int)) = false := by simp; omega
    have hlr : ¬ l = r := fun e => hnm (by rw [← ha.len, ← hb.len, e])
    go_enter Tryz.func36, Tryz.ntmps36
    go_wp2
    go_ret
    exact ⟨ret_bool (decide_eq_false hlr).symm, Below.refl _ _⟩
end Go.Proofs.YtfjekckcpkkdiaaGreatDoor
