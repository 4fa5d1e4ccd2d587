/- Layer 7, the reference: Same: a contract. -/
import Derived.Test.YtoppkgmgjahloaaSpMem
import Derived.Deep.QuietTactic
import Derived.BigQuiet
namespace Go.Proofs.Ytoppkgmgjahloaa
open Go.RowKit

theorem refs_ne {l r : List Sp.Ref} {k : Nat} (hl : k < l.length) (hr : k < r.length) (h : l[k] ≠ r[k]) : ¬ l = r := by rintro rfl; exact h rfl
set_option maxRecDepth 100000 in
set_option maxHeartbeats 4000000 in
theorem sameRefs_any (A B : Option Addr) (n m c d C : Nat) (l r : List Sp.Ref) (w : World) (ha : Refs w C A n l) (hb : Refs w C B m r) (hn : n ≤ 9223372036854775807) (hm : m ≤ 9223372036854775807) :
    Calls Try.prog 20 #[.slice A n c, .slice B m d] w fun e w' => e = .returned (.bool (decide (l = r))) ∧ Below w.heap.size w w' := by
  have hal := ha.len
  have hbl := hb.len
  by_cases hnm : n = m
  · subst hnm
    have e0 : ((n : Int) == n) = true := by simp
    have e1 : ((n : Int) != n) = false := by simp
    go_enter Try.func20, Try.ntmps20
    go_wp2_with fail
    go_loopw [13] (fun s13 wr => ∃ (k q : Nat), s13 = .int .i64 (k : Int) ∧ k ≤ n ∧ Hid (l.take k = r.take k) ∧ wr = w.drewN q) (fun s13 _ => n - (intOf s13).toNat)
    case atStart => exact ⟨0, 0, rfl, by omega, hide rfl, rfl⟩
    case round =>
      obtain ⟨k, q, rfl, hk, HE, rfl⟩ := hrel
      by_cases hlt : k < n
      · have hlt' : (k : Int) < (n : Int) := by omega
        obtain ⟨b1, o1, hl1, rfl, hc, c0, c1⟩ := (ha.drewN q).at_ hlt
        obtain ⟨b2, o2, hl2, rfl, hd, d0, d1⟩ := (hb.drewN q).at_ hlt
        by_cases he : l[k] = r[k]
        · have HE2 : Hid (l.take (k + 1) = r.take (k + 1)) := hide (by rw [List.take_succ_eq_append_getElem hl1, List.take_succ_eq_append_getElem hl2, HE.out, he])
          rw [← he] at d0 d1
          generalize l[k] = x at *
          clear he
          have ei : (x.id == x.id) = true := by simp
          have es : (x.sh == x.sh) = true := by simp
          go_wp2_with fail
          refine region_B (by kernel_rfl) C ?_
          refine takeB 0 rfl (by kernel_rfl) (fun _ _ _ h => h) (by rfl) (by intro w' hg; go_simp; try with_reducible rfl) ?_
          refine takeB 1 rfl (by kernel_rfl) (fun _ _ _ h => h) (by rfl) (by intro w' hg; go_simp; try with_reducible rfl) ?_
          refine takeB 2 rfl (by kernel_rfl) (fun _ _ _ h => h) (by rfl) (by intro w' hg; go_simp; try with_reducible rfl) ?_
          refine takeB 3 rfl (by kernel_rfl) (fun _ _ _ h => h) (by rfl) (by intro w' hg; have g0 := (hg.cell (p := ⟨b1, o1 + k * 2, none⟩) hc).trans (show (w.drewN q).drew.cell? _ = _ from c0); have g1 := (hg.cell (p := ⟨b1, o1 + k * 2 + 1, none⟩) hc).trans (show (w.drewN q).drew.cell? _ = _ from c1); go_simp; try with_reducible rfl) ?_
          refine takeB 4 rfl (by kernel_rfl) (fun _ _ _ h => h) (by rfl) (by intro w' hg; go_simp; try with_reducible rfl) ?_
          refine takeB 5 rfl (by kernel_rfl) (fun _ _ _ h => h) (by rfl) (by intro w' hg; go_simp; try with_reducible rfl) ?_
          refine takeB 6 rfl (by kernel_rfl) (fun _ _ _ h => h) (by rfl) (by intro w' hg; go_simp; try with_reducible rfl) ?_
          refine takeB 7 rfl (by kernel_rfl) (fun _ _ _ h => h) (by rfl) (by intro w' hg; have g0 := (hg.cell (p := ⟨b2, o2 + k * 2, none⟩) hd).trans (show (w.drewN q).drew.cell? _ = _ from d0); have g1 := (hg.cell (p := ⟨b2, o2 + k * 2 + 1, none⟩) hd).trans (show (w.drewN q).drew.cell? _ = _ from d1); go_simp; try with_reducible rfl) ?_
          refine takeB 8 rfl (by kernel_rfl) (fun _ _ _ h => h) (by rfl) (by intro w' hg; go_simp; try with_reducible rfl) ?_
          refine doneB (by kernel_rfl) ?_
          go_simp
          go_wp2
          go_roundw
          case rel => exact ⟨k + 1, q + 1, by go_num, by omega, HE2, rfl⟩
          case measure => simp [intOf]; omega
        · have HN : Hid (decide (l = r) = false) := hide (decide_eq_false (refs_ne hl1 hl2 he))
          generalize l[k] = x at *
          generalize r[k] = y at *
          have hx : ¬ x.id = y.id ∨ (x.id = y.id ∧ ¬ x.sh = y.sh) := by
            by_cases h1 : x.id = y.id
            · refine .inr ⟨h1, fun h2 => he ?_⟩
              obtain ⟨_, _⟩ := x
              obtain ⟨_, _⟩ := y
              simp_all
            · exact .inl h1
          clear he
          rcases hx with h1 | ⟨h1, h2⟩
          · have ei : (x.id == y.id) = false := by simpa using h1
            clear h1
            go_wp2_with fail
            refine region_B (by kernel_rfl) C ?_
            refine takeB 0 rfl (by kernel_rfl) (fun _ _ _ h => h) (by rfl) (by intro w' hg; go_simp; try with_reducible rfl) ?_
            refine takeB 1 rfl (by kernel_rfl) (fun _ _ _ h => h) (by rfl) (by intro w' hg; go_simp; try with_reducible rfl) ?_
            refine takeB 2 rfl (by kernel_rfl) (fun _ _ _ h => h) (by rfl) (by intro w' hg; go_simp; try with_reducible rfl) ?_
            refine takeB 3 rfl (by kernel_rfl) (fun _ _ _ h => h) (by rfl) (by intro w' hg; have g0 := (hg.cell (p := ⟨b1, o1 + k * 2, none⟩) hc).trans (show (w.drewN q).drew.cell? _ = _ from c0); have g1 := (hg.cell (p := ⟨b1, o1 + k * 2 + 1, none⟩) hc).trans (show (w.drewN q).drew.cell? _ = _ from c1); go_simp; try with_reducible rfl) ?_
            refine takeB 4 rfl (by kernel_rfl) (fun _ _ _ h => h) (by rfl) (by intro w' hg; go_simp; try with_reducible rfl) ?_
            refine takeB 5 rfl (by kernel_rfl) (fun _ _ _ h => h) (by rfl) (by intro w' hg; go_simp; try with_reducible rfl) ?_
            refine takeB 6 rfl (by kernel_rfl) (fun _ _ _ h => h) (by rfl) (by intro w' hg; go_simp; try with_reducible rfl) ?_
            refine takeB 7 rfl (by kernel_rfl) (fun _ _ _ h => h) (by rfl) (by intro w' hg; have g0 := (hg.cell (p := ⟨b2, o2 + k * 2, none⟩) hd).trans (show (w.drewN q).drew.cell? _ = _ from d0); have g1 := (hg.cell (p := ⟨b2, o2 + k * 2 + 1, none⟩) hd).trans (show (w.drewN q).drew.cell? _ = _ from d1); go_simp; try with_reducible rfl) ?_
            refine takeB 8 rfl (by kernel_rfl) (fun _ _ _ h => h) (by rfl) (by intro w' hg; go_simp; try with_reducible rfl) ?_
            refine doneB (by kernel_rfl) ?_
            go_simp
            go_wp2
            go_ret
            exact ⟨ret_bool HN.out.symm, Below.drews (q + 1)⟩
          · rw [← h1] at d0
            have ei : (x.id == x.id) = true := by simp
            have es : (x.sh == y.sh) = false := by simpa using h2
            clear h1 h2
            go_wp2_with fail
            refine region_B (by kernel_rfl) C ?_
            refine takeB 0 rfl (by kernel_rfl) (fun _ _ _ h => h) (by rfl) (by intro w' hg; go_simp; try with_reducible rfl) ?_
            refine takeB 1 rfl (by kernel_rfl) (fun _ _ _ h => h) (by rfl) (by intro w' hg; go_simp; try with_reducible rfl) ?_
            refine takeB 2 rfl (by kernel_rfl) (fun _ _ _ h => h) (by rfl) (by intro w' hg; go_simp; try with_reducible rfl) ?_
            refine takeB 3 rfl (by kernel_rfl) (fun _ _ _ h => h) (by rfl) (by intro w' hg; have g0 := (hg.cell (p := ⟨b1, o1 + k * 2, none⟩) hc).trans (show (w.drewN q).drew.cell? _ = _ from c0); have g1 := (hg.cell (p := ⟨b1, o1 + k * 2 + 1, none⟩) hc).trans (show (w.drewN q).drew.cell? _ = _ from c1); go_simp; try with_reducible rfl) ?_
            refine takeB 4 rfl (by kernel_rfl) (fun _ _ _ h => h) (by rfl) (by intro w' hg; go_simp; try with_reducible rfl) ?_
            refine takeB 5 rfl (by kernel_rfl) (fun _ _ _ h => h) (by rfl) (by intro w' hg; go_simp; try with_reducible rfl) ?_
            refine takeB 6 rfl (by kernel_rfl) (fun _ _ _ h => h) (by rfl) (by intro w' hg; go_simp; try with_reducible rfl) ?_
            refine takeB 7 rfl (by kernel_rfl) (fun _ _ _ h => h) (by rfl) (by intro w' hg; have g0 := (hg.cell (p := ⟨b2, o2 + k * 2, none⟩) hd).trans (show (w.drewN q).drew.cell? _ = _ from d0); have g1 := (hg.cell (p := ⟨b2, o2 + k * 2 + 1, none⟩) hd).trans (show (w.drewN q).drew.cell? _ = _ from d1); go_simp; try with_reducible rfl) ?_
            refine takeB 8 rfl (by kernel_rfl) (fun _ _ _ h => h) (by rfl) (by intro w' hg; go_simp; try with_reducible rfl) ?_
            refine doneB (by kernel_rfl) ?_
            go_simp
            go_wp2
            go_ret
            exact ⟨ret_bool HN.out.symm, Below.drews (q + 1)⟩
      · obtain rfl : k = n := by omega
        have HY : Hid (decide (l = r) = true) := hide (decide_eq_true (by have := HE.out; rwa [List.take_of_length_le (by omega), List.take_of_length_le (by omega)] at this))
        go_wp2
        go_ret
        exact ⟨ret_bool HY.out.symm, Below.drews q⟩
  · have e0 : ((n : Int) == m) = false := by simp; omega
    have e1 : ((n : Int) != m) = true := by simp; omega
    have HN : Hid (decide (l = r) = false) := hide (decide_eq_false (by rintro rfl; omega))
    go_enter Try.func20, Try.ntmps20
    go_wp2
    go_ret
    exact ⟨ret_bool HN.out.symm, Below.refl _ _⟩
end Go.Proofs.Ytoppkgmgjahloaa
