/- Layer 4, code.instructionWords: a contract. -/
import Derived.Test.YtfjekckcpkkdiaaGreatDoorCodeWords
import Derived.Test.YtfjekckcpkkdiaaGreatDoorRegionC
namespace Go.Proofs.YtfjekckcpkkdiaaGreatDoor
open Go.RowKit

theorem Obl.ne {w : World} {b b' : Nat} {t t' : TypeId} {cs cs' : Array Value} (h : Obl w b t cs) (h' : Obl w b' t' cs') (hne : t ≠ t') : b ≠ b' := by
  rintro rfl
  unfold Obl at h h'
  rw [h] at h'
  injection h' with h'
  injection h' with _ h'
  exact hne h'

set_option maxRecDepth 100000 in
set_option maxHeartbeats 4000000 in
theorem instructionWords_any (k : Nat) (a b c : Int) (w : World) (hk : k < 13) (h64 : Cd.in64 ⟨(k : Int), a, b, c⟩) (hL : LaidO w) (hT : LaidT w) :
    Calls Tryz.prog 29 #[ia ⟨(k : Int), a, b, c⟩] w (LinesPost (Cd.insWords ⟨(k : Int), a, b, c⟩) w) := by
  obtain ⟨nm, f, ls, ms, ho, hf3, hnm5, hall⟩ := opn_open hk
  unfold ia
  simp only
  have O1 := Obl.make w 32 #[.int .i64 (k : Int), .int .i64 a, .int .i64 b, .int .i64 c]
  have hb0 : Below w.heap.size w (w.alloc (.cells #[.int .i64 (k : Int), .int .i64 a, .int .i64 b, .int .i64 c] 32)) := (Below.refl _ _).alloc (Nat.le_refl _) _
  have hlt0 := hL.lt
  obtain ⟨c0, c1, c2, c3⟩ := hall _ (hL.alloc (.cells #[.int .i64 (k : Int), .int .i64 a, .int .i64 b, .int .i64 c] 32))
  have q0 := O1.cell 0
  have q1 := O1.cell 1
  have q2 := O1.cell 2
  have q3 := O1.cell 3
  rw [show (#[Value.int .i64 (k : Int), .int .i64 a, .int .i64 b, .int .i64 c] : Array Value)[0]? = some (.int .i64 (k : Int)) from rfl] at q0
  rw [show (#[Value.int .i64 (k : Int), .int .i64 a, .int .i64 b, .int .i64 c] : Array Value)[1]? = some (.int .i64 a) from rfl] at q1
  rw [show (#[Value.int .i64 (k : Int), .int .i64 a, .int .i64 b, .int .i64 c] : Array Value)[2]? = some (.int .i64 b) from rfl] at q2
  rw [show (#[Value.int .i64 (k : Int), .int .i64 a, .int .i64 b, .int .i64 c] : Array Value)[3]? = some (.int .i64 c) from rfl] at q3
  have HO := hide ho
  have HL := hide hL
  have HT := hide hT
  have H64 := hide h64
  clear hall hL hT ho O1 h64
  go_enter Tryz.func29, Tryz.ntmps29
  go_upto_region 1 with fail
  go_cut [3, 4] from 13 to 34 (fun s3 s4 wx => ∃ g3 g4, s3 = .pointer (some ⟨g3, 0, none⟩) ∧ s4 = .pointer (some ⟨g4, 0, none⟩) ∧ Obl wx g3 92 #[.string nm, .string f, .int .i64 ls, .int .i64 ms] ∧ Obl wx g4 88 #[.int .i64 a, .int .i64 b, .int .i64 c] ∧ Below w.heap.size w wx)
  case first =>
    refine region_C (by kernel_rfl) (w.heap.size + 1) [8, 9] ?_
    replace q0 : (w.alloc (.cells #[.int .i64 (k : Int), .int .i64 a, .int .i64 b, .int .i64 c] 32)).drew.cell? _ = _ := q0
    replace q1 : (w.alloc (.cells #[.int .i64 (k : Int), .int .i64 a, .int .i64 b, .int .i64 c] 32)).drew.cell? _ = _ := q1
    replace q2 : (w.alloc (.cells #[.int .i64 (k : Int), .int .i64 a, .int .i64 b, .int .i64 c] 32)).drew.cell? _ = _ := q2
    replace q3 : (w.alloc (.cells #[.int .i64 (k : Int), .int .i64 a, .int .i64 b, .int .i64 c] 32)).drew.cell? _ = _ := q3
    replace c0 : (w.alloc (.cells #[.int .i64 (k : Int), .int .i64 a, .int .i64 b, .int .i64 c] 32)).drew.cell? _ = _ := c0
    replace c1 : (w.alloc (.cells #[.int .i64 (k : Int), .int .i64 a, .int .i64 b, .int .i64 c] 32)).drew.cell? _ = _ := c1
    replace c2 : (w.alloc (.cells #[.int .i64 (k : Int), .int .i64 a, .int .i64 b, .int .i64 c] 32)).drew.cell? _ = _ := c2
    replace c3 : (w.alloc (.cells #[.int .i64 (k : Int), .int .i64 a, .int .i64 b, .int .i64 c] 32)).drew.cell? _ = _ := c3
    have hb0 : Below w.heap.size w (w.alloc (.cells #[.int .i64 (k : Int), .int .i64 a, .int .i64 b, .int .i64 c] 32)).drew := ((Below.refl _ _).alloc (Nat.le_refl _) _).drew
    have hs0 : w.heap.size + 1 ≤ (w.alloc (.cells #[.int .i64 (k : Int), .int .i64 a, .int .i64 b, .int .i64 c] 32)).drew.heap.size := by simp
    generalize (w.alloc (.cells #[.int .i64 (k : Int), .int .i64 a, .int .i64 b, .int .i64 c] 32)).drew = w0 at *
    have hw0 := Below.refl (w.heap.size + 1) w0
    refine takeC 0 [0, 1, 2, 3, 8, 9] rfl (by kernel_rfl) (fun _ _ _ h => h) (by rfl) (by intro w' hg; go_simp; try with_reducible rfl) ?_
    refine takeC 1 [1, 2, 3, 8, 9] rfl (by kernel_rfl) (fun _ _ _ h => h) (by rfl) (by intro w' hg; have g0 := (hg.cell (p := ⟨w.heap.size, 0, none⟩) (by show w.heap.size < w.heap.size + 1; omega)).trans q0; go_simp; try with_reducible rfl) ?_
    refine takeC 2 [2, 3, 8, 9] rfl (by kernel_rfl) (fun _ _ _ h => h) (by rfl) (by intro w' hg; have hk13 : (k : Int) < 13 := (by omega); go_simp; try with_reducible rfl) ?_
    refine takeC 3 [3, 8, 9] rfl (by kernel_rfl) (fun _ _ _ h => h) (by rfl) (by intro w' hg; have g0 := (hg.cell (p := ⟨0, k * 4, none⟩) (by show 0 < w.heap.size + 1; omega)).trans c0; have g1 := (hg.cell (p := ⟨0, k * 4 + 1, none⟩) (by show 0 < w.heap.size + 1; omega)).trans c1; have g2 := (hg.cell (p := ⟨0, k * 4 + 2, none⟩) (by show 0 < w.heap.size + 1; omega)).trans c2; have g3 := (hg.cell (p := ⟨0, k * 4 + 3, none⟩) (by show 0 < w.heap.size + 1; omega)).trans c3; go_simp; try with_reducible rfl) ?_
    refine takeC 4 [4, 5, 8, 9] rfl (by kernel_rfl) (fun _ _ _ h => h) (by rfl) (by intro w' hg; have g0 := (hg.cell (p := ⟨w.heap.size, 0, none⟩) (by show w.heap.size < w.heap.size + 1; omega)).trans q0; have g1 := (hg.cell (p := ⟨w.heap.size, 1, none⟩) (by show w.heap.size < w.heap.size + 1; omega)).trans q1; have g2 := (hg.cell (p := ⟨w.heap.size, 2, none⟩) (by show w.heap.size < w.heap.size + 1; omega)).trans q2; have g3 := (hg.cell (p := ⟨w.heap.size, 3, none⟩) (by show w.heap.size < w.heap.size + 1; omega)).trans q3; go_simp; try with_reducible rfl) ?_
    refine threeC 5 6 7 rfl rfl rfl (by kernel_rfl) (by rfl) (by rfl) (by rfl) ?_ ?_ ?_
    · intro K hK
      go_simp
      refine (valuesOf_any ⟨(k : Int), a, b, c⟩ _).mono ?_
      rintro e u1 ⟨rfl, hv1⟩
      have hw1 := hw0.trans (hv1.mono hs0)
      have hs1 : w.heap.size + 1 ≤ u1.heap.size := Nat.le_trans hs0 hv1.size
      refine hK _ _ (fun _ => hv1.mono hs0) ?_
      clear hK K
      refine twoC 6 7 rfl rfl (by kernel_rfl) (by rfl) (by rfl) ?_ ?_
      · intro K hK
        go_simp
        refine hK _ _ (fun _ => (Below.refl (w.heap.size + 1) u1).alloc hs1 _) ?_
        clear hK K
        have O3_2 := Obl.make u1 92 #[.string ⟨#[]⟩, .string ⟨#[]⟩, .int .i64 0, .int .i64 0]
        have hw2 := hw1.alloc hs1 (.cells #[.string ⟨#[]⟩, .string ⟨#[]⟩, .int .i64 0, .int .i64 0] 92)
        have hs2 : w.heap.size + 1 ≤ (u1.alloc (.cells #[.string ⟨#[]⟩, .string ⟨#[]⟩, .int .i64 0, .int .i64 0] 92)).heap.size := Nat.le_trans hs1 (by simp)
        have hg3 := hs1
        generalize u1.alloc (.cells #[.string ⟨#[]⟩, .string ⟨#[]⟩, .int .i64 0, .int .i64 0] 92) = u2 at *
        generalize u1.heap.size = g3 at *
        refine onlyC 7 rfl (by kernel_rfl) (by rfl) ?_
        intro K hK
        go_simp
        refine hK _ _ (fun _ => (Below.refl (w.heap.size + 1) u2).alloc hs2 _) ?_
        clear hK K
        have O4_3 := Obl.make u2 88 #[.int .i64 0, .int .i64 0, .int .i64 0]
        have hw3 := hw2.alloc hs2 (.cells #[.int .i64 0, .int .i64 0, .int .i64 0] 88)
        have hs3 : w.heap.size + 1 ≤ (u2.alloc (.cells #[.int .i64 0, .int .i64 0, .int .i64 0] 88)).heap.size := Nat.le_trans hs2 (by simp)
        have hg4 := hs2
        have O3_3 := O3_2.alloc (.cells #[.int .i64 0, .int .i64 0, .int .i64 0] 88)
        generalize u2.alloc (.cells #[.int .i64 0, .int .i64 0, .int .i64 0] 88) = u3 at *
        generalize u2.heap.size = g4 at *
        have hne := Obl.ne O3_3 O4_3 (by decide)
        have hbl := hb0.trans (hw3.mono (Nat.le_succ _))
        have p0 := O3_3.cell 0
        have z0 := O3_3.free 0
        have p1 := O3_3.cell 1
        have z1 := O3_3.free 1
        have p2 := O3_3.cell 2
        have z2 := O3_3.free 2
        have p3 := O3_3.cell 3
        have z3 := O3_3.free 3
        simp at p0 p1 p2 p3
        refine onlyC 8 rfl (by kernel_rfl) (by rfl) ?_
        intro K hK
        go_simp
        refine hK _ _ (fun h => absurd h (by decide)) ?_
        clear hK K
        have P3 := ((((O3_3.put 0 (.string nm)).put 1 (.string f)).put 2 (.int .i64 ls)).put 3 (.int .i64 ms))
        have P4 := ((((O4_3.put_other hne.symm 0 (.string nm)).put_other hne.symm 1 (.string f)).put_other hne.symm 2 (.int .i64 ls)).put_other hne.symm 3 (.int .i64 ms))
        have hbl2 := ((((hbl.setCell (p := ⟨g3, 0, none⟩) (show w.heap.size ≤ g3 by omega) (.string nm)).setCell (p := ⟨g3, 1, none⟩) (show w.heap.size ≤ g3 by omega) (.string f)).setCell (p := ⟨g3, 2, none⟩) (show w.heap.size ≤ g3 by omega) (.int .i64 ls)).setCell (p := ⟨g3, 3, none⟩) (show w.heap.size ≤ g3 by omega) (.int .i64 ms))
        clear p0 p1 p2 p3 z0 z1 z2 z3
        generalize ((((u3.setCell ⟨g3, 0, none⟩ (.string nm)).setCell ⟨g3, 1, none⟩ (.string f)).setCell ⟨g3, 2, none⟩ (.int .i64 ls)).setCell ⟨g3, 3, none⟩ (.int .i64 ms)) = v1 at *
        have p0 := P4.cell 0
        have z0 := P4.free 0
        have p1 := P4.cell 1
        have z1 := P4.free 1
        have p2 := P4.cell 2
        have z2 := P4.free 2
        simp at p0 p1 p2
        refine onlyC 9 rfl (by kernel_rfl) (by rfl) ?_
        intro K hK
        go_simp
        refine hK _ _ (fun h => absurd h (by decide)) ?_
        clear hK K
        have R4 := (((P4.put 0 (.int .i64 a)).put 1 (.int .i64 b)).put 2 (.int .i64 c))
        have R3 := (((P3.put_other hne 0 (.int .i64 a)).put_other hne 1 (.int .i64 b)).put_other hne 2 (.int .i64 c))
        have hbl3 := (((hbl2.setCell (p := ⟨g4, 0, none⟩) (show w.heap.size ≤ g4 by omega) (.int .i64 a)).setCell (p := ⟨g4, 1, none⟩) (show w.heap.size ≤ g4 by omega) (.int .i64 b)).setCell (p := ⟨g4, 2, none⟩) (show w.heap.size ≤ g4 by omega) (.int .i64 c))
        refine doneC (by kernel_rfl) ?_
        go_simp
        go_wp2_with fail
        go_meet
        case rel => exact ⟨g3, g4, rfl, rfl, by simpa using R3, by simpa using R4, hbl3⟩
      · intro K hK
        go_simp
        refine hK _ _ (fun _ => (Below.refl (w.heap.size + 1) u1).alloc hs1 _) ?_
        clear hK K
        have O4_4 := Obl.make u1 88 #[.int .i64 0, .int .i64 0, .int .i64 0]
        have hw4 := hw1.alloc hs1 (.cells #[.int .i64 0, .int .i64 0, .int .i64 0] 88)
        have hs4 : w.heap.size + 1 ≤ (u1.alloc (.cells #[.int .i64 0, .int .i64 0, .int .i64 0] 88)).heap.size := Nat.le_trans hs1 (by simp)
        have hg4 := hs1
        generalize u1.alloc (.cells #[.int .i64 0, .int .i64 0, .int .i64 0] 88) = u4 at *
        generalize u1.heap.size = g4 at *
        refine onlyC 6 rfl (by kernel_rfl) (by rfl) ?_
        intro K hK
        go_simp
        refine hK _ _ (fun _ => (Below.refl (w.heap.size + 1) u4).alloc hs4 _) ?_
        clear hK K
        have O3_5 := Obl.make u4 92 #[.string ⟨#[]⟩, .string ⟨#[]⟩, .int .i64 0, .int .i64 0]
        have hw5 := hw4.alloc hs4 (.cells #[.string ⟨#[]⟩, .string ⟨#[]⟩, .int .i64 0, .int .i64 0] 92)
        have hs5 : w.heap.size + 1 ≤ (u4.alloc (.cells #[.string ⟨#[]⟩, .string ⟨#[]⟩, .int .i64 0, .int .i64 0] 92)).heap.size := Nat.le_trans hs4 (by simp)
        have hg3 := hs4
        have O4_5 := O4_4.alloc (.cells #[.string ⟨#[]⟩, .string ⟨#[]⟩, .int .i64 0, .int .i64 0] 92)
        generalize u4.alloc (.cells #[.string ⟨#[]⟩, .string ⟨#[]⟩, .int .i64 0, .int .i64 0] 92) = u5 at *
        generalize u4.heap.size = g3 at *
        have hne := Obl.ne O3_5 O4_5 (by decide)
        have hbl := hb0.trans (hw5.mono (Nat.le_succ _))
        have p0 := O3_5.cell 0
        have z0 := O3_5.free 0
        have p1 := O3_5.cell 1
        have z1 := O3_5.free 1
        have p2 := O3_5.cell 2
        have z2 := O3_5.free 2
        have p3 := O3_5.cell 3
        have z3 := O3_5.free 3
        simp at p0 p1 p2 p3
        refine onlyC 8 rfl (by kernel_rfl) (by rfl) ?_
        intro K hK
        go_simp
        refine hK _ _ (fun h => absurd h (by decide)) ?_
        clear hK K
        have P3 := ((((O3_5.put 0 (.string nm)).put 1 (.string f)).put 2 (.int .i64 ls)).put 3 (.int .i64 ms))
        have P4 := ((((O4_5.put_other hne.symm 0 (.string nm)).put_other hne.symm 1 (.string f)).put_other hne.symm 2 (.int .i64 ls)).put_other hne.symm 3 (.int .i64 ms))
        have hbl2 := ((((hbl.setCell (p := ⟨g3, 0, none⟩) (show w.heap.size ≤ g3 by omega) (.string nm)).setCell (p := ⟨g3, 1, none⟩) (show w.heap.size ≤ g3 by omega) (.string f)).setCell (p := ⟨g3, 2, none⟩) (show w.heap.size ≤ g3 by omega) (.int .i64 ls)).setCell (p := ⟨g3, 3, none⟩) (show w.heap.size ≤ g3 by omega) (.int .i64 ms))
        clear p0 p1 p2 p3 z0 z1 z2 z3
        generalize ((((u5.setCell ⟨g3, 0, none⟩ (.string nm)).setCell ⟨g3, 1, none⟩ (.string f)).setCell ⟨g3, 2, none⟩ (.int .i64 ls)).setCell ⟨g3, 3, none⟩ (.int .i64 ms)) = v1 at *
        have p0 := P4.cell 0
        have z0 := P4.free 0
        have p1 := P4.cell 1
        have z1 := P4.free 1
        have p2 := P4.cell 2
        have z2 := P4.free 2
        simp at p0 p1 p2
        refine onlyC 9 rfl (by kernel_rfl) (by rfl) ?_
        intro K hK
        go_simp
        refine hK _ _ (fun h => absurd h (by decide)) ?_
        clear hK K
        have R4 := (((P4.put 0 (.int .i64 a)).put 1 (.int .i64 b)).put 2 (.int .i64 c))
        have R3 := (((P3.put_other hne 0 (.int .i64 a)).put_other hne 1 (.int .i64 b)).put_other hne 2 (.int .i64 c))
        have hbl3 := (((hbl2.setCell (p := ⟨g4, 0, none⟩) (show w.heap.size ≤ g4 by omega) (.int .i64 a)).setCell (p := ⟨g4, 1, none⟩) (show w.heap.size ≤ g4 by omega) (.int .i64 b)).setCell (p := ⟨g4, 2, none⟩) (show w.heap.size ≤ g4 by omega) (.int .i64 c))
        refine doneC (by kernel_rfl) ?_
        go_simp
        go_wp2_with fail
        go_meet
        case rel => exact ⟨g3, g4, rfl, rfl, by simpa using R3, by simpa using R4, hbl3⟩
    · intro K hK
      go_simp
      refine hK _ _ (fun _ => (Below.refl (w.heap.size + 1) w0).alloc hs0 _) ?_
      clear hK K
      have O3_6 := Obl.make w0 92 #[.string ⟨#[]⟩, .string ⟨#[]⟩, .int .i64 0, .int .i64 0]
      have hw6 := hw0.alloc hs0 (.cells #[.string ⟨#[]⟩, .string ⟨#[]⟩, .int .i64 0, .int .i64 0] 92)
      have hs6 : w.heap.size + 1 ≤ (w0.alloc (.cells #[.string ⟨#[]⟩, .string ⟨#[]⟩, .int .i64 0, .int .i64 0] 92)).heap.size := Nat.le_trans hs0 (by simp)
      have hg3 := hs0
      generalize w0.alloc (.cells #[.string ⟨#[]⟩, .string ⟨#[]⟩, .int .i64 0, .int .i64 0] 92) = u6 at *
      generalize w0.heap.size = g3 at *
      refine twoC 5 7 rfl rfl (by kernel_rfl) (by rfl) (by rfl) ?_ ?_
      · intro K hK
        go_simp
        refine (valuesOf_any ⟨(k : Int), a, b, c⟩ _).mono ?_
        rintro e u7 ⟨rfl, hv7⟩
        have hw7 := hw6.trans (hv7.mono hs6)
        have hs7 : w.heap.size + 1 ≤ u7.heap.size := Nat.le_trans hs6 hv7.size
        have O3_7 := O3_6.below hv7 O3_6.lt
        refine hK _ _ (fun _ => hv7.mono hs6) ?_
        clear hK K
        refine onlyC 7 rfl (by kernel_rfl) (by rfl) ?_
        intro K hK
        go_simp
        refine hK _ _ (fun _ => (Below.refl (w.heap.size + 1) u7).alloc hs7 _) ?_
        clear hK K
        have O4_8 := Obl.make u7 88 #[.int .i64 0, .int .i64 0, .int .i64 0]
        have hw8 := hw7.alloc hs7 (.cells #[.int .i64 0, .int .i64 0, .int .i64 0] 88)
        have hs8 : w.heap.size + 1 ≤ (u7.alloc (.cells #[.int .i64 0, .int .i64 0, .int .i64 0] 88)).heap.size := Nat.le_trans hs7 (by simp)
        have hg4 := hs7
        have O3_8 := O3_7.alloc (.cells #[.int .i64 0, .int .i64 0, .int .i64 0] 88)
        generalize u7.alloc (.cells #[.int .i64 0, .int .i64 0, .int .i64 0] 88) = u8 at *
        generalize u7.heap.size = g4 at *
        have hne := Obl.ne O3_8 O4_8 (by decide)
        have hbl := hb0.trans (hw8.mono (Nat.le_succ _))
        have p0 := O3_8.cell 0
        have z0 := O3_8.free 0
        have p1 := O3_8.cell 1
        have z1 := O3_8.free 1
        have p2 := O3_8.cell 2
        have z2 := O3_8.free 2
        have p3 := O3_8.cell 3
        have z3 := O3_8.free 3
        simp at p0 p1 p2 p3
        refine onlyC 8 rfl (by kernel_rfl) (by rfl) ?_
        intro K hK
        go_simp
        refine hK _ _ (fun h => absurd h (by decide)) ?_
        clear hK K
        have P3 := ((((O3_8.put 0 (.string nm)).put 1 (.string f)).put 2 (.int .i64 ls)).put 3 (.int .i64 ms))
        have P4 := ((((O4_8.put_other hne.symm 0 (.string nm)).put_other hne.symm 1 (.string f)).put_other hne.symm 2 (.int .i64 ls)).put_other hne.symm 3 (.int .i64 ms))
        have hbl2 := ((((hbl.setCell (p := ⟨g3, 0, none⟩) (show w.heap.size ≤ g3 by omega) (.string nm)).setCell (p := ⟨g3, 1, none⟩) (show w.heap.size ≤ g3 by omega) (.string f)).setCell (p := ⟨g3, 2, none⟩) (show w.heap.size ≤ g3 by omega) (.int .i64 ls)).setCell (p := ⟨g3, 3, none⟩) (show w.heap.size ≤ g3 by omega) (.int .i64 ms))
        clear p0 p1 p2 p3 z0 z1 z2 z3
        generalize ((((u8.setCell ⟨g3, 0, none⟩ (.string nm)).setCell ⟨g3, 1, none⟩ (.string f)).setCell ⟨g3, 2, none⟩ (.int .i64 ls)).setCell ⟨g3, 3, none⟩ (.int .i64 ms)) = v1 at *
        have p0 := P4.cell 0
        have z0 := P4.free 0
        have p1 := P4.cell 1
        have z1 := P4.free 1
        have p2 := P4.cell 2
        have z2 := P4.free 2
        simp at p0 p1 p2
        refine onlyC 9 rfl (by kernel_rfl) (by rfl) ?_
        intro K hK
        go_simp
        refine hK _ _ (fun h => absurd h (by decide)) ?_
        clear hK K
        have R4 := (((P4.put 0 (.int .i64 a)).put 1 (.int .i64 b)).put 2 (.int .i64 c))
        have R3 := (((P3.put_other hne 0 (.int .i64 a)).put_other hne 1 (.int .i64 b)).put_other hne 2 (.int .i64 c))
        have hbl3 := (((hbl2.setCell (p := ⟨g4, 0, none⟩) (show w.heap.size ≤ g4 by omega) (.int .i64 a)).setCell (p := ⟨g4, 1, none⟩) (show w.heap.size ≤ g4 by omega) (.int .i64 b)).setCell (p := ⟨g4, 2, none⟩) (show w.heap.size ≤ g4 by omega) (.int .i64 c))
        refine doneC (by kernel_rfl) ?_
        go_simp
        go_wp2_with fail
        go_meet
        case rel => exact ⟨g3, g4, rfl, rfl, by simpa using R3, by simpa using R4, hbl3⟩
      · intro K hK
        go_simp
        refine hK _ _ (fun _ => (Below.refl (w.heap.size + 1) u6).alloc hs6 _) ?_
        clear hK K
        have O4_9 := Obl.make u6 88 #[.int .i64 0, .int .i64 0, .int .i64 0]
        have hw9 := hw6.alloc hs6 (.cells #[.int .i64 0, .int .i64 0, .int .i64 0] 88)
        have hs9 : w.heap.size + 1 ≤ (u6.alloc (.cells #[.int .i64 0, .int .i64 0, .int .i64 0] 88)).heap.size := Nat.le_trans hs6 (by simp)
        have hg4 := hs6
        have O3_9 := O3_6.alloc (.cells #[.int .i64 0, .int .i64 0, .int .i64 0] 88)
        generalize u6.alloc (.cells #[.int .i64 0, .int .i64 0, .int .i64 0] 88) = u9 at *
        generalize u6.heap.size = g4 at *
        refine onlyC 5 rfl (by kernel_rfl) (by rfl) ?_
        intro K hK
        go_simp
        refine (valuesOf_any ⟨(k : Int), a, b, c⟩ _).mono ?_
        rintro e u10 ⟨rfl, hv10⟩
        have hw10 := hw9.trans (hv10.mono hs9)
        have hs10 : w.heap.size + 1 ≤ u10.heap.size := Nat.le_trans hs9 hv10.size
        have O3_10 := O3_9.below hv10 O3_9.lt
        have O4_10 := O4_9.below hv10 O4_9.lt
        refine hK _ _ (fun _ => hv10.mono hs9) ?_
        clear hK K
        have hne := Obl.ne O3_10 O4_10 (by decide)
        have hbl := hb0.trans (hw10.mono (Nat.le_succ _))
        have p0 := O3_10.cell 0
        have z0 := O3_10.free 0
        have p1 := O3_10.cell 1
        have z1 := O3_10.free 1
        have p2 := O3_10.cell 2
        have z2 := O3_10.free 2
        have p3 := O3_10.cell 3
        have z3 := O3_10.free 3
        simp at p0 p1 p2 p3
        refine onlyC 8 rfl (by kernel_rfl) (by rfl) ?_
        intro K hK
        go_simp
        refine hK _ _ (fun h => absurd h (by decide)) ?_
        clear hK K
        have P3 := ((((O3_10.put 0 (.string nm)).put 1 (.string f)).put 2 (.int .i64 ls)).put 3 (.int .i64 ms))
        have P4 := ((((O4_10.put_other hne.symm 0 (.string nm)).put_other hne.symm 1 (.string f)).put_other hne.symm 2 (.int .i64 ls)).put_other hne.symm 3 (.int .i64 ms))
        have hbl2 := ((((hbl.setCell (p := ⟨g3, 0, none⟩) (show w.heap.size ≤ g3 by omega) (.string nm)).setCell (p := ⟨g3, 1, none⟩) (show w.heap.size ≤ g3 by omega) (.string f)).setCell (p := ⟨g3, 2, none⟩) (show w.heap.size ≤ g3 by omega) (.int .i64 ls)).setCell (p := ⟨g3, 3, none⟩) (show w.heap.size ≤ g3 by omega) (.int .i64 ms))
        clear p0 p1 p2 p3 z0 z1 z2 z3
        generalize ((((u10.setCell ⟨g3, 0, none⟩ (.string nm)).setCell ⟨g3, 1, none⟩ (.string f)).setCell ⟨g3, 2, none⟩ (.int .i64 ls)).setCell ⟨g3, 3, none⟩ (.int .i64 ms)) = v1 at *
        have p0 := P4.cell 0
        have z0 := P4.free 0
        have p1 := P4.cell 1
        have z1 := P4.free 1
        have p2 := P4.cell 2
        have z2 := P4.free 2
        simp at p0 p1 p2
        refine onlyC 9 rfl (by kernel_rfl) (by rfl) ?_
        intro K hK
        go_simp
        refine hK _ _ (fun h => absurd h (by decide)) ?_
        clear hK K
        have R4 := (((P4.put 0 (.int .i64 a)).put 1 (.int .i64 b)).put 2 (.int .i64 c))
        have R3 := (((P3.put_other hne 0 (.int .i64 a)).put_other hne 1 (.int .i64 b)).put_other hne 2 (.int .i64 c))
        have hbl3 := (((hbl2.setCell (p := ⟨g4, 0, none⟩) (show w.heap.size ≤ g4 by omega) (.int .i64 a)).setCell (p := ⟨g4, 1, none⟩) (show w.heap.size ≤ g4 by omega) (.int .i64 b)).setCell (p := ⟨g4, 2, none⟩) (show w.heap.size ≤ g4 by omega) (.int .i64 c))
        refine doneC (by kernel_rfl) ?_
        go_simp
        go_wp2_with fail
        go_meet
        case rel => exact ⟨g3, g4, rfl, rfl, by simpa using R3, by simpa using R4, hbl3⟩
    · intro K hK
      go_simp
      refine hK _ _ (fun _ => (Below.refl (w.heap.size + 1) w0).alloc hs0 _) ?_
      clear hK K
      have O4_11 := Obl.make w0 88 #[.int .i64 0, .int .i64 0, .int .i64 0]
      have hw11 := hw0.alloc hs0 (.cells #[.int .i64 0, .int .i64 0, .int .i64 0] 88)
      have hs11 : w.heap.size + 1 ≤ (w0.alloc (.cells #[.int .i64 0, .int .i64 0, .int .i64 0] 88)).heap.size := Nat.le_trans hs0 (by simp)
      have hg4 := hs0
      generalize w0.alloc (.cells #[.int .i64 0, .int .i64 0, .int .i64 0] 88) = u11 at *
      generalize w0.heap.size = g4 at *
      refine twoC 5 6 rfl rfl (by kernel_rfl) (by rfl) (by rfl) ?_ ?_
      · intro K hK
        go_simp
        refine (valuesOf_any ⟨(k : Int), a, b, c⟩ _).mono ?_
        rintro e u12 ⟨rfl, hv12⟩
        have hw12 := hw11.trans (hv12.mono hs11)
        have hs12 : w.heap.size + 1 ≤ u12.heap.size := Nat.le_trans hs11 hv12.size
        have O4_12 := O4_11.below hv12 O4_11.lt
        refine hK _ _ (fun _ => hv12.mono hs11) ?_
        clear hK K
        refine onlyC 6 rfl (by kernel_rfl) (by rfl) ?_
        intro K hK
        go_simp
        refine hK _ _ (fun _ => (Below.refl (w.heap.size + 1) u12).alloc hs12 _) ?_
        clear hK K
        have O3_13 := Obl.make u12 92 #[.string ⟨#[]⟩, .string ⟨#[]⟩, .int .i64 0, .int .i64 0]
        have hw13 := hw12.alloc hs12 (.cells #[.string ⟨#[]⟩, .string ⟨#[]⟩, .int .i64 0, .int .i64 0] 92)
        have hs13 : w.heap.size + 1 ≤ (u12.alloc (.cells #[.string ⟨#[]⟩, .string ⟨#[]⟩, .int .i64 0, .int .i64 0] 92)).heap.size := Nat.le_trans hs12 (by simp)
        have hg3 := hs12
        have O4_13 := O4_12.alloc (.cells #[.string ⟨#[]⟩, .string ⟨#[]⟩, .int .i64 0, .int .i64 0] 92)
        generalize u12.alloc (.cells #[.string ⟨#[]⟩, .string ⟨#[]⟩, .int .i64 0, .int .i64 0] 92) = u13 at *
        generalize u12.heap.size = g3 at *
        have hne := Obl.ne O3_13 O4_13 (by decide)
        have hbl := hb0.trans (hw13.mono (Nat.le_succ _))
        have p0 := O3_13.cell 0
        have z0 := O3_13.free 0
        have p1 := O3_13.cell 1
        have z1 := O3_13.free 1
        have p2 := O3_13.cell 2
        have z2 := O3_13.free 2
        have p3 := O3_13.cell 3
        have z3 := O3_13.free 3
        simp at p0 p1 p2 p3
        refine onlyC 8 rfl (by kernel_rfl) (by rfl) ?_
        intro K hK
        go_simp
        refine hK _ _ (fun h => absurd h (by decide)) ?_
        clear hK K
        have P3 := ((((O3_13.put 0 (.string nm)).put 1 (.string f)).put 2 (.int .i64 ls)).put 3 (.int .i64 ms))
        have P4 := ((((O4_13.put_other hne.symm 0 (.string nm)).put_other hne.symm 1 (.string f)).put_other hne.symm 2 (.int .i64 ls)).put_other hne.symm 3 (.int .i64 ms))
        have hbl2 := ((((hbl.setCell (p := ⟨g3, 0, none⟩) (show w.heap.size ≤ g3 by omega) (.string nm)).setCell (p := ⟨g3, 1, none⟩) (show w.heap.size ≤ g3 by omega) (.string f)).setCell (p := ⟨g3, 2, none⟩) (show w.heap.size ≤ g3 by omega) (.int .i64 ls)).setCell (p := ⟨g3, 3, none⟩) (show w.heap.size ≤ g3 by omega) (.int .i64 ms))
        clear p0 p1 p2 p3 z0 z1 z2 z3
        generalize ((((u13.setCell ⟨g3, 0, none⟩ (.string nm)).setCell ⟨g3, 1, none⟩ (.string f)).setCell ⟨g3, 2, none⟩ (.int .i64 ls)).setCell ⟨g3, 3, none⟩ (.int .i64 ms)) = v1 at *
        have p0 := P4.cell 0
        have z0 := P4.free 0
        have p1 := P4.cell 1
        have z1 := P4.free 1
        have p2 := P4.cell 2
        have z2 := P4.free 2
        simp at p0 p1 p2
        refine onlyC 9 rfl (by kernel_rfl) (by rfl) ?_
        intro K hK
        go_simp
        refine hK _ _ (fun h => absurd h (by decide)) ?_
        clear hK K
        have R4 := (((P4.put 0 (.int .i64 a)).put 1 (.int .i64 b)).put 2 (.int .i64 c))
        have R3 := (((P3.put_other hne 0 (.int .i64 a)).put_other hne 1 (.int .i64 b)).put_other hne 2 (.int .i64 c))
        have hbl3 := (((hbl2.setCell (p := ⟨g4, 0, none⟩) (show w.heap.size ≤ g4 by omega) (.int .i64 a)).setCell (p := ⟨g4, 1, none⟩) (show w.heap.size ≤ g4 by omega) (.int .i64 b)).setCell (p := ⟨g4, 2, none⟩) (show w.heap.size ≤ g4 by omega) (.int .i64 c))
        refine doneC (by kernel_rfl) ?_
        go_simp
        go_wp2_with fail
        go_meet
        case rel => exact ⟨g3, g4, rfl, rfl, by simpa using R3, by simpa using R4, hbl3⟩
      · intro K hK
        go_simp
        refine hK _ _ (fun _ => (Below.refl (w.heap.size + 1) u11).alloc hs11 _) ?_
        clear hK K
        have O3_14 := Obl.make u11 92 #[.string ⟨#[]⟩, .string ⟨#[]⟩, .int .i64 0, .int .i64 0]
        have hw14 := hw11.alloc hs11 (.cells #[.string ⟨#[]⟩, .string ⟨#[]⟩, .int .i64 0, .int .i64 0] 92)
        have hs14 : w.heap.size + 1 ≤ (u11.alloc (.cells #[.string ⟨#[]⟩, .string ⟨#[]⟩, .int .i64 0, .int .i64 0] 92)).heap.size := Nat.le_trans hs11 (by simp)
        have hg3 := hs11
        have O4_14 := O4_11.alloc (.cells #[.string ⟨#[]⟩, .string ⟨#[]⟩, .int .i64 0, .int .i64 0] 92)
        generalize u11.alloc (.cells #[.string ⟨#[]⟩, .string ⟨#[]⟩, .int .i64 0, .int .i64 0] 92) = u14 at *
        generalize u11.heap.size = g3 at *
        refine onlyC 5 rfl (by kernel_rfl) (by rfl) ?_
        intro K hK
        go_simp
        refine (valuesOf_any ⟨(k : Int), a, b, c⟩ _).mono ?_
        rintro e u15 ⟨rfl, hv15⟩
        have hw15 := hw14.trans (hv15.mono hs14)
        have hs15 : w.heap.size + 1 ≤ u15.heap.size := Nat.le_trans hs14 hv15.size
        have O3_15 := O3_14.below hv15 O3_14.lt
        have O4_15 := O4_14.below hv15 O4_14.lt
        refine hK _ _ (fun _ => hv15.mono hs14) ?_
        clear hK K
        have hne := Obl.ne O3_15 O4_15 (by decide)
        have hbl := hb0.trans (hw15.mono (Nat.le_succ _))
        have p0 := O3_15.cell 0
        have z0 := O3_15.free 0
        have p1 := O3_15.cell 1
        have z1 := O3_15.free 1
        have p2 := O3_15.cell 2
        have z2 := O3_15.free 2
        have p3 := O3_15.cell 3
        have z3 := O3_15.free 3
        simp at p0 p1 p2 p3
        refine onlyC 8 rfl (by kernel_rfl) (by rfl) ?_
        intro K hK
        go_simp
        refine hK _ _ (fun h => absurd h (by decide)) ?_
        clear hK K
        have P3 := ((((O3_15.put 0 (.string nm)).put 1 (.string f)).put 2 (.int .i64 ls)).put 3 (.int .i64 ms))
        have P4 := ((((O4_15.put_other hne.symm 0 (.string nm)).put_other hne.symm 1 (.string f)).put_other hne.symm 2 (.int .i64 ls)).put_other hne.symm 3 (.int .i64 ms))
        have hbl2 := ((((hbl.setCell (p := ⟨g3, 0, none⟩) (show w.heap.size ≤ g3 by omega) (.string nm)).setCell (p := ⟨g3, 1, none⟩) (show w.heap.size ≤ g3 by omega) (.string f)).setCell (p := ⟨g3, 2, none⟩) (show w.heap.size ≤ g3 by omega) (.int .i64 ls)).setCell (p := ⟨g3, 3, none⟩) (show w.heap.size ≤ g3 by omega) (.int .i64 ms))
        clear p0 p1 p2 p3 z0 z1 z2 z3
        generalize ((((u15.setCell ⟨g3, 0, none⟩ (.string nm)).setCell ⟨g3, 1, none⟩ (.string f)).setCell ⟨g3, 2, none⟩ (.int .i64 ls)).setCell ⟨g3, 3, none⟩ (.int .i64 ms)) = v1 at *
        have p0 := P4.cell 0
        have z0 := P4.free 0
        have p1 := P4.cell 1
        have z1 := P4.free 1
        have p2 := P4.cell 2
        have z2 := P4.free 2
        simp at p0 p1 p2
        refine onlyC 9 rfl (by kernel_rfl) (by rfl) ?_
        intro K hK
        go_simp
        refine hK _ _ (fun h => absurd h (by decide)) ?_
        clear hK K
        have R4 := (((P4.put 0 (.int .i64 a)).put 1 (.int .i64 b)).put 2 (.int .i64 c))
        have R3 := (((P3.put_other hne 0 (.int .i64 a)).put_other hne 1 (.int .i64 b)).put_other hne 2 (.int .i64 c))
        have hbl3 := (((hbl2.setCell (p := ⟨g4, 0, none⟩) (show w.heap.size ≤ g4 by omega) (.int .i64 a)).setCell (p := ⟨g4, 1, none⟩) (show w.heap.size ≤ g4 by omega) (.int .i64 b)).setCell (p := ⟨g4, 2, none⟩) (show w.heap.size ≤ g4 by omega) (.int .i64 c))
        refine doneC (by kernel_rfl) ?_
        go_simp
        go_wp2_with fail
        go_meet
        case rel => exact ⟨g3, g4, rfl, rfl, by simpa using R3, by simpa using R4, hbl3⟩
  case rest =>
    obtain ⟨g3, g4, rfl, rfl, O3, O4, hbx⟩ := hcut
    have r0 := O3.cell 0
    have r1 := O3.cell 1
    simp at r0 r1
    have hB := hbx.size
    have hown0 : (wc.alloc (.cells #[.string nm] 9)).ownsRow wc.heap.size 9 1 (.slice (some ⟨wc.heap.size, 0, none⟩) 1 1) 1 (sv (nm.data.toList :: Cd.opWords ⟨(k : Int), a, b, c⟩ 0)) := own_list [.string nm] 9 (Nat.le_refl _) (by simp)
    have hb0' : Below wc.heap.size wc (wc.alloc (.cells #[.string nm] 9)) := (Below.refl _ _).alloc (Nat.le_refl _) _
    have r1' := (O3.alloc (.cells #[.string nm] 9)).cell 1
    simp at r1'
    clear q0 q1 q2 q3 c0 c1 c2 c3
    go_wp2_with fail
    go_loopw [5, 19] (fun s5 s19 wr => ∃ (i c' : Nat) (D : Option Addr), s5 = .slice D (i + 1) c' ∧ s19 = .int .i64 (i : Int) ∧ i ≤ f.size ∧ wr.ownsRow wc.heap.size 9 1 (.slice D (i + 1) c') (i + 1) (sv (nm.data.toList :: Cd.opWords ⟨(k : Int), a, b, c⟩ i)) ∧ Below wc.heap.size wc wr) (fun _ s19 _ => f.size - (intOf s19).toNat)
    case atStart => exact ⟨0, 1, _, rfl, rfl, by omega, hown0, hb0'⟩
    case round =>
      clear hown0 hb0' r1'
      obtain ⟨i, c', D, rfl, rfl, hi, hown, hb⟩ := hrel
      by_cases hlt : i < f.size
      · have hi3 : (i : Int) < 3 := by omega
        have R3 := O3.below hb O3.lt
        have R4 := O4.below hb O4.lt
        have r1 := R3.cell 1
        simp at r1
        obtain ⟨v, hv⟩ : ∃ v, Cd.arg ⟨(k : Int), a, b, c⟩ i = v := ⟨_, rfl⟩
        have ra : wr.cell? ⟨g4, i, none⟩ = some (.int .i64 v) := by
          rw [R4.cell, ← hv]
          rcases (show i = 0 ∨ i = 1 ∨ i = 2 by omega) with rfl | rfl | rfl <;> rfl
        obtain ⟨hv1, hv2⟩ := Cd.arg64 H64.out i
        rw [hv] at hv1 hv2
        have hx : Cd.opWord ⟨(k : Int), a, b, c⟩ i = Cd.operand f[i] v := by
          unfold Cd.opWord
          rw [hv, HO.out]
          simp only
          rw [Cd.getD_at _ _ (by rw [← Lib.size_eq]; exact hlt)]; rfl
        have HS : Hid ((nm.data.toList :: Cd.opWords ⟨(k : Int), a, b, c⟩ i) ++ [Cd.operand f[i] v] = nm.data.toList :: Cd.opWords ⟨(k : Int), a, b, c⟩ (i + 1)) := hide (by rw [Cd.opWords_succ, hx]; rfl)
        have HTr : Hid (LaidT wr.drew) := hide (HT.out.below (below_drewN (hbx.trans (hb.mono hB)) 1))
        clear hv hx
        go_wp2_with fail
        refine region_C (by kernel_rfl) wc.heap.size [10] ?_
        refine takeC 0 [0, 10, 11] rfl (by kernel_rfl) (fun _ _ _ h => h) (by rfl) (by intro w' hg; go_simp; try with_reducible rfl) ?_
        refine takeC 1 [1, 2, 4, 8, 9, 10, 11] rfl (by kernel_rfl) (fun _ _ _ h => h) (by rfl) (by intro w' hg; go_simp; try with_reducible rfl) ?_
        refine takeC 2 [2, 4, 8, 9, 10, 11] rfl (by kernel_rfl) (fun _ _ _ h => h) (by rfl) (by intro w' hg; have g0 := (hg.cell (p := ⟨g3, 1, none⟩) (by show _ < wc.heap.size; exact O3.lt)).trans (show wr.drew.cell? _ = _ from r1); go_simp; try with_reducible rfl) ?_
        refine takeC 3 [3, 4, 8, 9, 10, 11] rfl (by kernel_rfl) (fun _ _ _ h => h) (by rfl) (by intro w' hg; go_simp; try with_reducible rfl) ?_
        refine takeC 4 [4, 8, 9, 10, 11] rfl (by kernel_rfl) (fun _ _ _ h => h) (by rfl) (by intro w' hg; go_simp; try with_reducible rfl) ?_
        refine takeC 5 [5, 6, 7, 8, 9, 10, 11] rfl (by kernel_rfl) (fun _ _ _ h => h) (by rfl) (by intro w' hg; go_simp; try with_reducible rfl) ?_
        refine takeC 6 [6, 7, 8, 9, 10, 11] rfl (by kernel_rfl) (fun _ _ _ h => h) (by rfl) (by intro w' hg; go_simp; try with_reducible rfl) ?_
        refine takeC 7 [7, 8, 9, 10, 11] rfl (by kernel_rfl) (fun _ _ _ h => h) (by rfl) (by intro w' hg; have g0 := (hg.cell (p := ⟨g4, i, none⟩) (by show _ < wc.heap.size; exact O4.lt)).trans (show wr.drew.cell? _ = _ from ra); go_simp; try with_reducible rfl) ?_
        refine onlyC 8 rfl (by kernel_rfl) (by rfl) ?_
        intro K hK
        go_simp
        refine (operandWord_any f[i] v _ hv1 hv2 HTr.out).mono ?_
        rintro e u1 ⟨rfl, hbu⟩
        have hown1 := own_below (own_drewN hown 1) hbu
        have hb1 : Below wc.heap.size wc u1 := hb.trans ((show Below wr.heap.size wr u1 from ⟨hbu.os, hbu.tape, hbu.output, hbu.size, hbu.block⟩).mono hb.size)
        refine hK _ _ (fun _ => hbu.mono hb.size) ?_
        clear hK K hown hb
        refine onlyC 9 rfl (by kernel_rfl) (by rfl) ?_
        intro K hK
        go_simp
        refine hK _ _ (fun _ => (Below.refl _ _).alloc hb1.size _) ?_
        clear hK K
        have hown2 := hown1.alloc (.cells #[.string ⟨(Cd.operand f[i] v).toArray⟩] 9)
        have hb2 := hb1.alloc hb1.size (.cells #[.string ⟨(Cd.operand f[i] v).toArray⟩] 9)
        refine onlyC 10 rfl (by kernel_rfl) (by rfl) ?_
        intro K hK
        refine wp_append_rd (.tmp 22) (.tmp 31) _ rfl strTy (A := D) (n := i + 1) (c := c') rfl hown2 (B := u1.heap.size + 1) (S := some ⟨u1.heap.size, 0, none⟩) (m := 1) (d := 1) (news := [.string ⟨(Cd.operand f[i] v).toArray⟩]) rfl (Row.new _ _ _) (by simp [Value.oneCell']) (by unfold maxLen; omega) (by omega) hb2.size ?_
        intro A3 c3 w3 hown3 hgrow3 hat3
        rw [sv_snoc, HS.out] at hown3
        have hb3 := below_own hb2 hown2 hgrow3 hb2.size
        refine hK _ _ (fun h => absurd h (by decide)) ?_
        clear hK K
        refine takeC 11 [11] rfl (by kernel_rfl) (fun _ _ _ h => h) (by rfl) (by intro w' hg; go_simp; try with_reducible rfl) ?_
        refine doneC (by kernel_rfl) ?_
        go_simp
        go_wp2
        go_roundw
        case rel => exact ⟨i + 1, c3, A3, rfl, by go_num, by omega, hown3, hb3⟩
        case measure => simp [intOf]; omega
      · obtain rfl : i = f.size := by omega
        have HE : Hid (nm.data.toList :: Cd.opWords ⟨(k : Int), a, b, c⟩ f.size = Cd.insWords ⟨(k : Int), a, b, c⟩) := hide (by unfold Cd.insWords; simp only; rw [HO.out, ← Lib.size_eq])
        have hfin := hbx.trans (hb.mono hB)
        go_wp2
        go_ret
        exact LinesPost.of HE.out rfl (own_cap hown) (own_cap63 hown) (Strs.of_own hown) hfin
end Go.Proofs.YtfjekckcpkkdiaaGreatDoor
