/- Layer 2: the statements' walks. -/
import Derived.Test.YtabnokcejoaknaaDoorNumRef
namespace Go.Proofs.YtabnokcejoaknaaDoor
open Go.RowKit

theorem StrsPost.at_ {r : List (List UInt8) × Nat} {l : List (List UInt8)} {er : Nat} {w w' : World} {e : Ending} (h : StrsPost r w e w') (hr : r = (l, er)) : ∃ A c, e = .returned (.tuple #[.slice A l.length c, .int .i64 (er : Int)]) ∧ l.length ≤ c ∧ c ≤ 9223372036854775807 ∧ Strs w' w'.heap.size A l.length l ∧ Below w.heap.size w w' := by
  subst hr; exact h
theorem LinesPost.at_ {r l : List (List UInt8)} {w w' : World} {e : Ending} (h : LinesPost r w e w') (hr : r = l) : ∃ A c, e = .returned (.slice A l.length c) ∧ l.length ≤ c ∧ c ≤ 9223372036854775807 ∧ Strs w' w'.heap.size A l.length l ∧ Below w.heap.size w w' := by
  subst hr; exact h
theorem StrPost.at_ {r : List UInt8 × Nat} {l : List UInt8} {er : Nat} {w w' : World} {e : Ending} (h : StrPost r w e w') (hr : r = (l, er)) : e = .returned (.tuple #[.string ⟨l.toArray⟩, .int .i64 (er : Int)]) ∧ Below w.heap.size w w' := by
  subst hr; exact h
theorem NumPost.at_ {r : Int × Nat} {v : Int} {er : Nat} {w w' : World} {e : Ending} (h : NumPost r w e w') (hr : r = (v, er)) : e = .returned (.tuple #[.int .i64 v, .int .i64 (er : Int)]) ∧ Below w.heap.size w w' := by
  subst hr; exact h

set_option maxRecDepth 100000 in
set_option maxHeartbeats 2000000 in
theorem sane_any (w : World) (hL : Laid w) : Calls Tryd.prog 9 #[] w fun e w' => e = .returned (.bool true) ∧ Below w.heap.size w w' := by
  have HL := hide hL
  clear hL
  go_enter Tryd.func9, Tryd.ntmps9
  go_wp2_with fail
  refine (split_any _ _ (by decide)).mono ?_
  intro e w1 hp
  obtain ⟨A1, c1, rfl, _, _, hs1, hb1⟩ := hp.at_ (l := [[114, 117, 110], [97, 32, 98], [51]]) (er := 0) (by decide)
  clear hp
  go_wp2_with fail
  have hj : Strs (w1.alloc (.cells #[.string ⟨#[97]⟩, .string ⟨#[]⟩] 9)) (w1.heap.size + 1) (some ⟨w1.heap.size, 0, none⟩) 2 [[97], []] := ⟨rfl, Row.list w1 [.string ⟨#[97]⟩, .string ⟨#[]⟩] 9⟩
  refine (join_any (some ⟨w1.heap.size, 0, none⟩) 2 2 [[97], []] _ _ hj (by simp) (by omega) (by decide)).mono ?_
  intro e w2 hp
  obtain ⟨rfl, hb2⟩ := hp.at_ (l := [97, 32, 34, 34]) (er := 0) (by decide)
  clear hp hj
  go_wp2_with fail
  have hb12 : Below w.heap.size w w2 := (hb1.alloc hb1.size _).trans (hb2.mono (by simp; have := hb1.size; omega))
  have hL2 : Laid w2 := HL.out.below hb12
  refine (number_any _ _ (by decide) hL2).mono ?_
  intro e w3 hp
  obtain ⟨rfl, hb3⟩ := hp.at_ (v := -17) (er := 0) (by decide)
  clear hp hL2
  have hb13 : Below w.heap.size w w3 := hb12.trans (hb3.mono hb12.size)
  obtain ⟨bl, ol, hll, rfl, hbl, hcl⟩ := hs1.at_ (k := 1) (by decide)
  have hcl3 : w3.cell? ⟨bl, ol + 1, none⟩ = some (.string ⟨#[97, 32, 98]⟩) := by
    have h1 : w2.cell? ⟨bl, ol + 1, none⟩ = w1.cell? ⟨bl, ol + 1, none⟩ := (hb2.cell (p := ⟨bl, ol + 1, none⟩) (by show bl < _; simp; omega)).trans (World.cell?_alloc_lt w1 _ _ hbl)
    have h2 : w3.cell? ⟨bl, ol + 1, none⟩ = w2.cell? ⟨bl, ol + 1, none⟩ := hb3.cell (p := ⟨bl, ol + 1, none⟩) (by show bl < _; have := hb2.size; simp at this; omega)
    rw [h2, h1, hcl]; rfl
  clear hcl
  go_wp2_with fail
  refine (lines_any _ _ (by decide)).mono ?_
  intro e w4 hp
  obtain ⟨A4, c4, rfl, _, _, _, hb4⟩ := hp.at_ (l := [[97], [], [98]]) (by decide)
  clear hp
  go_wp2
  go_ret
  exact ⟨rfl, hb13.trans (hb4.mono hb13.size)⟩

set_option maxRecDepth 100000 in
set_option maxHeartbeats 2000000 in
theorem wordsSplit_any (s : ByteArray) (w : World) (hs : s.size ≤ 1048576) (hL : Laid w) : Calls Tryd.prog 3 #[.string s] w fun e w' => e = .returned (.bool true) ∧ Below w.heap.size w w' := by
  have HL := hide hL
  clear hL
  by_cases hg : 1500 < s.size ∧ s.size ≤ 4096
  · have d1 : decide ((1500 : Int) < (s.size : Int)) = true := by simp; omega
    have d2 : decide ((s.size : Int) ≤ 4096) = true := by simp; omega
    clear hg
    go_enter Tryd.func3, Tryd.ntmps3
    go_wp2_with fail
    refine (sane_any _ HL.out).mono ?_
    rintro e w1 ⟨rfl, hb1⟩
    go_wp2
    go_ret
    exact ⟨rfl, hb1⟩
  · have hd : decide ((1500 : Int) < (s.size : Int)) = false ∨ (decide ((1500 : Int) < (s.size : Int)) = true ∧ decide ((s.size : Int) ≤ 4096) = false) := by
      by_cases h : 1500 < s.size
      · exact .inr ⟨by simp; omega, by simp; omega⟩
      · exact .inl (by simp; omega)
    clear hg
    have Hspl := split_any s
    have Hrs := refSplit_any s
    generalize Wd.split s.data.toList = r at Hspl Hrs
    obtain ⟨l, er⟩ := r
    have HS := hide Hspl
    have HR := hide Hrs
    clear Hspl Hrs
    rcases hd with d1 | ⟨d1, d2⟩
    all_goals
      go_enter Tryd.func3, Tryd.ntmps3
      go_wp2_with fail
      refine (sane_any _ HL.out).mono ?_
      rintro e w1 ⟨rfl, hb1⟩
      go_wp2_with fail
      refine (HS.out _ (by omega)).mono ?_
      rintro e w2 ⟨A2, c2, rfl, hc2, hm2, hs2, hb2⟩
      go_wp2_with fail
      refine (HR.out _ (by omega)).mono ?_
      rintro e w3 ⟨A3, c3, rfl, hc3, hm3, hs3, hb3⟩
      have hb12 : Below w.heap.size w w2 := hb1.trans (hb2.mono hb1.size)
      have hb13 : Below w.heap.size w w3 := hb12.trans (hb3.mono hb12.size)
      have ee : ((er : Int) == (er : Int)) = true := by simp
      have hln : l.length ≤ 9223372036854775807 := Nat.le_trans hc2 hm2
      go_wp2_with fail
      refine (refSame_any A2 A3 l.length l.length c2 c3 l l _ w3.heap.size ((hs2.below hb3).mono hb3.size) hs3 hln hln).mono ?_
      rintro e w4 ⟨rfl, hb4⟩
      have hb14 : Below w.heap.size w w4 := hb13.trans (hb4.mono hb13.size)
      rw [decide_eq_true (rfl : l = l)]
      clear hs2 hs3 hc2 hc3
      go_wp2_with fail
      refine (lines_any s _ (by omega)).mono ?_
      rintro e w5 ⟨A5, c5, rfl, hc5, hm5, hs5, hb5⟩
      have hb15 : Below w.heap.size w w5 := hb14.trans (hb5.mono hb14.size)
      go_wp2_with fail
      refine (refLines_any s _ (by omega)).mono ?_
      rintro e w6 ⟨A6, c6, rfl, hc6, hm6, hs6, hb6⟩
      have hb16 : Below w.heap.size w w6 := hb15.trans (hb6.mono hb15.size)
      have hln6 : (Wd.lines s.data.toList).length ≤ 9223372036854775807 := by omega
      go_wp2_with fail
      refine (refSame_any A5 A6 _ _ c5 c6 _ _ _ w6.heap.size ((hs5.below hb6).mono hb6.size) hs6 hln6 hln6).mono ?_
      rintro e w7 ⟨rfl, hb7⟩
      rw [decide_eq_true (rfl : Wd.lines s.data.toList = Wd.lines s.data.toList)]
      clear hs5 hs6 hc5 hc6
      go_wp2
      go_ret
      exact ⟨rfl, hb16.trans (hb7.mono hb16.size)⟩

set_option maxRecDepth 100000 in
set_option maxHeartbeats 2000000 in
theorem wordsJoin_any (A : Option Addr) (n c : Nat) (l : List (List UInt8)) (w : World) (hl : Strs w w.heap.size A n l) (hn : n ≤ 9223372036854775807) (hm : ∀ x ∈ l, x.length ≤ 9223372036854775807) (hL : Laid w) :
    Calls Tryd.prog 4 #[.slice A n c] w fun e w' => e = .returned (.bool true) ∧ Below w.heap.size w w' := by
  have HL := hide hL
  have Hm := hide hm
  clear hL hm
  cases hk : Wd.kept l with
  | false =>
    have Hk := hide hk
    clear hk
    go_enter Tryd.func4, Tryd.ntmps4
    go_wp2_with fail
    refine (sane_any _ HL.out).mono ?_
    rintro e w1 ⟨rfl, hb1⟩
    go_wp2_with fail
    refine (kept_any A n c l _ w.heap.size (hl.below hb1) hn Hm.out).mono ?_
    rintro e w2 ⟨rfl, rfl⟩
    rw [Hk.out]
    go_wp2
    go_ret
    exact ⟨rfl, hb1⟩
  | true =>
    have hks := hide (Wd.kept_spec hk).2
    have Hk := hide hk
    clear hk
    go_enter Tryd.func4, Tryd.ntmps4
    go_wp2_with fail
    refine (sane_any _ HL.out).mono ?_
    rintro e w1 ⟨rfl, hb1⟩
    go_wp2_with fail
    refine (kept_any A n c l _ w.heap.size (hl.below hb1) hn Hm.out).mono ?_
    rintro e w2 ⟨rfl, rfl⟩
    rw [Hk.out]
    go_wp2_with fail
    refine (join_any A n c l _ w.heap.size (hl.below hb1) hb1.size hn (fun x hx => by have := hks.out x hx; omega)).mono ?_
    rintro e w2 ⟨rfl, hb2⟩
    have hb12 : Below w.heap.size w w2 := hb1.trans (hb2.mono hb1.size)
    go_wp2_with fail
    refine (refJoin_any A n c l _ w.heap.size (hl.below hb12) hb12.size hn (fun x hx => by have := hks.out x hx; omega)).mono ?_
    rintro e w3 ⟨rfl, hb3⟩
    have hb13 : Below w.heap.size w w3 := hb12.trans (hb3.mono hb12.size)
    generalize Wd.join l = r at *
    obtain ⟨x, er⟩ := r
    have ee : ((er : Int) == (er : Int)) = true := by simp
    have ex : (x == x) = true := by simp
    go_wp2
    go_ret
    exact ⟨rfl, hb13⟩

set_option maxRecDepth 100000 in
set_option maxHeartbeats 2000000 in
theorem wordsNumbers_any (s : ByteArray) (n : Int) (w : World) (hs : s.size ≤ 9223372036854775807) (h1 : -9223372036854775808 ≤ n) (h2 : n ≤ 9223372036854775807) (hL : Laid w) :
    Calls Tryd.prog 5 #[.string s, .int .i64 n] w fun e w' => e = .returned (.bool true) ∧ Below w.heap.size w w' := by
  have HL := hide hL
  clear hL
  by_cases hg : 200 < s.size
  · have d1 : decide ((200 : Int) < (s.size : Int)) = true := by simp; omega
    clear hg
    go_enter Tryd.func5, Tryd.ntmps5
    go_wp2_with fail
    refine (sane_any _ HL.out).mono ?_
    rintro e w1 ⟨rfl, hb1⟩
    go_wp2
    go_ret
    exact ⟨rfl, hb1⟩
  · have d1 : decide ((200 : Int) < (s.size : Int)) = false := by simp; omega
    have hs200 : s.size ≤ 200 := by omega
    clear hg
    go_enter Tryd.func5, Tryd.ntmps5
    go_wp2_with fail
    refine (sane_any _ HL.out).mono ?_
    rintro e w1 ⟨rfl, hb1⟩
    have hL1 := HL.out.below hb1
    go_wp2_with fail
    refine (number_any s _ (by omega) hL1).mono ?_
    rintro e w2 ⟨rfl, hb2⟩
    have hb12 : Below w.heap.size w w2 := hb1.trans (hb2.mono hb1.size)
    have HL2 := hide (HL.out.below hb12)
    clear hL1
    go_wp2_with fail
    refine (refNumber_any s _ (by omega)).mono ?_
    rintro e w3 ⟨rfl, hb3⟩
    have hb13 : Below w.heap.size w w3 := hb12.trans (hb3.mono hb12.size)
    have HL3 := hide (HL.out.below hb13)
    generalize Wd.number s.data.toList = r at *
    obtain ⟨x, er⟩ := r
    have ee : ((er : Int) == (er : Int)) = true := by simp
    have ex : (x == x) = true := by simp
    go_wp2_with fail
    refine (format_any n _ h1 h2 HL3.out).mono ?_
    rintro e w4 ⟨rfl, hb4⟩
    have hb14 : Below w.heap.size w w4 := hb13.trans (hb4.mono hb13.size)
    go_wp2_with fail
    refine (refFormat_any n _ h1 h2).mono ?_
    rintro e w5 ⟨rfl, hb5⟩
    have hb15 : Below w.heap.size w w5 := hb14.trans (hb5.mono hb14.size)
    have ei : (Lib.itoa n == Lib.itoa n) = true := by simp
    go_wp2
    go_ret
    exact ⟨rfl, hb15⟩
end Go.Proofs.YtabnokcejoaknaaDoor
