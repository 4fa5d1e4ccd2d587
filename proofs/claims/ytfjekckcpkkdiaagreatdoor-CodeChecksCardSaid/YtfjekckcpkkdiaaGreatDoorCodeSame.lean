/- Layer 4, code.Same and the document's own answer: contracts. -/
import Derived.Test.YtfjekckcpkkdiaaGreatDoorCodeEq
namespace Go.Proofs.YtfjekckcpkkdiaaGreatDoor
open Go.RowKit

theorem pr_eq (p q : Cd.Pr) : p = q ↔ p.pages = q.pages ∧ p.code = q.code ∧ p.strs = q.strs := by
  obtain ⟨a, b, c⟩ := p
  obtain ⟨d, e, f⟩ := q
  simp only [Cd.Pr.mk.injEq]
  constructor
  · rintro ⟨h1, h2, h3⟩; exact ⟨h3, h1, h2⟩
  · rintro ⟨h3, h1, h2⟩; exact ⟨h1, h2, h3⟩
/-- A program, as a value: two slices and a number. -/
def pa (A : Option Addr) (n c : Nat) (D : Option Addr) (m d : Nat) (pages : Int) : Value := .agg #[.slice A n c, .slice D m d, .int .i64 pages]

set_option maxRecDepth 100000 in
set_option maxHeartbeats 2000000 in
theorem same_any (p q : Cd.Pr) (A D A' D' : Option Addr) (n c m d n' c' m' d' C : Nat) (w : World) (h1 : Inss w C A n p.code) (h2 : Strs w C D m p.strs) (h3 : Inss w C A' n' q.code) (h4 : Strs w C D' m' q.strs) (hC : C ≤ w.heap.size) (hn : n ≤ 9223372036854775807) (hm : m ≤ 9223372036854775807) (hn' : n' ≤ 9223372036854775807) (hm' : m' ≤ 9223372036854775807) :
    Calls Tryz.prog 15 #[pa A n c D m d p.pages, pa A' n' c' D' m' d' q.pages] w fun e w' => e = .returned (.bool (decide (p = q))) ∧ Below w.heap.size w w' := by
  obtain ⟨code, strs, pages⟩ := p
  obtain ⟨code', strs', pages'⟩ := q
  unfold pa
  simp only at h1 h2 h3 h4 ⊢
  have O1 := (Obl.make w 25 #[.slice A n c, .slice D m d, .int .i64 pages]).alloc (.cells #[.slice A' n' c', .slice D' m' d', .int .i64 pages'] 25)
  have hW : ((w.alloc (.cells #[.slice A n c, .slice D m d, .int .i64 pages] 25)).alloc (.cells #[.slice A' n' c', .slice D' m' d', .int .i64 pages'] 25)).heap.size = w.heap.size + 2 := by simp
  have O2 : Obl ((w.alloc (.cells #[.slice A n c, .slice D m d, .int .i64 pages] 25)).alloc (.cells #[.slice A' n' c', .slice D' m' d', .int .i64 pages'] 25)) (w.heap.size + 1) 25 #[.slice A' n' c', .slice D' m' d', .int .i64 pages'] := by
    simpa using Obl.make (w.alloc (.cells #[.slice A n c, .slice D m d, .int .i64 pages] 25)) 25 #[.slice A' n' c', .slice D' m' d', .int .i64 pages']
  have hb0 : Below w.heap.size w ((w.alloc (.cells #[.slice A n c, .slice D m d, .int .i64 pages] 25)).alloc (.cells #[.slice A' n' c', .slice D' m' d', .int .i64 pages'] 25)) := ((Below.refl _ _).alloc (Nat.le_refl _) _).alloc (by simp) _
  have k1 := h1.belowLe hb0 hC
  have k2 := h2.belowLe hb0 hC
  have k3 := h3.belowLe hb0 hC
  have k4 := h4.belowLe hb0 hC
  clear h1 h2 h3 h4
  by_cases hp : pages = pages'
  · have ep : (pages == pages') = true := by simpa using hp
    by_cases hc : code = code'
    · have HR : Hid (decide ((⟨code, strs, pages⟩ : Cd.Pr) = ⟨code', strs', pages'⟩) = decide (strs = strs')) := hide (decide_eq_decide.2 (by rw [pr_eq]; simp [hp, hc]))
      have HC := hide (decide_eq_true hc)
      clear hp hc
      go_enter Tryz.func15, Tryz.ntmps15
      go_wp2_with fail
      refine (equalIns_any A A' n n' c c' C code code' _ k1 k3 hn hn').mono ?_
      rintro e w1 ⟨rfl, hb1⟩
      rw [HC.out]
      rw [hW] at hb1
      have P1 := O1.below hb1 (by omega)
      have P2 := O2.below hb1 (by omega)
      have q1 := P1.cell 1
      have q2 := P2.cell 1
      simp at q1 q2
      have hs1 := hb1.size
      rw [hW] at hs1
      go_wp2_with fail
      refine (equalStrs_any D D' m m' d d' strs strs' _ C (k2.belowLe hb1 (by omega)) (k4.belowLe hb1 (by omega)) hm hm').mono ?_
      rintro e w2 ⟨rfl, hb2⟩
      have hfin := (hb0.trans (hb1.mono (by omega))).trans (hb2.mono (by omega))
      go_wp2
      go_ret
      exact ⟨ret_bool HR.out.symm, hfin⟩
    · have HR : Hid (decide ((⟨code, strs, pages⟩ : Cd.Pr) = ⟨code', strs', pages'⟩) = false) := hide (decide_eq_false (by rw [pr_eq]; simp [hc]))
      have HC := hide (decide_eq_false hc)
      clear hp hc
      go_enter Tryz.func15, Tryz.ntmps15
      go_wp2_with fail
      refine (equalIns_any A A' n n' c c' C code code' _ k1 k3 hn hn').mono ?_
      rintro e w1 ⟨rfl, hb1⟩
      rw [HC.out]
      rw [hW] at hb1
      have hfin := hb0.trans (hb1.mono (by omega))
      go_wp2
      go_ret
      exact ⟨ret_bool HR.out.symm, hfin⟩
  · have ep : (pages == pages') = false := by simpa using hp
    have HR : Hid (decide ((⟨code, strs, pages⟩ : Cd.Pr) = ⟨code', strs', pages'⟩) = false) := hide (decide_eq_false (by rw [pr_eq]; simp [hp]))
    clear hp
    go_enter Tryz.func15, Tryz.ntmps15
    go_wp2
    go_ret
    exact ⟨ret_bool HR.out.symm, hb0⟩

set_option maxRecDepth 100000 in
set_option maxHeartbeats 4000000 in
theorem ref4Same_any (p q : Cd.Pr) (A D A' D' : Option Addr) (n c m d n' c' m' d' C : Nat) (w : World) (h1 : Inss w C A n p.code) (h2 : Strs w C D m p.strs) (h3 : Inss w C A' n' q.code) (h4 : Strs w C D' m' q.strs) (hC : C ≤ w.heap.size) (hn : n ≤ 9223372036854775807) (hm : m ≤ 9223372036854775807) (hn' : n' ≤ 9223372036854775807) (hm' : m' ≤ 9223372036854775807) :
    Calls Tryz.prog 16 #[pa A n c D m d p.pages, pa A' n' c' D' m' d' q.pages] w fun e w' => e = .returned (.bool (decide (p = q))) ∧ Below w.heap.size w w' := by
  obtain ⟨code, strs, pages⟩ := p
  obtain ⟨code', strs', pages'⟩ := q
  unfold pa
  simp only at h1 h2 h3 h4 ⊢
  have O1 := (Obl.make w 25 #[.slice A n c, .slice D m d, .int .i64 pages]).alloc (.cells #[.slice A' n' c', .slice D' m' d', .int .i64 pages'] 25)
  have hW : ((w.alloc (.cells #[.slice A n c, .slice D m d, .int .i64 pages] 25)).alloc (.cells #[.slice A' n' c', .slice D' m' d', .int .i64 pages'] 25)).heap.size = w.heap.size + 2 := by simp
  have O2 : Obl ((w.alloc (.cells #[.slice A n c, .slice D m d, .int .i64 pages] 25)).alloc (.cells #[.slice A' n' c', .slice D' m' d', .int .i64 pages'] 25)) (w.heap.size + 1) 25 #[.slice A' n' c', .slice D' m' d', .int .i64 pages'] := by
    simpa using Obl.make (w.alloc (.cells #[.slice A n c, .slice D m d, .int .i64 pages] 25)) 25 #[.slice A' n' c', .slice D' m' d', .int .i64 pages']
  have hb0 : Below w.heap.size w ((w.alloc (.cells #[.slice A n c, .slice D m d, .int .i64 pages] 25)).alloc (.cells #[.slice A' n' c', .slice D' m' d', .int .i64 pages'] 25)) := ((Below.refl _ _).alloc (Nat.le_refl _) _).alloc (by simp) _
  have k1 := h1.belowLe hb0 hC
  have k2 := h2.belowLe hb0 hC
  have k3 := h3.belowLe hb0 hC
  have k4 := h4.belowLe hb0 hC
  clear h1 h2 h3 h4
  have hnl := k1.len
  have hnl' := k3.len
  by_cases hp : pages = pages'
  · subst hp
    by_cases hnn : n = n'
    · subst hnn
      have en : ((n : Int) == (n : Int)) = true := by simp
      by_cases hs : strs = strs'
      · have HR : Hid (decide ((⟨code, strs, pages⟩ : Cd.Pr) = ⟨code', strs', pages⟩) = decide (code = code')) := hide (decide_eq_decide.2 (by rw [pr_eq]; simp [hs]))
        have HS := hide (decide_eq_true hs)
        clear hs
        go_enter Tryz.func16, Tryz.ntmps16
        go_wp2_with fail
        refine (refSame_any D D' m m' d d' strs strs' _ C k2 k4 hm hm').mono ?_
        rintro e w1 ⟨rfl, hb1⟩
        rw [HS.out]
        rw [hW] at hb1
        have P1 := O1.below hb1 (by omega)
        have P2 := O2.below hb1 (by omega)
        have p0 := P1.cell 0
        have p1 := P2.cell 0
        simp at p0 p1
        have i1 := k1.belowLe hb1 (by omega)
        have i3 := k3.belowLe hb1 (by omega)
        have hfin := hb0.trans (hb1.mono (by omega))
        clear O1 O2 P1 P2 k1 k2 k3 k4 hb1 hb0 hW
        go_wp2_with fail
        go_loopw [31] (fun s31 wr => ∃ (k q : Nat), s31 = .int .i64 (k : Int) ∧ k ≤ n ∧ Hid (code.take k = code'.take k) ∧ wr = w1.drewN q) (fun s31 _ => n - (intOf s31).toNat)
        case atStart => exact ⟨0, 0, rfl, by omega, hide rfl, rfl⟩
        case round =>
          obtain ⟨k, q, rfl, hk, HE, rfl⟩ := hrel
          by_cases hlt : k < n
          · obtain ⟨b1, o1, hl1, rfl, hb1, c0, c1, c2, c3⟩ := i1.at_ hlt
            obtain ⟨b2, o2, hl2, rfl, hb2, d0, d1, d2, d3⟩ := i3.at_ hlt
            by_cases he : code[k] = code'[k]
            · have HE2 := hide (take_snoc_eq HE.out hl1 hl2 he)
              rw [← he] at d0 d1 d2 d3
              generalize code[k] = x at *
              clear he
              have eo : (x.op == x.op) = true := by simp
              have ea : (x.a == x.a) = true := by simp
              have eb : (x.b == x.b) = true := by simp
              have ec : (x.c == x.c) = true := by simp
              go_wp2_with fail
              refine region_B (by kernel_rfl) (w.heap.size + 2) ?_
              refine takeB 0 rfl (by kernel_rfl) (fun _ _ _ h => h) (by rfl) (by intro w' hg; go_simp; try with_reducible rfl) ?_
              refine takeB 1 rfl (by kernel_rfl) (fun _ _ _ h => h) (by rfl) (by intro w' hg; have gp := (hg.cell (p := ⟨w.heap.size, 0, none⟩) (by show w.heap.size < w.heap.size + 2; omega)).trans (show (w1.drewN q).drew.cell? _ = _ from p0); go_simp; try with_reducible rfl) ?_
              refine takeB 2 rfl (by kernel_rfl) (fun _ _ _ h => h) (by rfl) (by intro w' hg; go_simp; try with_reducible rfl) ?_
              refine takeB 3 rfl (by kernel_rfl) (fun _ _ _ h => h) (by rfl) (by intro w' hg; go_simp; try with_reducible rfl) ?_
              refine takeB 4 rfl (by kernel_rfl) (fun _ _ _ h => h) (by rfl) (by intro w' hg; have g0 := (hg.cell (p := ⟨b1, o1 + k * 4, none⟩) (by show b1 < w.heap.size + 2; omega)).trans (show (w1.drewN q).drew.cell? _ = _ from c0); have g1 := (hg.cell (p := ⟨b1, o1 + k * 4 + 1, none⟩) (by show b1 < w.heap.size + 2; omega)).trans (show (w1.drewN q).drew.cell? _ = _ from c1); have g2 := (hg.cell (p := ⟨b1, o1 + k * 4 + 2, none⟩) (by show b1 < w.heap.size + 2; omega)).trans (show (w1.drewN q).drew.cell? _ = _ from c2); have g3 := (hg.cell (p := ⟨b1, o1 + k * 4 + 3, none⟩) (by show b1 < w.heap.size + 2; omega)).trans (show (w1.drewN q).drew.cell? _ = _ from c3); go_simp; try with_reducible rfl) ?_
              refine takeB 5 rfl (by kernel_rfl) (fun _ _ _ h => h) (by rfl) (by intro w' hg; go_simp; try with_reducible rfl) ?_
              refine takeB 6 rfl (by kernel_rfl) (fun _ _ _ h => h) (by rfl) (by intro w' hg; have gp := (hg.cell (p := ⟨w.heap.size + 1, 0, none⟩) (by show w.heap.size + 1 < w.heap.size + 2; omega)).trans (show (w1.drewN q).drew.cell? _ = _ from p1); go_simp; try with_reducible rfl) ?_
              refine takeB 7 rfl (by kernel_rfl) (fun _ _ _ h => h) (by rfl) (by intro w' hg; go_simp; try with_reducible rfl) ?_
              refine takeB 8 rfl (by kernel_rfl) (fun _ _ _ h => h) (by rfl) (by intro w' hg; go_simp; try with_reducible rfl) ?_
              refine takeB 9 rfl (by kernel_rfl) (fun _ _ _ h => h) (by rfl) (by intro w' hg; have g0 := (hg.cell (p := ⟨b2, o2 + k * 4, none⟩) (by show b2 < w.heap.size + 2; omega)).trans (show (w1.drewN q).drew.cell? _ = _ from d0); have g1 := (hg.cell (p := ⟨b2, o2 + k * 4 + 1, none⟩) (by show b2 < w.heap.size + 2; omega)).trans (show (w1.drewN q).drew.cell? _ = _ from d1); have g2 := (hg.cell (p := ⟨b2, o2 + k * 4 + 2, none⟩) (by show b2 < w.heap.size + 2; omega)).trans (show (w1.drewN q).drew.cell? _ = _ from d2); have g3 := (hg.cell (p := ⟨b2, o2 + k * 4 + 3, none⟩) (by show b2 < w.heap.size + 2; omega)).trans (show (w1.drewN q).drew.cell? _ = _ from d3); go_simp; try with_reducible rfl) ?_
              refine takeB 10 rfl (by kernel_rfl) (fun _ _ _ h => h) (by rfl) (by intro w' hg; go_simp; try with_reducible rfl) ?_
              refine doneB (by kernel_rfl) ?_
              go_simp
              go_wp2
              go_roundw
              case rel => exact ⟨k + 1, q + 1, by go_num, by omega, HE2, rfl⟩
              case measure => simp [intOf]; omega
            · have HN : Hid (decide (code = code') = false) := hide (decide_eq_false (ins_ne hl1 hl2 he))
              generalize code[k] = x at *
              generalize code'[k] = y at *
              have hd : ¬ x.op = y.op ∨ (x.op = y.op ∧ ¬ x.a = y.a) ∨ (x.op = y.op ∧ x.a = y.a ∧ ¬ x.b = y.b) ∨ (x.op = y.op ∧ x.a = y.a ∧ x.b = y.b ∧ ¬ x.c = y.c) := by
                by_cases h1 : x.op = y.op
                · by_cases h2 : x.a = y.a
                  · by_cases h3 : x.b = y.b
                    · by_cases h4 : x.c = y.c
                      · exact absurd ((insEq_iff x y).1 (by simp [insEq, h1, h2, h3, h4])) he
                      · exact .inr (.inr (.inr ⟨h1, h2, h3, h4⟩))
                    · exact .inr (.inr (.inl ⟨h1, h2, h3⟩))
                  · exact .inr (.inl ⟨h1, h2⟩)
                · exact .inl h1
              clear he
              rcases hd with h1 | ⟨h1, h2⟩ | ⟨h1, h2, h3⟩ | ⟨h1, h2, h3, h4⟩
              all_goals
                go_wp2_with fail
                refine region_B (by kernel_rfl) (w.heap.size + 2) ?_
                refine takeB 0 rfl (by kernel_rfl) (fun _ _ _ h => h) (by rfl) (by intro w' hg; go_simp; try with_reducible rfl) ?_
                refine takeB 1 rfl (by kernel_rfl) (fun _ _ _ h => h) (by rfl) (by intro w' hg; have gp := (hg.cell (p := ⟨w.heap.size, 0, none⟩) (by show w.heap.size < w.heap.size + 2; omega)).trans (show (w1.drewN q).drew.cell? _ = _ from p0); go_simp; try with_reducible rfl) ?_
                refine takeB 2 rfl (by kernel_rfl) (fun _ _ _ h => h) (by rfl) (by intro w' hg; go_simp; try with_reducible rfl) ?_
                refine takeB 3 rfl (by kernel_rfl) (fun _ _ _ h => h) (by rfl) (by intro w' hg; go_simp; try with_reducible rfl) ?_
                refine takeB 4 rfl (by kernel_rfl) (fun _ _ _ h => h) (by rfl) (by intro w' hg; have g0 := (hg.cell (p := ⟨b1, o1 + k * 4, none⟩) (by show b1 < w.heap.size + 2; omega)).trans (show (w1.drewN q).drew.cell? _ = _ from c0); have g1 := (hg.cell (p := ⟨b1, o1 + k * 4 + 1, none⟩) (by show b1 < w.heap.size + 2; omega)).trans (show (w1.drewN q).drew.cell? _ = _ from c1); have g2 := (hg.cell (p := ⟨b1, o1 + k * 4 + 2, none⟩) (by show b1 < w.heap.size + 2; omega)).trans (show (w1.drewN q).drew.cell? _ = _ from c2); have g3 := (hg.cell (p := ⟨b1, o1 + k * 4 + 3, none⟩) (by show b1 < w.heap.size + 2; omega)).trans (show (w1.drewN q).drew.cell? _ = _ from c3); go_simp; try with_reducible rfl) ?_
                refine takeB 5 rfl (by kernel_rfl) (fun _ _ _ h => h) (by rfl) (by intro w' hg; go_simp; try with_reducible rfl) ?_
                refine takeB 6 rfl (by kernel_rfl) (fun _ _ _ h => h) (by rfl) (by intro w' hg; have gp := (hg.cell (p := ⟨w.heap.size + 1, 0, none⟩) (by show w.heap.size + 1 < w.heap.size + 2; omega)).trans (show (w1.drewN q).drew.cell? _ = _ from p1); go_simp; try with_reducible rfl) ?_
                refine takeB 7 rfl (by kernel_rfl) (fun _ _ _ h => h) (by rfl) (by intro w' hg; go_simp; try with_reducible rfl) ?_
                refine takeB 8 rfl (by kernel_rfl) (fun _ _ _ h => h) (by rfl) (by intro w' hg; go_simp; try with_reducible rfl) ?_
                refine takeB 9 rfl (by kernel_rfl) (fun _ _ _ h => h) (by rfl) (by intro w' hg; have g0 := (hg.cell (p := ⟨b2, o2 + k * 4, none⟩) (by show b2 < w.heap.size + 2; omega)).trans (show (w1.drewN q).drew.cell? _ = _ from d0); have g1 := (hg.cell (p := ⟨b2, o2 + k * 4 + 1, none⟩) (by show b2 < w.heap.size + 2; omega)).trans (show (w1.drewN q).drew.cell? _ = _ from d1); have g2 := (hg.cell (p := ⟨b2, o2 + k * 4 + 2, none⟩) (by show b2 < w.heap.size + 2; omega)).trans (show (w1.drewN q).drew.cell? _ = _ from d2); have g3 := (hg.cell (p := ⟨b2, o2 + k * 4 + 3, none⟩) (by show b2 < w.heap.size + 2; omega)).trans (show (w1.drewN q).drew.cell? _ = _ from d3); go_simp; try with_reducible rfl) ?_
                refine takeB 10 rfl (by kernel_rfl) (fun _ _ _ h => h) (by rfl) (by intro w' hg; go_simp; try with_reducible rfl) ?_
                refine doneB (by kernel_rfl) ?_
                go_simp
                go_wp2
                go_ret
                exact ⟨ret_bool (HR.out.trans HN.out).symm, hfin.trans (Below.drews (q + 1))⟩
          · obtain rfl : k = n := by omega
            have HY : Hid (decide (code = code') = true) := hide (decide_eq_true (take_eq_all HE.out hnl hnl'))
            go_wp2
            go_ret
            exact ⟨ret_bool (HR.out.trans HY.out).symm, hfin.trans (Below.drews q)⟩
      · have HR : Hid (decide ((⟨code, strs, pages⟩ : Cd.Pr) = ⟨code', strs', pages⟩) = false) := hide (decide_eq_false (by rw [pr_eq]; simp [hs]))
        have HS := hide (decide_eq_false hs)
        clear hs
        go_enter Tryz.func16, Tryz.ntmps16
        go_wp2_with fail
        refine (refSame_any D D' m m' d d' strs strs' _ C k2 k4 hm hm').mono ?_
        rintro e w1 ⟨rfl, hb1⟩
        rw [HS.out]
        rw [hW] at hb1
        have hfin := hb0.trans (hb1.mono (by omega))
        go_wp2
        go_ret
        exact ⟨ret_bool HR.out.symm, hfin⟩
    · have en : ((n : Int) == (n' : Int)) = false := by simp; omega
      have en' : ¬ (n : Int) = (n' : Int) := by omega
      have HR : Hid (decide ((⟨code, strs, pages⟩ : Cd.Pr) = ⟨code', strs', pages⟩) = false) := hide (decide_eq_false (by rw [pr_eq]; simp only; rintro ⟨_, rfl, _⟩; omega))
      go_enter Tryz.func16, Tryz.ntmps16
      go_wp2
      go_ret
      exact ⟨ret_bool HR.out.symm, hb0⟩
  · have ep : (pages == pages') = false := by simpa using hp
    have HR : Hid (decide ((⟨code, strs, pages⟩ : Cd.Pr) = ⟨code', strs', pages'⟩) = false) := hide (decide_eq_false (by rw [pr_eq]; simp [hp]))
    go_enter Tryz.func16, Tryz.ntmps16
    go_wp2
    go_ret
    exact ⟨ret_bool HR.out.symm, hb0⟩
end Go.Proofs.YtfjekckcpkkdiaaGreatDoor
