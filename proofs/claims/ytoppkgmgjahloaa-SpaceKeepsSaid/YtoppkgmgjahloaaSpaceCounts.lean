/- Layer 7: SpaceCounts: the walk. -/
import Derived.Test.YtoppkgmgjahloaaSpMade
namespace Go.Proofs.Ytoppkgmgjahloaa
open Go.RowKit

/-- Where an address is. -/
theorem Sp.find_cases {l : List Sp.Ref} (h : Sp.Ok l) (a : Nat) : (∃ p r : Nat, ∃ hp : p < l.length, p = a / 16 ∧ r = a % 16 ∧ (a : Int) < (l.length : Int) * 16 ∧ Sp.find l (a : Int) = (l[p].id, (r : Int), 0)) ∨ (¬ (a : Int) < (l.length : Int) * 16 ∧ Sp.find l (a : Int) = (0, 0, 11)) := by
  by_cases ha : a < 16 * l.length
  · exact .inl ⟨a / 16, a % 16, by omega, rfl, rfl, by omega, Sp.find_at h (by omega)⟩
  · exact .inr ⟨by omega, Sp.find_out h (by omega)⟩
/-- One page at two places is shared. -/
theorem Sp.twice {l : List Sp.Ref} (h : Sp.Ok l) {p q : Nat} (hp : p < l.length) (hq : q < l.length) (hne : p ≠ q) (he : l[p].id = l[q].id) : l[p].sh = true := by
  have key : ∀ {i j : Nat} (hi : i < l.length) (hj : j < l.length), i < j → l[i].id = l[j].id → l[i].sh = true ∧ l[j].sh = true := by
    intro i j hi hj hij he
    have := List.pairwise_iff_getElem.1 h.2.2 i j hi hj hij
    unfold Sp.ex at this
    cases h1 : l[i].sh <;> cases h2 : l[j].sh <;> simp_all
  rcases Nat.lt_or_gt_of_ne hne with h' | h'
  · exact (key hp hq h' he).1
  · exact (key hq hp h' he.symm).2
theorem div16 (a : Nat) {p : Nat} (hp : p = a / 16) : (a : Int) / 16 = (p : Int) ∧ (a : Int).tdiv 16 = (p : Int) := by
  have d1 : (a : Int) / 16 = (p : Int) := by omega
  exact ⟨d1, by rw [Int.tdiv_eq_ediv_of_nonneg (by omega)]; exact d1⟩
theorem mod16 (a : Nat) {r : Nat} (hr : r = a % 16) : (a : Int) % 16 = (r : Int) ∧ (a : Int).tmod 16 = (r : Int) := by
  have d1 : (a : Int) % 16 = (r : Int) := by omega
  exact ⟨d1, by rw [Int.tmod_eq_emod_of_nonneg (by omega)]; exact d1⟩
set_option maxRecDepth 100000 in
set_option maxHeartbeats 16000000 in
theorem spaceCounts_any (S : Option Addr) (q r : Nat) (bs : List UInt8) (a b : Nat) (ha : a < 256) (hb : b < 256) (W : World) (h : Bytes W W.heap.size S q bs) (hq : q ≤ r ∧ r ≤ 9223372036854775807) :
    Calls Try.prog 6 #[.slice S q r, .int .u8 a, .int .u8 b] W (BoolPost true W) := by
  have HS := hide h
  clear h
  go_enter Try.func6, Try.ntmps6
  go_wp2_with fail
  refine (sane_any _).mono ?_
  rintro e w1 ⟨rfl, hb1⟩
  have HS1 := hide (HS.out.belowLe hb1 (Nat.le_refl _))
  have HB1 := hide hb1
  have hW1 := hb1.size
  clear hb1 HS
  go_wp2_with fail
  refine (made_any S q r bs _ (HS1.out.mono hW1) hq).mono ?_
  rintro e w2 ⟨A, n, c, l, rfl, hR, hnc, hok, hb2⟩
  have HR := hide hR
  have HK := hide hok
  have hl := hR.len
  have h16 : n ≤ 16 := by have := hok.1; omega
  have HB2 := hide (HB1.out.trans (hb2.mono hW1))
  clear hR hok hb2 HS1 HB1
  have hn' : (n : Int) ≤ 16 := by omega
  go_wp2_with fail
  refine (find_any l A n c (a : Int) _ HR.out hnc).mono ?_
  intro e w3 hp
  rcases Sp.find_cases HK.out a with ⟨pa, ra', hpa, epa, era, hla, hfa⟩ | ⟨hla, hfa⟩
  · obtain ⟨rfl, hb3⟩ := hp.got hfa
    have HR3 := hide (HR.out.later hb3)
    have HB3 := hide (HB2.out.trans (hb3.mono HB2.out.size))
    rw [hl] at hla
    have EA := hide epa
    have FA := hide era
    clear hp hb3 hfa epa era
    go_wp2_with fail
    refine (find_any l A n c (b : Int) _ HR3.out hnc).mono ?_
    intro e w4 hp
    rcases Sp.find_cases HK.out b with ⟨pb, rb', hpb, epb, erb, hlb, hfb⟩ | ⟨hlb, hfb⟩
    · obtain ⟨rfl, hb4⟩ := hp.got hfb
      have epa := EA.out
      have era := FA.out
      have HR4 := hide (HR3.out.later hb4)
      have HB4 := hide (HB3.out.trans (hb4.mono HB3.out.size))
      rw [hl] at hlb
      clear hp hb4 hfb HR3 HB3
      obtain ⟨d1, d2⟩ := div16 a epa
      obtain ⟨d3, d4⟩ := mod16 a era
      obtain ⟨e1, e2⟩ := div16 b epb
      obtain ⟨e3, e4⟩ := mod16 b erb
      have hpa' : (pa : Int) < (n : Int) := by omega
      have hpb' : (pb : Int) < (n : Int) := by omega
      have hra : ra' < 16 := by omega
      have hrb : rb' < 16 := by omega
      have EB := hide epb
      have FB := hide erb
      clear epa era epb erb
      obtain ⟨b1, o1, hkl, rfl, hb1, c0, c1⟩ := HR4.out.at_ (i := pa) (by omega)
      obtain ⟨b1', o1', hkl', hA, hb1', c0', c1'⟩ := HR4.out.at_ (i := pb) (by omega)
      simp only [Option.some.injEq, Addr.mk.injEq, and_true] at hA
      obtain ⟨rfl, rfl⟩ := hA
      by_cases hab : a = b
      · subst hab
        obtain rfl : pa = pb := by rw [EA.out, EB.out]
        obtain rfl : ra' = rb' := by rw [FA.out, FB.out]
        have q1 : ((l[pa]).id == (l[pa]).id) = true := by simp
        have q2 : ((ra' : Int) == (ra' : Int)) = true := by simp
        have q3 : ((a : Int) == (a : Int)) = true := by simp
        generalize l[pa] = x at *
        go_wp2_with fail
        go_ret
        exact ⟨rfl, HB4.out⟩
      · have q3 : ((a : Int) == (b : Int)) = false := by simp; omega
        by_cases hid : (l[pa]).id = (l[pb]).id
        · by_cases hr : ra' = rb'
          · have hsh := Sp.twice HK.out hkl hkl' (by intro h1; have h2 := EA.out; have h3 := EB.out; have h4 := FA.out; have h5 := FB.out; omega) hid
            rw [hsh] at c1
            rw [← hid] at c0'
            rw [← hid]
            subst hr
            have q1 : ((l[pa]).id == (l[pa]).id) = true := by simp
            have q2 : ((ra' : Int) == (ra' : Int)) = true := by simp
            clear hid hsh
            generalize l[pa] = x at *
            generalize l[pb] = y at *
            go_wp2_with fail
            go_ret
            exact ⟨rfl, HB4.out⟩
          · have q2 : ((ra' : Int) == (rb' : Int)) = false := by simp; omega
            rw [← hid] at c0'
            rw [← hid]
            have q1 : ((l[pa]).id == (l[pa]).id) = true := by simp
            clear hid hr
            generalize l[pa] = x at *
            generalize l[pb] = y at *
            go_wp2_with fail
            go_ret
            exact ⟨rfl, HB4.out⟩
        · have q1 : ((l[pa]).id == (l[pb]).id) = false := by simpa using hid
          have q4 : ((l[pb]).id == (l[pb]).id) = true := by simp
          clear hid
          generalize l[pa] = x at *
          generalize l[pb] = y at *
          go_wp2_with fail
          go_ret
          exact ⟨rfl, HB4.out⟩
    · obtain ⟨rfl, hb4⟩ := hp.got hfb
      have HB4 := hide (HB3.out.trans (hb4.mono HB3.out.size))
      rw [hl] at hlb
      clear hp hb4 hfb
      generalize l[pa] = x at *
      go_wp2_with fail
      go_ret
      exact ⟨rfl, HB4.out⟩
  · obtain ⟨rfl, hb3⟩ := hp.got hfa
    have HR3 := hide (HR.out.later hb3)
    have HB3 := hide (HB2.out.trans (hb3.mono HB2.out.size))
    rw [hl] at hla
    clear hp hb3 hfa
    go_wp2_with fail
    refine (find_any l A n c (b : Int) _ HR3.out hnc).mono ?_
    intro e w4 hp
    rcases Sp.find_cases HK.out b with ⟨pb, rb', hpb, epb, erb, hlb, hfb⟩ | ⟨hlb, hfb⟩
    · obtain ⟨rfl, hb4⟩ := hp.got hfb
      have HB4 := hide (HB3.out.trans (hb4.mono HB3.out.size))
      rw [hl] at hlb
      clear hp hb4 hfb epb erb
      generalize l[pb] = y at *
      go_wp2_with fail
      go_ret
      exact ⟨rfl, HB4.out⟩
    · obtain ⟨rfl, hb4⟩ := hp.got hfb
      have HB4 := hide (HB3.out.trans (hb4.mono HB3.out.size))
      rw [hl] at hlb
      clear hp hb4 hfb
      go_wp2_with fail
      go_ret
      exact ⟨rfl, HB4.out⟩
end Go.Proofs.Ytoppkgmgjahloaa
