/- Layer 7: package space's Valid: a contract. -/
import Derived.Test.YtoppkgmgjahloaaSpMem
import Derived.Deep.QuietTactic
import Derived.Test.YtoppkgmgjahloaaVal
namespace Go.Proofs.Ytoppkgmgjahloaa
open Go.RowKit

/-- An answer, and what was there is there. -/
def BoolPost (b : Bool) (w : World) (e : Ending) (w' : World) : Prop := e = .returned (.bool b) ∧ Below w.heap.size w w'
theorem start_two (W : World) (p q : Sp.Ref) : ∃ w1, (W.alloc (.cells #[.int .u64 p.id, .bool p.sh] 44)).alloc (.cells #[.int .u64 q.id, .bool q.sh] 44) = w1 ∧
    Obl w1 W.heap.size 44 #[.int .u64 p.id, .bool p.sh] ∧ Obl w1 (W.heap.size + 1) 44 #[.int .u64 q.id, .bool q.sh] ∧ Below W.heap.size W w1 := by
  refine ⟨_, rfl, (Obl.make W _ _).alloc _, ?_, ((Below.refl _ _).alloc (Nat.le_refl _) _).alloc (by simp) _⟩
  have := Obl.make (W.alloc (.cells #[.int .u64 p.id, .bool p.sh] 44)) 44 #[.int .u64 q.id, .bool q.sh]
  rwa [World.size_alloc] at this
set_option maxRecDepth 100000 in
set_option maxHeartbeats 4000000 in
theorem excludes_any (p q : Sp.Ref) (W : World) : Calls Try.prog 24 #[ra p, ra q] W (BoolPost (Sp.ex p q) W) := by
  obtain ⟨w1, hw, O1, O2, hb⟩ := start_two W p q
  have HB := hide hb
  have k0 := O1.cell 0
  have k1 := O1.cell 1
  have k2 := O2.cell 0
  have k3 := O2.cell 1
  simp at k0 k1 k2 k3
  clear hb O1 O2
  unfold Sp.ex
  obtain ⟨i, s⟩ := p
  obtain ⟨j, t⟩ := q
  simp only at *
  by_cases h : i = j
  · subst h
    have h1 : (i == i) = true := by simp
    cases s
    · go_enter Try.func24, Try.ntmps24
      go_wp2_with fail
      go_ret
      exact ⟨by simp, HB.out⟩
    · cases t
      · go_enter Try.func24, Try.ntmps24
        go_wp2_with fail
        go_ret
        exact ⟨by simp, HB.out⟩
      · go_enter Try.func24, Try.ntmps24
        go_wp2_with fail
        go_ret
        exact ⟨by simp, HB.out⟩
  · have h1 : (i == j) = false := by simpa using h
    rw [h1]
    clear h
    go_enter Try.func24, Try.ntmps24
    go_wp2_with fail
    go_ret
    exact ⟨rfl, HB.out⟩

/-- The closure, over a page in block g. -/
theorem closure_any (g : Nat) (p q : Sp.Ref) (W : World) (h : Obl W g 44 #[.int .u64 p.id, .bool p.sh]) : Calls Try.prog 23 #[ra q, .pointer (some ⟨g, 0, none⟩)] W (BoolPost (Sp.ex p q) W) := by
  obtain ⟨w1, hw, m, hm, O1, hb, hs⟩ := start_ref W q
  have OP := h.below hb (by have := h.lt; omega)
  subst hm
  have HB := hide hb
  clear hb h
  go_enter Try.func23, Try.ntmps23
  go_wp2_with (first | (refine load_ref rfl _ rfl rfl OP ?_) | (refine load_ref rfl _ rfl rfl O1 ?_) | fail)
  refine (excludes_any p q _).mono ?_
  rintro e w2 ⟨rfl, hb2⟩
  have HB2 := hide (HB.out.trans (hb2.mono HB.out.size))
  clear hb2
  go_wp2_with fail
  go_ret
  exact ⟨rfl, HB2.out⟩
set_option maxRecDepth 100000 in
set_option maxHeartbeats 4000000 in
theorem index_any (g : Nat) (p : Sp.Ref) (l : List Sp.Ref) (A : Option Addr) (n cap : Nat) (W : World) (hp : Obl W g 44 #[.int .u64 p.id, .bool p.sh]) (h : Refs W W.heap.size A n l) (hn : n ≤ 9223372036854775807) :
    Calls Try.prog 28 #[.slice A n cap, .func (.func 23) #[] #[.pointer (some ⟨g, 0, none⟩)]] W fun e w' => (∃ i : Int, e = .returned (.int .i64 i) ∧ decide (0 ≤ i) = l.any fun q => Sp.ex p q) ∧ Below W.heap.size W w' := by
  have hl := h.len
  have HP := hide hp
  have HR := hide h
  have hn' : (n : Int) ≤ 9223372036854775807 := by omega
  clear hp h
  go_enter Try.func28, Try.ntmps28
  go_wp2_with fail
  go_loopw [8] (fun s8 wr => ∃ k : Nat, s8 = .int .i64 (k : Int) ∧ k ≤ n ∧ Hid (Below W.heap.size W wr) ∧ Hid (∀ j (hj : j < l.length), j < k → Sp.ex p l[j] = false)) (fun s8 _ => n - (intOf s8).toNat)
  case atStart => exact ⟨0, rfl, by omega, hide (Below.refl _ _), hide (fun j _ hj => by omega)⟩
  case round =>
    obtain ⟨k, rfl, hk, HB, HA⟩ := hrel
    by_cases hlt : k < n
    · have hlt' : (k : Int) < (n : Int) := by omega
      obtain ⟨b, o, hkl, rfl, hb, c0, c1⟩ := (HR.out.below HB.out).at_ hlt
      have HPr := hide (HP.out.below HB.out HP.out.lt)
      cases hr : Sp.ex p l[k] with
      | true =>
        have HX := hide hr
        have HF : Hid ((l.any fun q => Sp.ex p q) = true) := hide (List.any_eq_true.2 ⟨l[k], List.getElem_mem hkl, hr⟩)
        clear hr
        generalize l[k] = q at *
        go_wp2_with (first | (refine wpList_val (by rfl) (exec_load_ref rfl rfl c0 c1) ?_) | fail)
        go_at_call 23
        refine (closure_any g p q _ HPr.out).mono ?_
        rintro e w2 ⟨rfl, hb2⟩
        rw [HX.out]
        have HB2 := hide (HB.out.trans (hb2.mono HB.out.size))
        clear hb2
        go_wp2_with fail
        go_ret
        exact ⟨⟨(k : Int), rfl, by rw [HF.out]; simp⟩, HB2.out⟩
      | false =>
        have HX := hide hr
        have HA2 : Hid (∀ j (hj : j < l.length), j < k + 1 → Sp.ex p l[j] = false) := hide (fun j hj hjk => by
          rcases Nat.lt_or_ge j k with h' | h'
          · exact HA.out j hj h'
          · obtain rfl : j = k := by omega
            exact hr)
        clear hr HA
        generalize l[k] = q at *
        go_wp2_with (first | (refine wpList_val (by rfl) (exec_load_ref rfl rfl c0 c1) ?_) | fail)
        go_at_call 23
        refine (closure_any g p q _ HPr.out).mono ?_
        rintro e w2 ⟨rfl, hb2⟩
        rw [HX.out]
        have HB2 := hide (HB.out.trans (hb2.mono HB.out.size))
        clear hb2
        go_wp2_with fail
        go_roundw
        case rel => exact ⟨k + 1, by go_num, by omega, HB2, HA2⟩
        case measure => simp [intOf]; omega
    · have HF : Hid ((l.any fun q => Sp.ex p q) = false) := hide (by
        rw [List.any_eq_false]
        intro q hq
        obtain ⟨j, hj, rfl⟩ := List.getElem_of_mem hq
        rw [HA.out j hj (by omega)]
        decide)
      go_wp2_with fail
      go_ret
      exact ⟨⟨-1, rfl, by rw [HF.out]; rfl⟩, HB.out⟩
set_option maxRecDepth 100000 in
set_option maxHeartbeats 4000000 in
theorem contains_any (g : Nat) (p : Sp.Ref) (l : List Sp.Ref) (A : Option Addr) (n cap : Nat) (W : World) (hp : Obl W g 44 #[.int .u64 p.id, .bool p.sh]) (h : Refs W W.heap.size A n l) (hn : n ≤ 9223372036854775807) :
    Calls Try.prog 22 #[.slice A n cap, .func (.func 23) #[] #[.pointer (some ⟨g, 0, none⟩)]] W (BoolPost (l.any fun q => Sp.ex p q) W) := by
  go_enter Try.func22, Try.ntmps22
  go_wp2_with fail
  refine (index_any g p l A n cap _ hp h hn).mono ?_
  rintro e w1 ⟨⟨i, rfl, hi⟩, hb⟩
  have HI := hide hi
  clear hi
  go_wp2_with fail
  go_ret
  refine ⟨?_, hb⟩
  rw [← HI.out]
  simp
set_option maxRecDepth 100000 in
set_option maxHeartbeats 4000000 in
theorem valid_any (l : List Sp.Ref) (A : Option Addr) (n cap : Nat) (W : World) (h : Refs W W.heap.size A n l) (hn : n ≤ cap ∧ cap ≤ 9223372036854775807) :
    Calls Try.prog 11 #[.slice A n cap] W (BoolPost (decide (Sp.Ok l)) W) := by
  have hl := h.len
  have HR := hide h
  have hn' : (n : Int) ≤ 9223372036854775807 := by omega
  clear h
  by_cases h16 : 16 < n
  · have h16' : (16 : Int) < (n : Int) := by omega
    have HF : Hid (decide (Sp.Ok l) = false) := hide (decide_eq_false (fun h => by have := h.1; omega))
    go_enter Try.func11, Try.ntmps11
    go_wp2_with fail
    go_ret
    exact ⟨ret_bool HF.out.symm, Below.refl _ _⟩
  · have h16' : ¬ (16 : Int) < (n : Int) := by omega
    go_enter Try.func11, Try.ntmps11
    go_wp2_with fail
    go_loopw [10] (fun s10 wr => ∃ k : Nat, s10 = .int .i64 (k : Int) ∧ k ≤ n ∧ Hid (Below W.heap.size W wr) ∧ Hid (Sp.Clean (l.take k))) (fun s10 _ => n - (intOf s10).toNat)
    case atStart => exact ⟨0, rfl, by omega, hide (Below.refl _ _), hide (by rw [List.take_zero]; exact Sp.clean_nil)⟩
    case round =>
      obtain ⟨k, rfl, hk, HB, HC⟩ := hrel
      by_cases hlt : k < n
      · have hlt' : (k : Int) < (n : Int) := by omega
        have hkc : (k : Int) ≤ (cap : Int) := by omega
        obtain ⟨b, o, hkl, rfl, hb, c0, c1⟩ := (HR.out.below HB.out).at_ hlt
        obtain ⟨x, hx⟩ : ∃ x, l[k] = x := ⟨_, rfl⟩
        have HX := hide hx
        rw [hx] at c0 c1
        obtain ⟨w3, hw3, g, hg, w4, hw4, OZ, ON, hb4, hs4⟩ := start_slot wr x
        have HB4 := hide (HB.out.trans (hb4.mono (by have := HB.out.size; omega)))
        have n0 : w4.cell? ⟨g, 0, none⟩ = some (.int .u64 x.id) := ON.cell 0
        have HN := hide ON
        clear hx hb4 hs4 ON
        by_cases h0 : x.id = 0
        · have e0 : (x.id == 0) = true := by simpa using h0
          have HF : Hid (decide (Sp.Ok l) = false) := hide (decide_eq_false (fun h => Sp.not_zero hkl (by rw [HX.out]; exact h0) h.2))
          clear h0
          go_wp2_with (first | (refine wpList_val (by rfl) (exec_load_ref rfl rfl c0 c1) ?_) | (refine store_ref rfl _ _ rfl rfl (c := x) rfl OZ rfl ?_; rw [hw4]) | fail)
          go_ret
          exact ⟨ret_bool HF.out.symm, HB4.out⟩
        · have e0 : (x.id == 0) = false := by simpa using h0
          have H0 := hide h0
          clear h0
          go_wp2_with (first | (refine wpList_val (by rfl) (exec_load_ref rfl rfl c0 c1) ?_) | (refine store_ref rfl _ _ rfl rfl (c := x) rfl OZ rfl ?_; rw [hw4]) | fail)
          have HT := hide ((HR.out.later HB4.out).takeN (Nat.le_of_lt hlt))
          refine (contains_any g x (l.take k) _ k cap _ HN.out HT.out (by omega)).mono ?_
          rintro e w5 ⟨rfl, hb5⟩
          have HB5 := hide (HB4.out.trans (hb5.mono HB4.out.size))
          clear hb5 HT HN c0 c1
          cases hany : (l.take k).any fun q => Sp.ex x q with
          | true =>
            have HF : Hid (decide (Sp.Ok l) = false) := hide (decide_eq_false (fun h => by
              obtain ⟨q, hq, hqx⟩ := List.any_eq_true.1 hany
              obtain ⟨j, hj, rfl⟩ := List.getElem_of_mem hq
              rw [List.length_take] at hj
              rw [List.getElem_take] at hqx
              exact Sp.not_ex hkl (j := j) (by omega) (by rw [HX.out]; exact hqx) h.2))
            clear hany
            go_wp2_with fail
            go_ret
            exact ⟨ret_bool HF.out.symm, HB5.out⟩
          | false =>
            have HC2 : Hid (Sp.Clean (l.take (k + 1))) := hide (Sp.clean_step hkl HC.out (by rw [HX.out]; exact H0.out) (fun q hq => by
              have := List.any_eq_false.1 hany q hq
              rw [HX.out]
              simpa using this))
            clear hany
            go_wp2_with fail
            go_roundw
            case rel => exact ⟨k + 1, by go_num, by omega, HB5, HC2⟩
            case measure => simp [intOf]; omega
      · obtain rfl : k = n := by omega
        have HF : Hid (decide (Sp.Ok l) = true) := hide (decide_eq_true ⟨by omega, Sp.clean_all hl HC.out⟩)
        go_wp2_with fail
        go_ret
        exact ⟨ret_bool HF.out.symm, HB.out⟩
end Go.Proofs.Ytoppkgmgjahloaa
