/- Layer 7: what the laws share: the sanity check, made address spaces: contracts. -/
import Derived.Test.YtoppkgmgjahloaaSpFind
namespace Go.Proofs.Ytoppkgmgjahloaa
open Go.RowKit

theorem FindPost.got {r : Int × Int × Int} {w w' : World} {e : Ending} {a b c : Int} (h : FindPost r w e w') (hr : r = (a, b, c)) : e = .returned (.tuple #[.int .u64 a, .int .i64 b, .int .i64 c]) ∧ Below w.heap.size w w' := by subst hr; exact h
/-- Two pages, written out. -/
theorem start_pair (w : World) (p q : Sp.Ref) : ∃ w1, w.alloc (.cells #[.int .u64 p.id, .bool p.sh, .int .u64 q.id, .bool q.sh] 44) = w1 ∧ Refs w1 w1.heap.size (some ⟨w.heap.size, 0, none⟩) 2 [p, q] ∧ Below w.heap.size w w1 := by
  refine ⟨_, rfl, ⟨rfl, ⟨rfl, by simp, ?_⟩⟩, (Below.refl _ _).alloc (Nat.le_refl _) _⟩
  have := (Row.list w [.int .u64 p.id, .bool p.sh, .int .u64 q.id, .bool q.sh] 44).rd
  rw [World.size_alloc]
  exact this
set_option maxRecDepth 100000 in
set_option maxHeartbeats 4000000 in
theorem sane_any (W : World) : Calls Try.prog 7 #[] W (BoolPost true W) := by
  obtain ⟨w1, hw1, hR, hb1⟩ := start_pair W ⟨5, false⟩ ⟨6, false⟩
  have HR := hide hR
  have HB1 := hide hb1
  clear hR hb1
  go_enter Try.func7, Try.ntmps7
  go_wp2_with fail
  refine (find_any [⟨5, false⟩, ⟨6, false⟩] _ 2 2 17 _ HR.out (by omega)).mono ?_
  intro e w2 hp
  obtain ⟨rfl, hb2⟩ := hp.got (show Sp.find [⟨5, false⟩, ⟨6, false⟩] 17 = (6, 1, 0) by decide)
  have HR2 := hide (HR.out.later hb2)
  have HB2 := hide (HB1.out.trans (hb2.mono HB1.out.size))
  clear hp hb2
  go_wp2_with fail
  refine (find_any [⟨5, false⟩, ⟨6, false⟩] _ 2 2 32 _ HR2.out (by omega)).mono ?_
  intro e w3 hp
  obtain ⟨rfl, hb3⟩ := hp.got (show Sp.find [⟨5, false⟩, ⟨6, false⟩] 32 = (0, 0, 11) by decide)
  have HR3 := hide (HR2.out.later hb3)
  have HB3 := hide (HB2.out.trans (hb3.mono HB2.out.size))
  clear hp hb3
  go_wp2_with fail
  refine (valid_any [⟨5, false⟩, ⟨6, false⟩] _ 2 2 _ HR3.out (by omega)).mono ?_
  rintro e w4 ⟨rfl, hb4⟩
  rw [show decide (Sp.Ok [⟨5, false⟩, ⟨6, false⟩]) = true by decide]
  have HB4 := hide (HB3.out.trans (hb4.mono HB3.out.size))
  clear hb4
  go_wp2_with fail
  go_ret
  exact ⟨rfl, HB4.out⟩

/-- A valid address space. -/
def SpaceOut (w : World) (e : Ending) (w' : World) : Prop := ∃ A n c l, e = .returned (.slice A n c) ∧ Refs w' w'.heap.size A n l ∧ (n ≤ c ∧ c ≤ 9223372036854775807) ∧ Sp.Ok l ∧ Below w.heap.size w w'
set_option maxRecDepth 100000 in
set_option maxHeartbeats 8000000 in
theorem made_any (A : Option Addr) (n cap : Nat) (l : List UInt8) (W : World) (h : Bytes W W.heap.size A n l) (hn : n ≤ cap ∧ cap ≤ 9223372036854775807) : Calls Try.prog 8 #[.slice A n cap] W (SpaceOut W) := by
  have hl := h.len
  have HS := hide h
  have hn' : (n : Int) ≤ 9223372036854775807 := by omega
  clear h
  go_enter Try.func8, Try.ntmps8
  go_wp2_with fail
  go_loopw [3, 9] (fun s3 s9 wr => ∃ (k m c : Nat) (O : Option Addr) (L : List Sp.Ref), s9 = .int .i64 (k : Int) ∧ s3 = .slice O m c ∧ k ≤ n ∧ m ≤ 16 ∧ Hid (Refs wr wr.heap.size O m L) ∧ Hid (m ≤ c ∧ c ≤ 9223372036854775807) ∧ Hid (Sp.Ok L) ∧ Hid (Below W.heap.size W wr)) (fun _ s9 _ => n - (intOf s9).toNat)
  case atStart => exact ⟨0, 0, 0, none, [], rfl, rfl, by omega, by omega, hide Refs.nil, hide (by omega), hide (by decide), hide (Below.refl _ _)⟩
  case round =>
    obtain ⟨k, m, c, O, L, rfl, rfl, hk, hm, HR, HC, HK, HB⟩ := hrel
    by_cases hlt : k < n
    · have hlt' : (k : Int) < (n : Int) := by omega
      obtain ⟨b, o, hkl, rfl, hb, c0⟩ := (HS.out.below HB.out).at_ hlt
      obtain ⟨x, hx⟩ : ∃ x : Nat, (l[k]).toNat = x := ⟨_, rfl⟩
      have hx256 : x < 256 := by have := (l[k]).toNat_lt; omega
      rw [hx] at c0
      clear hx
      obtain ⟨v, hv⟩ : ∃ v, x % 12 = v := ⟨_, rfl⟩
      have d3 : (x : Int) % 12 = (v : Int) := by omega
      have d4 : (x : Int).tmod 12 = (v : Int) := by rw [Int.tmod_eq_emod_of_nonneg (by omega)]; exact d3
      have hv12 : v < 12 := by omega
      obtain ⟨s, hs⟩ : ∃ s : Bool, decide ((128 : Int) ≤ (x : Int)) = s := ⟨_, rfl⟩
      have hWr := HB.out.size
      clear hv
      by_cases hk16 : k < 16
      · have hk16' : (k : Int) < 16 := by omega
        go_wp2_with (first | (at_builtin; refine wpList_append_rd rfl _ _ _ rfl refTy (A := none) (n := 0) (c := 0) (xs := []) (base := wr.heap.size) rfl own_none (S := O) (m := m) (d := c) (news := rv L) rfl HR.out.2 (rv_one _) (by unfold maxLen; omega) (by omega) (Nat.le_refl _) ?_; intro A3 c3 w3 hown3 hg3 _; rw [Nat.zero_add, List.nil_append] at hown3; have HO3 := hide hown3; have HB3 := hide (below_none hg3); have hs3 : wr.heap.size ≤ w3.heap.size := hg3.size; clear hown3 hg3) | (at_builtin; refine wpList_append_rd rfl _ _ _ rfl refTy (base := wr.heap.size) rfl (HO3.out.alloc (.cells #[.int .u64 (1 + (v : Int)), .bool s] 44)) rfl (Row.two w3 ⟨1 + (v : Int), s⟩ 44) (by simp [Value.oneCell']) (by unfold maxLen; omega) (by omega) (by simp; omega) ?_; intro A4 c4 w4 hown4 hg4 _; have HW4 := hide (below_own (HB3.out.alloc hs3 _) (HO3.out.alloc _) hg4 (by simp; omega)); rw [show rv L ++ [.int .u64 (1 + (v : Int)), .bool s] = rv (L ++ [⟨1 + (v : Int), s⟩]) from rv_snoc L ⟨_, _⟩] at hown4; have HO4 := hide hown4; clear hown4 hg4 HO3 HB3) | fail)
        have HB4 := hide (HB.out.trans (HW4.out.mono hWr))
        refine (refValid_any (L ++ [⟨1 + (v : Int), s⟩]) A4 (m + 1) c4 _ (Refs.of_own HO4.out) ⟨own_cap HO4.out, own_cap63 HO4.out⟩).mono ?_
        rintro e w5 ⟨rfl, hb5⟩
        have HB5 := hide (HB4.out.trans (hb5.mono HB4.out.size))
        by_cases hok : Sp.Ok (L ++ [⟨1 + (v : Int), s⟩])
        · rw [decide_eq_true hok]
          have hm2 : m + 1 ≤ 16 := by have := hok.1; have := own_refs HO4.out; omega
          have HK2 := hide hok
          have HR5 := hide ((Refs.of_own HO4.out).later hb5)
          have HC5 := hide (show m + 1 ≤ c4 ∧ c4 ≤ 9223372036854775807 from ⟨own_cap HO4.out, own_cap63 HO4.out⟩)
          clear hok hb5
          go_wp2_with fail
          go_roundw
          case rel => exact ⟨k + 1, m + 1, c4, A4, _, by go_num, rfl, by omega, hm2, HR5, HC5, HK2, HB5⟩
          case measure => simp [intOf]; omega
        · rw [decide_eq_false hok]
          have HR5 := hide ((HR.out.later HW4.out).later hb5)
          clear hok hb5
          go_wp2_with fail
          go_roundw
          case rel => exact ⟨k + 1, m, c, O, L, by go_num, rfl, by omega, hm, HR5, HC, HK, HB5⟩
          case measure => simp [intOf]; omega
      · have hk16' : ¬ (k : Int) < 16 := by omega
        go_wp2_with (first | (at_builtin; refine wpList_append_rd rfl _ _ _ rfl refTy (A := none) (n := 0) (c := 0) (xs := []) (base := wr.heap.size) rfl own_none (S := O) (m := m) (d := c) (news := rv L) rfl HR.out.2 (rv_one _) (by unfold maxLen; omega) (by omega) (Nat.le_refl _) ?_; intro A3 c3 w3 hown3 hg3 _; rw [Nat.zero_add, List.nil_append] at hown3; have HO3 := hide hown3; have HB3 := hide (below_none hg3); have hs3 : wr.heap.size ≤ w3.heap.size := hg3.size; clear hown3 hg3) | (at_builtin; refine wpList_append_rd rfl _ _ _ rfl refTy (base := wr.heap.size) rfl (HO3.out.alloc (.cells #[.int .u64 (1 + (v : Int)), .bool s] 44)) rfl (Row.two w3 ⟨1 + (v : Int), s⟩ 44) (by simp [Value.oneCell']) (by unfold maxLen; omega) (by omega) (by simp; omega) ?_; intro A4 c4 w4 hown4 hg4 _; have HW4 := hide (below_own (HB3.out.alloc hs3 _) (HO3.out.alloc _) hg4 (by simp; omega)); rw [show rv L ++ [.int .u64 (1 + (v : Int)), .bool s] = rv (L ++ [⟨1 + (v : Int), s⟩]) from rv_snoc L ⟨_, _⟩] at hown4; have HO4 := hide hown4; clear hown4 hg4 HO3 HB3) | fail)
        have HB4 := hide (HB.out.trans (HW4.out.mono hWr))
        have HR4 := hide (HR.out.later HW4.out)
        go_roundw
        case rel => exact ⟨k + 1, m, c, O, L, by go_num, rfl, by omega, hm, HR4, HC, HK, HB4⟩
        case measure => simp [intOf]; omega
    · obtain rfl : k = n := by omega
      go_wp2_with fail
      go_ret
      exact ⟨O, m, c, L, rfl, HR.out, HC.out, HK.out, HB.out⟩
end Go.Proofs.Ytoppkgmgjahloaa
