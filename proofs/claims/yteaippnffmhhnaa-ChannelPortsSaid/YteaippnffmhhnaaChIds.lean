/- Layer 12: identifiers in a list: slices.Index, slices.Contains, the reference's Has, the package's isBacklog. -/
import Derived.Test.YteaippnffmhhnaaChMath
import Derived.Test.YteaippnffmhhnaaIdTy
namespace Go.Proofs.Yteaippnffmhhnaa
open Go.RowKit

theorem mem_of_at {I : List Int} {k : Nat} (h : k < I.length) {x : Int} (he : I[k] = x) : x ∈ I := he ▸ List.getElem_mem h
theorem not_mem_of {I : List Int} {n : Nat} {x : Int} (hl : I.length = n) (h : ∀ j (hj : j < I.length), j < n → I[j] ≠ x) : ¬ x ∈ I := fun hx => by
  obtain ⟨j, hj, he⟩ := List.getElem_of_mem hx
  exact h j hj (by omega) he
theorem not_step {I : List Int} {k : Nat} {x : Int} (h : ∀ j (hj : j < I.length), j < k → I[j] ≠ x) (hk : ∀ hj : k < I.length, I[k] ≠ x) : ∀ j (hj : j < I.length), j < k + 1 → I[j] ≠ x := fun j hj hjk => by
  rcases Nat.lt_or_ge j k with h' | h'
  · exact h j hj h'
  · obtain rfl : j = k := by omega
    exact hk hj
/-- Identifiers that are all other than 0, each there once. -/
def Clean (I : List Int) : Prop := (∀ x ∈ I, x ≠ 0) ∧ I.Nodup
instance (I : List Int) : Decidable (Clean I) := by unfold Clean; infer_instance
theorem Clean.nil : Clean [] := ⟨by simp, List.nodup_nil⟩
theorem take_snoc_at {I : List Int} {k : Nat} (hk : k < I.length) : I.take (k + 1) = I.take k ++ [I[k]] := by
  rw [List.take_succ_eq_append_getElem hk]
theorem Clean.snoc {I : List Int} {x : Int} (h : Clean I) (hx : x ≠ 0) (hn : ¬ x ∈ I) : Clean (I ++ [x]) := by
  refine ⟨fun y hy => ?_, ?_⟩
  · rcases List.mem_append.1 hy with hy | hy
    · exact h.1 y hy
    · rw [List.mem_singleton] at hy; exact hy ▸ hx
  · rw [List.nodup_append]
    exact ⟨h.2, by simp, fun a ha b hb => by rw [List.mem_singleton] at hb; rintro rfl; exact hn (hb ▸ ha)⟩
theorem Clean.step {I : List Int} {k : Nat} (hk : k < I.length) : Clean (I.take (k + 1)) ↔ Clean (I.take k) ∧ I[k] ≠ 0 ∧ ¬ I[k] ∈ I.take k := by
  rw [take_snoc_at hk]
  constructor
  · intro h
    refine ⟨⟨fun y hy => h.1 y (List.mem_append_left _ hy), (List.nodup_append.1 h.2).1⟩, h.1 _ (List.mem_append_right _ List.mem_cons_self), fun hm => ?_⟩
    exact (List.nodup_append.1 h.2).2.2 _ hm _ List.mem_cons_self rfl
  · rintro ⟨h, h1, h2⟩
    exact h.snoc h1 h2
theorem Clean.take {I : List Int} (h : Clean I) (k : Nat) : Clean (I.take k) := ⟨fun y hy => h.1 y (List.mem_of_mem_take hy), h.2.sublist (List.take_sublist _ _)⟩
/-- At most eight of them. -/
def Few (n : Nat) (I : List Int) : Prop := n ≤ 8 ∧ Clean I
instance (n : Nat) (I : List Int) : Decidable (Few n I) := by unfold Few; infer_instance
theorem port_iff (o : Ob) (I : List Int) : o.Port I ↔ o.kind = 6 ∧ o.id ≠ 0 ∧ (0 ≤ o.refs ∧ o.refs ≤ 1073741824) ∧ Few o.backlog.n I ∧ o.PoOthers := by
  simp only [Ob.Port, Few, Clean]
  simp only [and_assoc]

set_option maxRecDepth 100000 in
set_option maxHeartbeats 4000000 in
theorem index64_any (A : Option Addr) (n c : Nat) (I : List Int) (x : Int) (W : World) (h : Nums .u64 W W.heap.size A n I) (hn : n ≤ 9223372036854775807) :
    Calls Try.prog 68 #[.slice A n c, .int .u64 x] W fun e w' => (∃ i : Int, e = .returned (.int .i64 i) ∧ (0 ≤ i ↔ x ∈ I)) ∧ w' = W := by
  have hl := h.len
  have HR := hide h
  have hn' : (n : Int) ≤ 9223372036854775807 := by omega
  clear h
  go_enter Try.func68, Try.ntmps68
  go_wp2_with fail
  go_loop [8] (fun s8 => ∃ k : Nat, s8 = .int .i64 (k : Int) ∧ k ≤ n ∧ Hid (∀ j (hj : j < I.length), j < k → I[j] ≠ x)) (fun s8 => n - (intOf s8).toNat)
  case atStart => exact ⟨0, rfl, by omega, hide (fun j _ hj => by omega)⟩
  case round =>
    obtain ⟨k, rfl, hk, HA⟩ := hrel
    by_cases hlt : k < n
    · have hlt' : (k : Int) < (n : Int) := by omega
      obtain ⟨b, o, hkl, rfl, hb, hc⟩ := HR.out.at_ hlt
      by_cases hx : x = I[k]
      · have HF : Hid (x ∈ I) := hide (mem_of_at hkl hx.symm)
        have hcx : W.cell? ⟨b, o + k, none⟩ = some (.int .u64 x) := by rw [hx]; exact hc
        clear hc hx
        go_wp2_with fail
        go_ret
        exact ⟨⟨(k : Int), rfl, ⟨fun _ => HF.out, fun _ => by omega⟩⟩, rfl⟩
      · have HA2 := hide (not_step HA.out (fun hj e => hx e.symm))
        have hb' : (x == I[k]) = false := by simpa using hx
        clear HA
        generalize I[k] = y at *
        go_wp2_with fail
        go_round
        case rel => exact ⟨k + 1, by go_num, by omega, HA2⟩
        case measure => simp [intOf]; omega
    · have HF : Hid (¬ x ∈ I) := hide (not_mem_of hl fun j hj hjn => HA.out j hj (by omega))
      go_wp2_with fail
      go_ret
      exact ⟨⟨-1, rfl, ⟨fun h => by omega, fun h => absurd h HF.out⟩⟩, rfl⟩
set_option maxRecDepth 100000 in
set_option maxHeartbeats 4000000 in
theorem contains64_any (A : Option Addr) (n c : Nat) (I : List Int) (x : Int) (W : World) (h : Nums .u64 W W.heap.size A n I) (hn : n ≤ 9223372036854775807) :
    Calls Try.prog 44 #[.slice A n c, .int .u64 x] W fun e w' => e = .returned (.bool (decide (x ∈ I))) ∧ w' = W := by
  go_enter Try.func44, Try.ntmps44
  go_wp2_with fail
  refine (index64_any A n c I x _ h hn).mono ?_
  rintro e w1 ⟨⟨i, rfl, hi⟩, rfl⟩
  have HI := hide hi
  clear hi
  go_wp2_with fail
  go_ret
  exact ⟨ret_bool (decide_eq_decide.2 HI.out), rfl⟩
set_option maxRecDepth 100000 in
set_option maxHeartbeats 4000000 in
theorem has64_any (A : Option Addr) (n c : Nat) (I : List Int) (x : Int) (W : World) (h : Nums .u64 W W.heap.size A n I) (hn : n ≤ 9223372036854775807) :
    Calls Try.prog 33 #[.slice A n c, .int .u64 x] W fun e w' => e = .returned (.bool (decide (x ∈ I))) ∧ w' = W := by
  have hl := h.len
  have HR := hide h
  have hn' : (n : Int) ≤ 9223372036854775807 := by omega
  clear h
  go_enter Try.func33, Try.ntmps33
  go_wp2_with fail
  go_loop [9] (fun s9 => ∃ k : Nat, s9 = .int .i64 (k : Int) ∧ k ≤ n ∧ Hid (∀ j (hj : j < I.length), j < k → I[j] ≠ x)) (fun s9 => n - (intOf s9).toNat)
  case atStart => exact ⟨0, rfl, by omega, hide (fun j _ hj => by omega)⟩
  case round =>
    obtain ⟨k, rfl, hk, HA⟩ := hrel
    by_cases hlt : k < n
    · have hlt' : (k : Int) < (n : Int) := by omega
      obtain ⟨b, o, hkl, rfl, hb, hc⟩ := HR.out.at_ hlt
      by_cases hx : I[k] = x
      · have HF : Hid (decide (x ∈ I) = true) := hide (decide_eq_true (mem_of_at hkl hx))
        have hcx : W.cell? ⟨b, o + k, none⟩ = some (.int .u64 x) := by rw [← hx]; exact hc
        clear hc hx
        go_wp2_with fail
        go_ret
        exact ⟨ret_bool HF.out.symm, rfl⟩
      · have HA2 := hide (not_step HA.out (fun hj => hx))
        have hb' : (I[k] == x) = false := by simpa using hx
        clear HA
        generalize I[k] = y at *
        go_wp2_with fail
        go_round
        case rel => exact ⟨k + 1, by go_num, by omega, HA2⟩
        case measure => simp [intOf]; omega
    · have HF : Hid (decide (x ∈ I) = false) := hide (decide_eq_false (not_mem_of hl fun j hj hjn => HA.out j hj (by omega)))
      go_wp2_with fail
      go_ret
      exact ⟨ret_bool HF.out.symm, rfl⟩
set_option maxRecDepth 100000 in
set_option maxHeartbeats 4000000 in
theorem chBacklog_any (A : Option Addr) (n c : Nat) (I : List Int) (W : World) (h : Nums .u64 W W.heap.size A n I) (hc : n ≤ c) :
    Calls Try.prog 50 #[.slice A n c] W (BoolPost (decide (Few n I)) W) := by
  have hl := h.len
  have HR := hide h
  clear h
  by_cases h8 : 8 < n
  · have h8' : (8 : Int) < (n : Int) := by omega
    go_enter Try.func50, Try.ntmps50
    go_wp2_with fail
    go_ret
    exact ⟨ret_bool (decide_eq_false (fun hh : Few n I => absurd hh.1 (by omega))).symm, Below.refl _ _⟩
  · have h8' : ¬ (8 : Int) < (n : Int) := by omega
    go_enter Try.func50, Try.ntmps50
    go_wp2_with fail
    go_loop [10] (fun s10 => ∃ k : Nat, s10 = .int .i64 (k : Int) ∧ k ≤ n ∧ Hid (Clean (I.take k))) (fun s10 => n - (intOf s10).toNat)
    case atStart => exact ⟨0, rfl, by omega, hide (by rw [List.take_zero]; exact Clean.nil)⟩
    case round =>
      obtain ⟨k, rfl, hk, HC⟩ := hrel
      by_cases hlt : k < n
      · have hlt' : (k : Int) < (n : Int) := by omega
        have hkc : (k : Int) ≤ (c : Int) := by omega
        obtain ⟨b, o, hkl, rfl, hb, hc⟩ := HR.out.at_ hlt
        have HS := hide (Clean.step hkl)
        have HT := hide (HR.out.takeN (m := k) (by omega))
        by_cases h0 : I[k] = 0
        · have HF : Hid (decide (Few n I) = false) := hide (decide_eq_false (fun hh : Few n I => hh.2.1 _ (List.getElem_mem hkl) h0))
          have hcx : W.cell? ⟨b, o + k, none⟩ = some (.int .u64 0) := by rw [← h0]; exact hc
          clear hc h0 HS
          go_wp2_with fail
          go_ret
          exact ⟨ret_bool HF.out.symm, Below.refl _ _⟩
        · have hz : (I[k] == 0) = false := by simpa using h0
          have HZ := hide h0
          obtain ⟨y, hy⟩ : ∃ y, I[k] = y := ⟨_, rfl⟩
          have HY := hide hy
          by_cases hm : y ∈ I.take k
          · have HM := hide hm
            have HF : Hid (decide (Few n I) = false) := hide (decide_eq_false (fun hh : Few n I => (HS.out.1 (hh.2.take _)).2.2 (hy ▸ hm)))
            rw [hy] at hc hz
            clear h0 HS hm hy
            go_wp2_with fail
            refine (contains64_any _ k c (I.take k) y _ HT.out (by omega)).mono ?_
            rintro e w1 ⟨rfl, rfl⟩
            rw [decide_eq_true HM.out]
            go_wp2_with fail
            go_ret
            exact ⟨ret_bool HF.out.symm, Below.refl _ _⟩
          · have HM := hide hm
            have HC2 := hide (HS.out.2 ⟨HC.out, h0, hy ▸ hm⟩)
            rw [hy] at hc hz
            clear h0 HS hm hy HC
            go_wp2_with fail
            refine (contains64_any _ k c (I.take k) y _ HT.out (by omega)).mono ?_
            rintro e w1 ⟨rfl, rfl⟩
            rw [decide_eq_false HM.out]
            go_wp2_with fail
            go_round
            case rel => exact ⟨k + 1, by go_num, by omega, HC2⟩
            case measure => simp [intOf]; omega
      · have HF : Hid (decide (Few n I) = true) := hide (decide_eq_true (show Few n I from ⟨by omega, by have := HC.out; rw [List.take_of_length_le (by omega)] at this; exact this⟩))
        go_wp2_with fail
        go_ret
        exact ⟨ret_bool HF.out.symm, Below.refl _ _⟩
end Go.Proofs.Yteaippnffmhhnaa
