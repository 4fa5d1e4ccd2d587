/- Made objects of the small kinds: contracts (written by tools/mkobs.py). -/
import Derived.Test.YtddbohnappogkaaObOwn
import Derived.Test.YtddbohnappogkaaPgMade
namespace Go.Proofs.Ytddbohnappogkaa
open Go.RowKit

/-- An object comes back. -/
def ObPost (o : Ob) (w : World) (e : Ending) (w' : World) : Prop := e = .returned (.agg (oc o)) ∧ Below w.heap.size w w'
set_option maxRecDepth 100000 in
set_option maxHeartbeats 2000000 in
theorem fileNew (id : Int) (W : World) : Calls Try.prog 36 #[.int .u64 id] W (ObPost { Ob.zero with id := id, kind := 3 } W) := by
  obtain ⟨w1, hw, O, hb, hs⟩ := start_z W
  have HB := hide hb
  clear hb
  go_enter Try.func36, Try.ntmps36
  go_wp2_with (first | (refine store_ob rfl _ _ rfl rfl (c := { Ob.zero with id := id, kind := 3 }) rfl O rfl ?_) | fail)
  refine bodyPost_ret (ret_ob rfl _ rfl (O.row_same _)) rfl ?_
  exact ⟨rfl, below_row HB.out (Nat.le_refl _) _⟩
set_option maxRecDepth 100000 in
set_option maxHeartbeats 2000000 in
theorem opened (id f : Int) (W : World) : Calls Try.prog 21 #[.int .u64 id, .int .u64 f] W (ObPost { Ob.zero with id := id, kind := 4, refs := 1, target := f } W) := by
  obtain ⟨w1, hw, O, hb, hs⟩ := start_z W
  have HB := hide hb
  clear hb
  go_enter Try.func21, Try.ntmps21
  go_wp2_with (first | (refine store_ob rfl _ _ rfl rfl (c := { Ob.zero with id := id, kind := 4, refs := 1, target := f }) rfl O rfl ?_) | fail)
  refine bodyPost_ret (ret_ob rfl _ rfl (O.row_same _)) rfl ?_
  exact ⟨rfl, below_row HB.out (Nat.le_refl _) _⟩
set_option maxRecDepth 100000 in
set_option maxHeartbeats 2000000 in
theorem pipeNew (id : Int) (W : World) : Calls Try.prog 38 #[.int .u64 id] W (ObPost { Ob.zero with id := id, kind := 5, readers := 1, writers := 1 } W) := by
  obtain ⟨w1, hw, O, hb, hs⟩ := start_z W
  have HB := hide hb
  clear hb
  go_enter Try.func38, Try.ntmps38
  go_wp2_with (first | (refine store_ob rfl _ _ rfl rfl (c := { Ob.zero with id := id, kind := 5, readers := 1, writers := 1 }) rfl O rfl ?_) | fail)
  refine bodyPost_ret (ret_ob rfl _ rfl (O.row_same _)) rfl ?_
  exact ⟨rfl, below_row HB.out (Nat.le_refl _) _⟩
set_option maxRecDepth 100000 in
set_option maxHeartbeats 2000000 in
theorem portNew (id : Int) (W : World) : Calls Try.prog 39 #[.int .u64 id] W (ObPost { Ob.zero with id := id, kind := 6, refs := 1 } W) := by
  obtain ⟨w1, hw, O, hb, hs⟩ := start_z W
  have HB := hide hb
  clear hb
  go_enter Try.func39, Try.ntmps39
  go_wp2_with (first | (refine store_ob rfl _ _ rfl rfl (c := { Ob.zero with id := id, kind := 6, refs := 1 }) rfl O rfl ?_) | fail)
  refine bodyPost_ret (ret_ob rfl _ rfl (O.row_same _)) rfl ?_
  exact ⟨rfl, below_row HB.out (Nat.le_refl _) _⟩
set_option maxRecDepth 100000 in
set_option maxHeartbeats 2000000 in
theorem chanNew (id : Int) (W : World) : Calls Try.prog 41 #[.int .u64 id] W (ObPost { Ob.zero with id := id, kind := 7, e0 := 1, e1 := 1 } W) := by
  obtain ⟨w1, hw, O, hb, hs⟩ := start_z W
  have HB := hide hb
  clear hb
  go_enter Try.func41, Try.ntmps41
  go_wp2_with (first | (refine store_ob rfl _ _ rfl rfl (c := { Ob.zero with id := id, kind := 7, e0 := 1, e1 := 1 }) rfl O rfl ?_) | fail)
  refine bodyPost_ret (ret_ob rfl _ rfl (O.row_same _)) rfl ?_
  exact ⟨rfl, below_row HB.out (Nat.le_refl _) _⟩
set_option maxRecDepth 100000 in
set_option maxHeartbeats 2000000 in
theorem devNew (id : Int) (W : World) : Calls Try.prog 7 #[.int .u64 id] W (ObPost { Ob.zero with id := id, kind := 9 } W) := by
  obtain ⟨w1, hw, O, hb, hs⟩ := start_z W
  have HB := hide hb
  clear hb
  go_enter Try.func7, Try.ntmps7
  go_wp2_with (first | (refine store_ob rfl _ _ rfl rfl (c := { Ob.zero with id := id, kind := 9 }) rfl O rfl ?_) | fail)
  refine bodyPost_ret (ret_ob rfl _ rfl (O.row_same _)) rfl ?_
  exact ⟨rfl, below_row HB.out (Nat.le_refl _) _⟩
set_option maxRecDepth 100000 in
set_option maxHeartbeats 2000000 in
theorem namesNew (W : World) : Calls Try.prog 42 #[] W (ObPost { Ob.zero with id := 1, kind := 10 } W) := by
  obtain ⟨w1, hw, O, hb, hs⟩ := start_z W
  have HB := hide hb
  clear hb
  go_enter Try.func42, Try.ntmps42
  go_wp2_with (first | (refine store_ob rfl _ _ rfl rfl (c := { Ob.zero with id := 1, kind := 10 }) rfl O rfl ?_) | fail)
  refine bodyPost_ret (ret_ob rfl _ rfl (O.row_same _)) rfl ?_
  exact ⟨rfl, below_row HB.out (Nat.le_refl _) _⟩

theorem byteSize1 : (Try.prog.info? 5).map (·.size) = some 1 := by kernel_rfl
/-- Thrown bytes. -/
def BytesThrown (N C b : Nat) (w : World) (e : Ending) (w' : World) : Prop := ∃ A n c D, e = .returned (.slice A n c) ∧ n ≤ N ∧ w'.ownsRow w.heap.size 5 1 (.slice A n c) n (bv D) ∧ Dice w' C b ∧ Bel w.heap.size b w w'
set_option maxRecDepth 100000 in
set_option maxHeartbeats 8000000 in
theorem bytes_dice (C b N : Nat) (W : World) (h : Dice W C b) (hN : N ≤ 1000) : Calls Try.prog 37 #[.pointer (some ⟨b, 0, none⟩), .int .i64 (N : Int)] W (BytesThrown N C b W) := by
  have HD := hide h
  have hbl := h.lt
  have hCb := h.le
  clear h
  go_enter Try.func37, Try.ntmps37
  go_wp2_with fail
  refine (next_dice C b ((N : Int) + 1) _ HD.out (by omega) (by omega)).mono ?_
  rintro e w1 ⟨k0, rfl, hk, hD, hB⟩
  obtain ⟨k0, rfl⟩ := Int.eq_ofNat_of_zero_le hk.1
  have hkN : k0 ≤ N := by omega
  have HD1 := hide hD
  have HB1 := hide hB
  clear hD hB HD hk
  go_wp2_with fail
  go_loopw [5, 6] (fun s5 s6 wr => ∃ (k n c : Nat) (A : Option Addr) (D : List UInt8), s6 = .int .i64 (k : Int) ∧ s5 = .slice A n c ∧ n + k ≤ N ∧ wr.ownsRow W.heap.size 5 1 (.slice A n c) n (bv D) ∧ Hid (Dice wr C b) ∧ Hid (Bel W.heap.size b W wr)) (fun _ s6 _ => (intOf s6).toNat)
  case atStart => exact ⟨k0, 0, 0, none, [], rfl, rfl, by omega, own_nil, HD1, HB1⟩
  case round =>
    clear HD1 HB1
    obtain ⟨k, n, c, A, D, rfl, rfl, hk, hown, HD, HB⟩ := hrel
    have hWs := HB.out.size
    by_cases h0 : 0 < k
    · have h0' : (0 : Int) < (k : Int) := by omega
      go_wp2_with fail
      refine (next_dice C b 256 _ HD.out (by omega) (by omega)).mono ?_
      rintro e w2 ⟨v, rfl, hv, hD, hB⟩
      have hown2 := own_keep hown (keep_bel hB (by omega))
      have HB2 := hide (HB.out.trans (hB.mono hWs))
      have HD2 := hide hD
      have hv0 := hv.1
      have hv1 : v < 256 := by omega
      clear hD hB HD HB hown hWs
      have hvm : v % 256 = v := Int.emod_eq_of_lt hv0 hv1
      have hWs := HB2.out.size
      have HDa := hide (HD2.out.alloc (.cells #[.int .u8 v] 5))
      have HBa := hide (HB2.out.trans (Bel.of (b := b) ((Below.refl W.heap.size w2).alloc hWs (.cells #[.int .u8 v] 5))))
      have hbl2 := HD2.out.lt
      have hda : b < (w2.alloc (.cells #[.int .u8 v] 5)).heap.size := by simp; omega
      have hCa : C ≤ b := HD2.out.le
      have hnk : n + 1 ≤ 1000 := by omega
      clear HD2 HB2
      go_wp2_with (first | (at_builtin; refine wpList_append_rd rfl _ _ _ rfl byteTy (xs := bv D) (base := W.heap.size) rfl (hown2.alloc _) rfl (Row.new _ _ _) (by simp [Value.oneCell']) (by unfold maxLen; omega) (by omega) (by simp; omega) ?_; intro A3 c3 w3 hown3 hg3 _; have HD3 := hide (HDa.out.grown hg3 (fun e => by have := ((hown2.alloc (.cells #[.int .u8 v] 5)).lt b (by rw [ownBlock_slice]; exact e.symm)).1; omega) (fun j hj => by have := ((hown2.alloc (.cells #[.int .u8 v] 5)).lt j (by rw [ownBlock_slice]; exact hj)).1; omega)); have HB3 := hide (HBa.out.trans (Bel.of (b := b) (below_own (Below.refl W.heap.size _) (hown2.alloc _) hg3 (by simp; omega))))) | fail)
      go_roundw
      case rel => exact ⟨k - 1, n + 1, c3, A3, D ++ [UInt8.ofNat v.toNat], by go_num, rfl, by omega, by rw [bv_snoc hv0 hv1] at hown3; exact hown3, HD3, HB3⟩
      case measure => simp [intOf]; omega
    · obtain rfl : k = 0 := by omega
      go_wp2_with fail
      go_ret
      exact ⟨A, n, c, D, rfl, by omega, hown, HD.out, HB.out⟩
end Go.Proofs.Ytddbohnappogkaa
