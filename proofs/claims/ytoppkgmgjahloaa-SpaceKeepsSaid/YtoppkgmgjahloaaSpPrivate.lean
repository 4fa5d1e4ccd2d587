/- Layer 7: Private, of package space and of the reference: contracts (written by tools/mkspace.py). -/
import Derived.Test.YtoppkgmgjahloaaSpMade
namespace Go.Proofs.Ytoppkgmgjahloaa
open Go.RowKit

/-- Some identifiers in a row of the call's own. -/
def IdsPost (L : List Int) (w : World) (e : Ending) (w' : World) : Prop := ∃ A c, e = .returned (.slice A L.length c) ∧ Nums .u64 w' w'.heap.size A L.length L ∧ (L.length ≤ c ∧ c ≤ 9223372036854775807) ∧ Below w.heap.size w w'
theorem IdsPost.of {L M : List Int} {w w' : World} {e : Ending} {A : Option Addr} {m c : Nat} (hL : L = M) (he : e = .returned (.slice A m c)) (ho : w'.ownsRow w.heap.size 28 1 (.slice A m c) m (nv .u64 M)) (hb : Below w.heap.size w w') : IdsPost L w e w' := by
  have hm := own_nums ho
  subst hL hm
  exact ⟨A, c, he, Nums.of_own ho, ⟨own_cap ho, own_cap63 ho⟩, hb⟩
theorem Sp.private_ok {l : List Sp.Ref} (h : Sp.Ok l) : Sp.private_ l = Sp.priv l := if_pos h
theorem Sp.private_bad {l : List Sp.Ref} (h : ¬ Sp.Ok l) : Sp.private_ l = [] := if_neg h
theorem Sp.priv_take {l : List Sp.Ref} {k : Nat} (hk : k < l.length) : Sp.priv (l.take (k + 1)) = if l[k].sh then Sp.priv (l.take k) else Sp.priv (l.take k) ++ [l[k].id] := by
  rw [List.take_succ_eq_append_getElem hk, Sp.priv_snoc]
set_option maxRecDepth 100000 in
set_option maxHeartbeats 8000000 in
theorem private_any (l : List Sp.Ref) (A : Option Addr) (n cap : Nat) (W : World) (h : Refs W W.heap.size A n l) (hn : n ≤ cap ∧ cap ≤ 9223372036854775807) : Calls Try.prog 14 #[.slice A n cap] W (IdsPost (Sp.private_ l) W) := by
  have hl := h.len
  have HR := hide h
  clear h
  go_enter Try.func14, Try.ntmps14
  go_wp2_with fail
  refine (valid_any l A n cap _ HR.out hn).mono ?_
  rintro e w1 ⟨rfl, hb1⟩
  have HB1 := hide hb1
  clear hb1
  by_cases hok : Sp.Ok l
  · have h16 : n ≤ 16 := by have := hok.1; omega
    have HF := hide (Sp.private_ok hok)
    rw [decide_eq_true hok]
    clear hok
    have h16' : (n : Int) ≤ 16 := by omega
    go_wp2_with fail
    go_loopw [3, 11] (fun s3 s11 wr => ∃ (k m c : Nat) (O : Option Addr), s11 = .int .i64 (k : Int) ∧ s3 = .slice O m c ∧ k ≤ n ∧ m ≤ k ∧ Hid (wr.ownsRow W.heap.size 28 1 (.slice O m c) m (nv .u64 (Sp.priv (l.take k)))) ∧ Hid (Below W.heap.size W wr)) (fun _ s11 _ => n - (intOf s11).toNat)
    case atStart => exact ⟨0, 0, 0, none, rfl, rfl, by omega, by omega, hide (by rw [List.take_zero]; exact own_none), HB1⟩
    case round =>
      clear HB1
      obtain ⟨k, m, c, O, rfl, rfl, hk, hm, HO, HB⟩ := hrel
      by_cases hlt : k < n
      · have hlt' : (k : Int) < (n : Int) := by omega
        obtain ⟨b, o, hkl, rfl, hb, c0, c1⟩ := (HR.out.below HB.out).at_ hlt
        have HP := hide (Sp.priv_take hkl)
        obtain ⟨L, hL⟩ : ∃ L, Sp.priv (l.take k) = L := ⟨_, rfl⟩
        rw [hL] at HO HP
        obtain ⟨x, hx⟩ : ∃ x, l[k] = x := ⟨_, rfl⟩
        rw [hx] at c0 c1 HP
        obtain ⟨w3, hw3, g, hg, w4, hw4, OZ, ON, hb4, hs4⟩ := start_slot wr x
        have hWg : W.heap.size ≤ g := by have := HB.out.size; omega
        have HB4 := hide (HB.out.trans (hb4.mono hWg))
        have HO4 := hide (own_below HO.out (by rw [hg]; exact hb4))
        have hW4 := HB4.out.size
        have n0 := ON.cell 0
        have n1 := ON.cell 1
        simp at n0 n1
        clear hx hL hb4 hs4 ON HO HB
        cases hs : x.sh with
        | true =>
          rw [hs] at n1 HP
          rw [if_pos rfl] at HP
          have HO5 := hide (show w4.ownsRow W.heap.size 28 1 (.slice O m c) m (nv .u64 (Sp.priv (l.take (k + 1)))) by rw [HP.out]; exact HO4.out)
          clear hs HO4
          go_wp2_with (first | (refine wpList_val (by rfl) (exec_load_ref rfl rfl c0 c1) ?_) | (refine store_ref rfl _ _ rfl rfl (c := x) rfl OZ rfl ?_; rw [hw4]) | fail)
          go_roundw
          case rel => exact ⟨k + 1, m, c, O, by go_num, rfl, by omega, by omega, HO5, HB4⟩
          case measure => simp [intOf]; omega
        | false =>
          rw [hs] at n1 HP
          rw [if_neg (by decide)] at HP
          clear hs
          go_wp2_with (first | (refine wpList_val (by rfl) (exec_load_ref rfl rfl c0 c1) ?_) | (refine store_ref rfl _ _ rfl rfl (c := x) rfl OZ rfl ?_; rw [hw4]) | (at_builtin; refine wpList_append_rd rfl _ _ _ rfl idTy (base := W.heap.size) rfl (HO4.out.alloc (.cells #[.int .u64 x.id] 28)) rfl (Row.new w4 (.int .u64 x.id) 28) (by simp [Value.oneCell']) (by unfold maxLen; omega) (by omega) (by simp; omega) ?_; intro A5 c5 w5 hown5 hg5 _; have HB5 := hide (below_own (HB4.out.alloc hW4 _) (HO4.out.alloc _) hg5 (by simp; omega)); rw [nv_snoc, ← HP.out] at hown5; have HO5 := hide hown5; clear hown5 hg5 HO4 HB4) | fail)
          go_roundw
          case rel => exact ⟨k + 1, m + 1, c5, A5, by go_num, rfl, by omega, by omega, HO5, HB5⟩
          case measure => simp [intOf]; omega
      · obtain rfl : k = n := by omega
        have HT := hide (show l.take k = l from List.take_of_length_le (by omega))
        go_wp2_with fail
        go_ret
        refine IdsPost.of HF.out rfl ?_ HB.out
        have := HO.out
        rwa [HT.out] at this
  · have HF := hide (Sp.private_bad hok)
    rw [decide_eq_false hok]
    clear hok
    go_wp2_with fail
    go_ret
    exact IdsPost.of HF.out rfl own_none HB1.out
set_option maxRecDepth 100000 in
set_option maxHeartbeats 8000000 in
theorem refPrivate_any (l : List Sp.Ref) (A : Option Addr) (n cap : Nat) (W : World) (h : Refs W W.heap.size A n l) (hn : n ≤ cap ∧ cap ≤ 9223372036854775807) : Calls Try.prog 15 #[.slice A n cap] W (IdsPost (Sp.private_ l) W) := by
  have hl := h.len
  have HR := hide h
  clear h
  go_enter Try.func15, Try.ntmps15
  go_wp2_with fail
  refine (refValid_any l A n cap _ HR.out hn).mono ?_
  rintro e w1 ⟨rfl, hb1⟩
  have HB1 := hide hb1
  clear hb1
  by_cases hok : Sp.Ok l
  · have h16 : n ≤ 16 := by have := hok.1; omega
    have HF := hide (Sp.private_ok hok)
    rw [decide_eq_true hok]
    clear hok
    have h16' : (n : Int) ≤ 16 := by omega
    go_wp2_with fail
    go_loopw [3, 11] (fun s3 s11 wr => ∃ (k m c : Nat) (O : Option Addr), s11 = .int .i64 (k : Int) ∧ s3 = .slice O m c ∧ k ≤ n ∧ m ≤ k ∧ Hid (wr.ownsRow W.heap.size 28 1 (.slice O m c) m (nv .u64 (Sp.priv (l.take k)))) ∧ Hid (Below W.heap.size W wr)) (fun _ s11 _ => n - (intOf s11).toNat)
    case atStart => exact ⟨0, 0, 0, none, rfl, rfl, by omega, by omega, hide (by rw [List.take_zero]; exact own_none), HB1⟩
    case round =>
      clear HB1
      obtain ⟨k, m, c, O, rfl, rfl, hk, hm, HO, HB⟩ := hrel
      by_cases hlt : k < n
      · have hlt' : (k : Int) < (n : Int) := by omega
        obtain ⟨b, o, hkl, rfl, hb, c0, c1⟩ := (HR.out.below HB.out).at_ hlt
        have HP := hide (Sp.priv_take hkl)
        obtain ⟨L, hL⟩ : ∃ L, Sp.priv (l.take k) = L := ⟨_, rfl⟩
        rw [hL] at HO HP
        obtain ⟨x, hx⟩ : ∃ x, l[k] = x := ⟨_, rfl⟩
        rw [hx] at c0 c1 HP
        obtain ⟨w3, hw3, g, hg, w4, hw4, OZ, ON, hb4, hs4⟩ := start_slot wr x
        have hWg : W.heap.size ≤ g := by have := HB.out.size; omega
        have HB4 := hide (HB.out.trans (hb4.mono hWg))
        have HO4 := hide (own_below HO.out (by rw [hg]; exact hb4))
        have hW4 := HB4.out.size
        have n0 := ON.cell 0
        have n1 := ON.cell 1
        simp at n0 n1
        clear hx hL hb4 hs4 ON HO HB
        cases hs : x.sh with
        | true =>
          rw [hs] at n1 HP
          rw [if_pos rfl] at HP
          have HO5 := hide (show w4.ownsRow W.heap.size 28 1 (.slice O m c) m (nv .u64 (Sp.priv (l.take (k + 1)))) by rw [HP.out]; exact HO4.out)
          clear hs HO4
          go_wp2_with (first | (refine wpList_val (by rfl) (exec_load_ref rfl rfl c0 c1) ?_) | (refine store_ref rfl _ _ rfl rfl (c := x) rfl OZ rfl ?_; rw [hw4]) | fail)
          go_roundw
          case rel => exact ⟨k + 1, m, c, O, by go_num, rfl, by omega, by omega, HO5, HB4⟩
          case measure => simp [intOf]; omega
        | false =>
          rw [hs] at n1 HP
          rw [if_neg (by decide)] at HP
          clear hs
          go_wp2_with (first | (refine wpList_val (by rfl) (exec_load_ref rfl rfl c0 c1) ?_) | (refine store_ref rfl _ _ rfl rfl (c := x) rfl OZ rfl ?_; rw [hw4]) | (at_builtin; refine wpList_append_rd rfl _ _ _ rfl idTy (base := W.heap.size) rfl (HO4.out.alloc (.cells #[.int .u64 x.id] 28)) rfl (Row.new w4 (.int .u64 x.id) 28) (by simp [Value.oneCell']) (by unfold maxLen; omega) (by omega) (by simp; omega) ?_; intro A5 c5 w5 hown5 hg5 _; have HB5 := hide (below_own (HB4.out.alloc hW4 _) (HO4.out.alloc _) hg5 (by simp; omega)); rw [nv_snoc, ← HP.out] at hown5; have HO5 := hide hown5; clear hown5 hg5 HO4 HB4) | fail)
          go_roundw
          case rel => exact ⟨k + 1, m + 1, c5, A5, by go_num, rfl, by omega, by omega, HO5, HB5⟩
          case measure => simp [intOf]; omega
      · obtain rfl : k = n := by omega
        have HT := hide (show l.take k = l from List.take_of_length_le (by omega))
        go_wp2_with fail
        go_ret
        refine IdsPost.of HF.out rfl ?_ HB.out
        have := HO.out
        rwa [HT.out] at this
  · have HF := hide (Sp.private_bad hok)
    rw [decide_eq_false hok]
    clear hok
    go_wp2_with fail
    go_ret
    exact IdsPost.of HF.out rfl own_none HB1.out
end Go.Proofs.Ytoppkgmgjahloaa
