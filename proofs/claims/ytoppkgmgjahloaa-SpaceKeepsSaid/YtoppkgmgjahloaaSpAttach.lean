/- Layer 7: Attach, of package space and of the reference: contracts (written by tools/mkspace.py). -/
import Derived.Test.YtoppkgmgjahloaaSpPrivate
namespace Go.Proofs.Ytoppkgmgjahloaa
open Go.RowKit

theorem own_empty (w : World) {base : Nat} (t : TypeId) (size : Nat) (hb : base ≤ w.heap.size) : (w.alloc (.cells #[] t)).ownsRow base t size (.slice (some ⟨w.heap.size, 0, none⟩) 0 0) 0 [] :=
  ⟨by simp, .inr ⟨w.heap.size, 0, #[], rfl, hb, heap_alloc_new w _, Nat.le_refl _, by unfold maxLen; omega, by simp, by simp⟩⟩
/-- A copy. -/
def ClonePost (n : Nat) (l : List Sp.Ref) (w : World) (e : Ending) (w' : World) : Prop := ∃ A c, e = .returned (.slice A n c) ∧ w'.ownsRow w.heap.size 44 2 (.slice A n c) n (rv l) ∧ Below w.heap.size w w'
set_option maxRecDepth 100000 in
set_option maxHeartbeats 4000000 in
theorem clone_any (l : List Sp.Ref) (A : Option Addr) (n cap : Nat) (W : World) (h : Refs W W.heap.size A n l) (hn : n ≤ 1000) : Calls Try.prog 25 #[.slice A n cap] W (ClonePost n l W) := by
  have HR := hide h
  have hl := h.len
  clear h
  have heq : ∀ w : World, (binOp .eql 22 (.slice A n cap) (.slice none 0 0)).run Try.prog w = .ok (.bool A.isNone) w := fun w => Lib.run_eql_slice_nil w _ _ _ _ _ _ _ Try.underlying22
  cases A with
  | none =>
    have h0 : n = 0 := HR.out.row.2.1 rfl
    subst h0
    have hl0 := List.eq_nil_of_length_eq_zero hl
    subst hl0
    go_enter Try.func25, Try.ntmps25
    go_wp2_with fail
    go_ret
    exact ⟨none, 0, rfl, own_none, Below.refl _ _⟩
  | some a =>
    go_enter Try.func25, Try.ntmps25
    go_wp2_with (first | (at_builtin; refine wpList_append_rd rfl _ _ _ rfl refTy (base := W.heap.size) rfl (own_empty W 44 2 (Nat.le_refl _)) (S := some a) (m := n) (d := cap) (news := rv l) rfl (HR.out.2.alloc (Nat.le_refl _) _) (rv_one _) (by unfold maxLen; omega) (by omega) (by simp) ?_; intro A3 c3 w3 hown3 hg3 _; have HB3 := hide (below_own ((Below.refl _ _).alloc (Nat.le_refl _) _) (own_empty W 44 2 (Nat.le_refl _)) hg3 (by simp)); rw [Nat.zero_add, List.nil_append] at hown3; have HO3 := hide hown3; clear hown3 hg3) | fail)
    go_ret
    exact ⟨A3, c3, rfl, HO3.out, HB3.out⟩

/-- An address space, an address, an error. -/
def AttachPost (r : List Sp.Ref × Int × Int) (w : World) (e : Ending) (w' : World) : Prop := ∃ A c, e = .returned (.tuple #[.slice A r.1.length c, .int .i64 r.2.1, .int .i64 r.2.2]) ∧ Refs w' w'.heap.size A r.1.length r.1 ∧ (r.1.length ≤ c ∧ c ≤ 9223372036854775807) ∧ Below w.heap.size w w'
theorem AttachPost.none {r : List Sp.Ref × Int × Int} {w w' : World} {e : Ending} {x : Int} (hr : r = ([], 0, x)) (he : e = .returned (.tuple #[.slice none 0 0, .int .i64 0, .int .i64 x])) (hb : Below w.heap.size w w') : AttachPost r w e w' := by
  subst hr; exact ⟨_, _, he, Refs.nil, by simp, hb⟩
theorem AttachPost.of {r : List Sp.Ref × Int × Int} {L : List Sp.Ref} {w w' : World} {e : Ending} {a x : Int} {A : Option Addr} {m c : Nat} (hr : r = (L, a, x)) (he : e = .returned (.tuple #[.slice A m c, .int .i64 a, .int .i64 x])) (hR : Refs w' w'.heap.size A m L) (hc : m ≤ c ∧ c ≤ 9223372036854775807) (hb : Below w.heap.size w w') : AttachPost r w e w' := by
  have hm := hR.len
  subst hr hm
  exact ⟨_, _, he, hR, hc, hb⟩
theorem Sp.attach_bad {l : List Sp.Ref} (h : ¬ Sp.Ok l) (ids : List Int) : Sp.attach l ids = ([], 0, 1) := by unfold Sp.attach; rw [if_neg h]
theorem Sp.attach_none {l : List Sp.Ref} (h : Sp.Ok l) {ids : List Int} (h0 : ids.length = 0) : Sp.attach l ids = ([], 0, 2) := by unfold Sp.attach; rw [if_pos h, if_pos h0]
theorem Sp.attach_many {l : List Sp.Ref} (h : Sp.Ok l) {ids : List Int} (h0 : ids.length ≠ 0) (h1 : 16 < l.length + ids.length) : Sp.attach l ids = ([], 0, 3) := by unfold Sp.attach; rw [if_pos h, if_neg h0, if_pos h1]
theorem Sp.attach_not {l : List Sp.Ref} (h : Sp.Ok l) {ids : List Int} (h0 : ids.length ≠ 0) (h1 : ¬ 16 < l.length + ids.length) (h2 : ¬ Sp.Ok (l ++ Sp.shared ids)) : Sp.attach l ids = ([], 0, 1) := by unfold Sp.attach; rw [if_pos h, if_neg h0, if_neg h1, if_neg h2]
theorem Sp.attach_ok {l : List Sp.Ref} (h : Sp.Ok l) {ids : List Int} (h0 : ids.length ≠ 0) (h1 : ¬ 16 < l.length + ids.length) (h2 : Sp.Ok (l ++ Sp.shared ids)) : Sp.attach l ids = (l ++ Sp.shared ids, 16 * (l.length : Int), 0) := by unfold Sp.attach; rw [if_pos h, if_neg h0, if_neg h1, if_pos h2]
theorem Sp.shared_take {ids : List Int} {k : Nat} (hk : k < ids.length) (l : List Sp.Ref) : (l ++ Sp.shared (ids.take k)) ++ [⟨ids[k], true⟩] = l ++ Sp.shared (ids.take (k + 1)) := by
  rw [List.take_succ_eq_append_getElem hk]
  unfold Sp.shared
  rw [List.map_append, ← List.append_assoc]
  rfl
set_option maxRecDepth 100000 in
set_option maxHeartbeats 8000000 in
theorem attach_any (l : List Sp.Ref) (ids : List Int) (A I : Option Addr) (n cap q cq : Nat) (W : World) (h : Refs W W.heap.size A n l) (hn : n ≤ cap ∧ cap ≤ 9223372036854775807) (hI : Nums .u64 W W.heap.size I q ids) (hq : q ≤ 1000000) :
    Calls Try.prog 16 #[.slice A n cap, .slice I q cq] W (AttachPost (Sp.attach l ids) W) := by
  have hl := h.len
  have hli := hI.len
  have HR := hide h
  have HI := hide hI
  clear h hI
  go_enter Try.func16, Try.ntmps16
  go_wp2_with fail
  refine (valid_any l A n cap _ HR.out hn).mono ?_
  rintro e w1 ⟨rfl, hb1⟩
  have HB1 := hide hb1
  clear hb1
  by_cases hok : Sp.Ok l
  · have h16 : n ≤ 16 := by have := hok.1; omega
    have h16' : (n : Int) ≤ 16 := by omega
    have hq' : (q : Int) ≤ 1000000 := by omega
    have HK := hide hok
    rw [decide_eq_true hok]
    clear hok
    by_cases h0 : q = 0
    · have HF := hide (Sp.attach_none HK.out (ids := ids) (by omega))
      subst h0
      go_wp2_with fail
      go_ret3
      exact AttachPost.none HF.out rfl HB1.out
    · have h0' : ((q : Int) == 0) = false := by simp; omega
      by_cases h1 : 16 < n + q
      · have HF := hide (Sp.attach_many HK.out (ids := ids) (by omega) (by omega))
        have h1' : 16 - (n : Int) < (q : Int) := by omega
        have h1'' : 16 < (n : Int) + (q : Int) := by omega
        clear h0 h1
        go_wp2_with fail
        go_ret3
        exact AttachPost.none HF.out rfl HB1.out
      · have h1' : ¬ 16 - (n : Int) < (q : Int) := by omega
        have h1'' : ¬ 16 < (n : Int) + (q : Int) := by omega
        have H0 := hide (show ids.length ≠ 0 by omega)
        have H1 := hide (show ¬ 16 < l.length + ids.length by omega)
        have hnq : n + q ≤ 16 := by omega
        clear h0 h1
        go_wp2_with fail
        refine (clone_any l A n cap _ (HR.out.later HB1.out) (by omega)).mono ?_
        rintro e w2 ⟨A2, c2, rfl, hown2, hb2⟩
        have HO2 := hide (own_weaken hown2 HB1.out.size)
        have HB2 := hide (HB1.out.trans (hb2.mono HB1.out.size))
        clear hown2 hb2
        go_wp2_with fail
        go_loopw [7, 29] (fun s7 s29 wr => ∃ (k m c : Nat) (O : Option Addr), s29 = .int .i64 (k : Int) ∧ s7 = .slice O m c ∧ k ≤ q ∧ m = n + k ∧ Hid (wr.ownsRow W.heap.size 44 2 (.slice O m c) m (rv (l ++ Sp.shared (ids.take k)))) ∧ Hid (Below W.heap.size W wr)) (fun _ s29 _ => q - (intOf s29).toNat)
        case atStart => exact ⟨0, n, c2, A2, rfl, rfl, by omega, by omega, hide (by rw [List.take_zero, show Sp.shared [] = [] from rfl, List.append_nil]; exact HO2.out), HB2⟩
        case round =>
          clear HB1 HB2 HO2
          obtain ⟨k, m, c, O, rfl, rfl, hk, hm, HO, HB⟩ := hrel
          have HM := hide hm
          have hm16 : m ≤ 16 := by omega
          by_cases hlt : k < q
          · have hlt' : (k : Int) < (q : Int) := by omega
            have hm16 : m + 1 ≤ 16 := by omega
            obtain ⟨b, o, hkl, rfl, hb, c0⟩ := (HI.out.below HB.out).at_ hlt
            have HP := hide (Sp.shared_take hkl l)
            obtain ⟨L, hL⟩ : ∃ L, l ++ Sp.shared (ids.take k) = L := ⟨_, rfl⟩
            rw [hL] at HO HP
            obtain ⟨x, hx⟩ : ∃ x, ids[k] = x := ⟨_, rfl⟩
            rw [hx] at c0 HP
            have hW := HB.out.size
            clear hx hL hm
            go_wp2_with (first | (at_builtin; refine wpList_append_rd rfl _ _ _ rfl refTy (base := W.heap.size) rfl (HO.out.alloc (.cells #[.int .u64 x, .bool true] 44)) rfl (Row.two wr ⟨x, true⟩ 44) (by simp [Value.oneCell']) (by unfold maxLen; omega) (by omega) (by simp; omega) ?_; intro A5 c5 w5 hown5 hg5 _; have HB5 := hide (below_own (HB.out.alloc hW _) (HO.out.alloc _) hg5 (by simp; omega)); rw [show rv L ++ [.int .u64 x, .bool true] = rv (L ++ [⟨x, true⟩]) from rv_snoc L ⟨_, _⟩, HP.out] at hown5; have HO5 := hide hown5; clear hown5 hg5 HO HB) | fail)
            go_roundw
            case rel => exact ⟨k + 1, m + 1, c5, A5, by go_num, rfl, by omega, by have := HM.out; omega, HO5, HB5⟩
            case measure => simp [intOf]; omega
          · obtain rfl : k = q := by omega
            have HT := hide (show ids.take k = ids from List.take_of_length_le (by omega))
            have HO6 := hide (show wr.ownsRow W.heap.size 44 2 (.slice O m c) m (rv (l ++ Sp.shared ids)) by have := HO.out; rwa [HT.out] at this)
            clear hm HO
            go_wp2_with fail
            refine (valid_any (l ++ Sp.shared ids) O m c _ (Refs.of_own HO6.out) ⟨own_cap HO6.out, own_cap63 HO6.out⟩).mono ?_
            rintro e w4 ⟨rfl, hb4⟩
            have HB4 := hide (HB.out.trans (hb4.mono HB.out.size))
            have HR4 := hide ((Refs.of_own HO6.out).later hb4)
            clear hb4
            by_cases hok : Sp.Ok (l ++ Sp.shared ids)
            · have HF : Hid (Sp.attach l ids = (l ++ Sp.shared ids, (n : Int) * 16, 0)) := hide (by rw [Sp.attach_ok HK.out H0.out H1.out hok, hl, Int.mul_comm])
              rw [decide_eq_true hok]
              clear hok
              go_wp2_with fail
              refine (start_any n (by omega) _).mono ?_
              rintro e w5 ⟨rfl, rfl⟩
              go_wp2_with fail
              go_ret3
              exact AttachPost.of HF.out rfl HR4.out ⟨own_cap HO6.out, own_cap63 HO6.out⟩ HB4.out
            · have HF := hide (Sp.attach_not HK.out H0.out H1.out hok)
              rw [decide_eq_false hok]
              clear hok
              go_wp2_with fail
              go_ret3
              exact AttachPost.none HF.out rfl HB4.out
  · have HF := hide (Sp.attach_bad hok ids)
    rw [decide_eq_false hok]
    clear hok
    go_wp2_with fail
    go_ret3
    exact AttachPost.none HF.out rfl HB1.out
set_option maxRecDepth 100000 in
set_option maxHeartbeats 8000000 in
theorem refAttach_any (l : List Sp.Ref) (ids : List Int) (A I : Option Addr) (n cap q cq : Nat) (W : World) (h : Refs W W.heap.size A n l) (hn : n ≤ cap ∧ cap ≤ 9223372036854775807) (hI : Nums .u64 W W.heap.size I q ids) (hq : q ≤ 1000000) :
    Calls Try.prog 17 #[.slice A n cap, .slice I q cq] W (AttachPost (Sp.attach l ids) W) := by
  have hl := h.len
  have hli := hI.len
  have HR := hide h
  have HI := hide hI
  clear h hI
  go_enter Try.func17, Try.ntmps17
  go_wp2_with fail
  refine (refValid_any l A n cap _ HR.out hn).mono ?_
  rintro e w1 ⟨rfl, hb1⟩
  have HB1 := hide hb1
  clear hb1
  by_cases hok : Sp.Ok l
  · have h16 : n ≤ 16 := by have := hok.1; omega
    have h16' : (n : Int) ≤ 16 := by omega
    have hq' : (q : Int) ≤ 1000000 := by omega
    have HK := hide hok
    rw [decide_eq_true hok]
    clear hok
    by_cases h0 : q = 0
    · have HF := hide (Sp.attach_none HK.out (ids := ids) (by omega))
      subst h0
      go_wp2_with fail
      go_ret3
      exact AttachPost.none HF.out rfl HB1.out
    · have h0' : ((q : Int) == 0) = false := by simp; omega
      by_cases h1 : 16 < n + q
      · have HF := hide (Sp.attach_many HK.out (ids := ids) (by omega) (by omega))
        have h1' : 16 - (n : Int) < (q : Int) := by omega
        have h1'' : 16 < (n : Int) + (q : Int) := by omega
        clear h0 h1
        go_wp2_with fail
        go_ret3
        exact AttachPost.none HF.out rfl HB1.out
      · have h1' : ¬ 16 - (n : Int) < (q : Int) := by omega
        have h1'' : ¬ 16 < (n : Int) + (q : Int) := by omega
        have H0 := hide (show ids.length ≠ 0 by omega)
        have H1 := hide (show ¬ 16 < l.length + ids.length by omega)
        have hnq : n + q ≤ 16 := by omega
        clear h0 h1
        go_wp2_with (first | (at_builtin; refine wpList_append_rd rfl _ _ _ rfl refTy (A := none) (n := 0) (c := 0) (xs := []) (base := W.heap.size) rfl own_none (S := A) (m := n) (d := cap) (news := rv l) rfl (HR.out.later HB1.out).2 (rv_one _) (by unfold maxLen; omega) (by omega) HB1.out.size ?_; intro A2 c2 w2 hown2 hg2 _; rw [Nat.zero_add, List.nil_append] at hown2; have HO2 := hide hown2; have HB2 := hide (HB1.out.trans ((below_none hg2).mono HB1.out.size)); clear hown2 hg2) | fail)
        go_loopw [7, 29] (fun s7 s29 wr => ∃ (k m c : Nat) (O : Option Addr), s29 = .int .i64 (k : Int) ∧ s7 = .slice O m c ∧ k ≤ q ∧ m = n + k ∧ Hid (wr.ownsRow W.heap.size 44 2 (.slice O m c) m (rv (l ++ Sp.shared (ids.take k)))) ∧ Hid (Below W.heap.size W wr)) (fun _ s29 _ => q - (intOf s29).toNat)
        case atStart => exact ⟨0, n, c2, A2, rfl, rfl, by omega, by omega, hide (by rw [List.take_zero, show Sp.shared [] = [] from rfl, List.append_nil]; exact HO2.out), HB2⟩
        case round =>
          clear HB1 HB2 HO2
          obtain ⟨k, m, c, O, rfl, rfl, hk, hm, HO, HB⟩ := hrel
          have HM := hide hm
          have hm16 : m ≤ 16 := by omega
          by_cases hlt : k < q
          · have hlt' : (k : Int) < (q : Int) := by omega
            have hm16 : m + 1 ≤ 16 := by omega
            obtain ⟨b, o, hkl, rfl, hb, c0⟩ := (HI.out.below HB.out).at_ hlt
            have HP := hide (Sp.shared_take hkl l)
            obtain ⟨L, hL⟩ : ∃ L, l ++ Sp.shared (ids.take k) = L := ⟨_, rfl⟩
            rw [hL] at HO HP
            obtain ⟨x, hx⟩ : ∃ x, ids[k] = x := ⟨_, rfl⟩
            rw [hx] at c0 HP
            have hW := HB.out.size
            clear hx hL hm
            go_wp2_with (first | (at_builtin; refine wpList_append_rd rfl _ _ _ rfl refTy (base := W.heap.size) rfl (HO.out.alloc (.cells #[.int .u64 x, .bool true] 44)) rfl (Row.two wr ⟨x, true⟩ 44) (by simp [Value.oneCell']) (by unfold maxLen; omega) (by omega) (by simp; omega) ?_; intro A5 c5 w5 hown5 hg5 _; have HB5 := hide (below_own (HB.out.alloc hW _) (HO.out.alloc _) hg5 (by simp; omega)); rw [show rv L ++ [.int .u64 x, .bool true] = rv (L ++ [⟨x, true⟩]) from rv_snoc L ⟨_, _⟩, HP.out] at hown5; have HO5 := hide hown5; clear hown5 hg5 HO HB) | fail)
            go_roundw
            case rel => exact ⟨k + 1, m + 1, c5, A5, by go_num, rfl, by omega, by have := HM.out; omega, HO5, HB5⟩
            case measure => simp [intOf]; omega
          · obtain rfl : k = q := by omega
            have HT := hide (show ids.take k = ids from List.take_of_length_le (by omega))
            have HO6 := hide (show wr.ownsRow W.heap.size 44 2 (.slice O m c) m (rv (l ++ Sp.shared ids)) by have := HO.out; rwa [HT.out] at this)
            clear hm HO
            go_wp2_with fail
            refine (refValid_any (l ++ Sp.shared ids) O m c _ (Refs.of_own HO6.out) ⟨own_cap HO6.out, own_cap63 HO6.out⟩).mono ?_
            rintro e w4 ⟨rfl, hb4⟩
            have HB4 := hide (HB.out.trans (hb4.mono HB.out.size))
            have HR4 := hide ((Refs.of_own HO6.out).later hb4)
            clear hb4
            by_cases hok : Sp.Ok (l ++ Sp.shared ids)
            · have HF : Hid (Sp.attach l ids = (l ++ Sp.shared ids, (n : Int) * 16, 0)) := hide (by rw [Sp.attach_ok HK.out H0.out H1.out hok, hl, Int.mul_comm])
              rw [decide_eq_true hok]
              clear hok
              go_wp2_with fail
              go_ret3
              exact AttachPost.of HF.out rfl HR4.out ⟨own_cap HO6.out, own_cap63 HO6.out⟩ HB4.out
            · have HF := hide (Sp.attach_not HK.out H0.out H1.out hok)
              rw [decide_eq_false hok]
              clear hok
              go_wp2_with fail
              go_ret3
              exact AttachPost.none HF.out rfl HB4.out
  · have HF := hide (Sp.attach_bad hok ids)
    rw [decide_eq_false hok]
    clear hok
    go_wp2_with fail
    go_ret3
    exact AttachPost.none HF.out rfl HB1.out
end Go.Proofs.Ytoppkgmgjahloaa
