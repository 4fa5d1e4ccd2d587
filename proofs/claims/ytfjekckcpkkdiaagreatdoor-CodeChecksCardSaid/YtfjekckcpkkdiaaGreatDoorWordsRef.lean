/- Layer 2, the document's own answer to Split; lists of words compared. -/
import Derived.Test.YtfjekckcpkkdiaaGreatDoorWordsSplit
namespace Go.Proofs.YtfjekckcpkkdiaaGreatDoor
open Go.RowKit

theorem ba_list (l : List UInt8) : (⟨l.toArray⟩ : ByteArray).toList = l := by rw [Lib.toList_data]

set_option maxHeartbeats 1000000 in
set_option maxRecDepth 100000 in
theorem refSplit_any (s : ByteArray) (w : World) (hs : s.size ≤ 9223372036854775807) :
    Calls Tryz.prog 41 #[.string s] w (StrsPost (Wd.split s.data.toList) w) := by
  have hsz := Lib.size_eq s
  by_cases h1 : 4096 < s.size
  · have hr : Wd.split s.data.toList = ([], 3) := by unfold Wd.split; rw [if_pos (by omega)]
    rw [hr]
    clear hr hsz
    go_enter Tryz.func41, Tryz.ntmps41
    go_wp2
    go_ret2
    exact StrsPost.of rfl rfl (by omega) (by omega) Strs.nil (Below.refl _ _)
  · have Hr : Hid (Wd.split s.data.toList = Wd.outcome (Wd.from_ (0, [], []) s.data.toList)) := hide (by
      unfold Wd.split; rw [if_neg (by omega)])
    have hle : s.size ≤ 4096 := by omega
    have d1 : decide ((4096 : Int) < (s.size : Int)) = false := by simp; omega
    have Hsz := hide hsz
    clear hsz h1
    have hn0 := World.ownsRow_nil w w.heap.size 9 1
    by_cases h0 : s.size = 0
    · have e0 : s.toList.isEmpty = true := by rw [ba_empty]; simp [h0]
      have hr : Wd.split s.data.toList = ([], 0) := by
        rw [Hr.out, show s.data.toList = [] from List.eq_nil_of_length_eq_zero (by rw [← Hsz.out]; exact h0)]; rfl
      rw [hr]
      clear h0 hr
      go_enter Tryz.func41, Tryz.ntmps41
      go_wp2
      go_ret2
      exact StrsPost.of rfl rfl (by omega) (by omega) Strs.nil (Below.refl _ _)
    · have e0 : s.toList.isEmpty = false := by rw [ba_empty]; simp [h0]
      have Hst : Hid (Wd.from_ (0, [], []) s.data.toList = Wd.from_ (1, [], []) s.data.toList) := hide (Wd.from_start _ (by
        intro e
        have := Hsz.out
        rw [e] at this
        exact h0 this))
      have Hlen : Hid (∀ k, (s.data.toList.drop k).length = s.size - k) := hide (by intro k; rw [List.length_drop, ← Hsz.out])
      clear h0
      go_enter Tryz.func41, Tryz.ntmps41
      go_wp2_with fail
      go_loopw [4, 5] (fun s4 s5 wr => ∃ (k n c : Nat) (A : Option Addr) (out : List (List UInt8)), s4 = .slice A n c ∧ s5 = .int .i64 (k : Int) ∧ k ≤ s.size ∧ n ≤ k ∧ wr.ownsRow w.heap.size 9 1 (.slice A n c) n (sv out) ∧ Below w.heap.size w wr ∧ Hid (Wd.from_ (1, [], out) (s.data.toList.drop k) = Wd.from_ (0, [], []) s.data.toList)) (fun _ s5 _ => s.size - (intOf s5).toNat)
      case atStart => exact ⟨0, 0, 0, none, [], rfl, rfl, by omega, by omega, hn0, Below.refl _ _, hide (by rw [Hst.out]; rfl)⟩
      case round =>
        obtain ⟨k, n, c, A, out, rfl, rfl, hk, hnk, hown, hb, HH⟩ := hrel
        have hB : w.heap.size ≤ wr.heap.size := hb.size
        have Hfw := hide (Wd.from_word (s.data.toList.drop k) out)
        cases hw : Wd.word (s.data.toList.drop k) with
        | none =>
          have Hw := hide hw
          clear hw
          go_wp2_with fail
          refine (refWord_any s k _ hle hk).mono ?_
          intro e w1 hpost
          rw [Hw.out] at hpost
          obtain ⟨hb1, x, y, rfl⟩ := hpost
          go_wp2
          go_ret2
          exact StrsPost.of (by rw [Hr.out, ← HH.out, Hfw.out, Hw.out]; rfl) rfl (by omega) (by omega) Strs.nil (hb.trans (hb1.mono hB))
        | some p =>
          obtain ⟨wd, rest⟩ := p
          have hlt := Wd.word_lt hw
          have Hw := hide hw
          clear hw
          go_wp2_with fail
          refine (refWord_any s k _ hle hk).mono ?_
          intro e w1 hpost
          rw [Hw.out] at hpost
          obtain ⟨hb1, to, hto, hrest, rfl⟩ := hpost
          subst hrest
          rw [Hlen.out, Hlen.out] at hlt
          have hkt : k < to := by omega
          have hbw1 := hb.trans (hb1.mono hB)
          have hB1 := hbw1.size
          have hown1 : w1.ownsRow w.heap.size 9 1 (.slice A n c) n (sv out) := own_below hown hb1
          have Hf2 : Hid (Wd.from_ (5, wd, out) (s.data.toList.drop to) = Wd.from_ (0, [], []) s.data.toList) := hide (by rw [← HH.out, Hfw.out, Hw.out]; rfl)
          clear hlt hown hb hb1 HH Hfw Hw
          by_cases hend : to = s.size
          · have ht : ((to : Int) == (s.size : Int)) = true := by simp; omega
            have Hf3 : Hid (Wd.from_ (0, [], []) s.data.toList = some (out ++ [wd])) := hide (by
              rw [← Hf2.out, List.drop_eq_nil_of_le (by rw [← Hsz.out]; omega)]; rfl)
            have hl := own_strs hown1
            by_cases h64 : 64 < n + 1
            · have d2 : decide ((64 : Int) < (n : Int) + 1) = true := by simp; omega
              have Hf4 : Hid (Wd.outcome (some (out ++ [wd])) = ([], 3)) := hide (if_pos (by simp; omega))
              clear Hf2 hend hl h64
              go_wp2_with (at_builtin; refine wpList_append_rd rfl (.tmp 25) (.tmp 27) _ rfl strTy rfl (hown1.alloc _) rfl (Row.new _ _ _) (by simp [Value.oneCell']) (by unfold maxLen; omega) (by omega) (by simp; omega) ?_; intro A3 c3 w3 hown3 hgrow3 hat3)
              have hb2 : Below w.heap.size w w3 := below_own (hbw1.alloc hB1 _) (hown1.alloc _) hgrow3 (by simp; omega)
              go_ret2
              exact StrsPost.of (by rw [Hr.out, Hf3.out, Hf4.out]) rfl (by omega) (by omega) Strs.nil hb2
            · have d2 : decide ((64 : Int) < (n : Int) + 1) = false := by simp; omega
              have Hf4 : Hid (Wd.outcome (some (out ++ [wd])) = (out ++ [wd], 0)) := hide (if_neg (by simp; omega))
              clear Hf2 hend hl h64
              go_wp2_with (at_builtin; refine wpList_append_rd rfl (.tmp 25) (.tmp 27) _ rfl strTy rfl (hown1.alloc _) rfl (Row.new _ _ _) (by simp [Value.oneCell']) (by unfold maxLen; omega) (by omega) (by simp; omega) ?_; intro A3 c3 w3 hown3 hgrow3 hat3)
              have hb2 : Below w.heap.size w w3 := below_own (hbw1.alloc hB1 _) (hown1.alloc _) hgrow3 (by simp; omega)
              rw [sv_snoc] at hown3
              go_ret2
              exact StrsPost.of (by rw [Hr.out, Hf3.out, Hf4.out]) rfl (own_cap hown3) (own_cap63 hown3) (Strs.of_own hown3) hb2
          · have ht : ((to : Int) == (s.size : Int)) = false := by simp; omega
            have hlt : to < s.size := by omega
            have Hd := hide (drop_cons s to hlt)
            by_cases hsp : s[to] = 32
            · have n32 : (s[to].toNat : Int) = 32 := by rw [hsp]; rfl
              have Hf3 : Hid (Wd.from_ (1, [], out ++ [wd]) (s.data.toList.drop (to + 1)) = Wd.from_ (0, [], []) s.data.toList) := hide (by
                rw [← Hf2.out, Hd.out, Wd.from_sep, hsp]; rfl)
              clear Hf2 Hd hend hsp
              go_wp2_with (at_builtin; refine wpList_append_rd rfl (.tmp 25) (.tmp 27) _ rfl strTy rfl (hown1.alloc _) rfl (Row.new _ _ _) (by simp [Value.oneCell']) (by unfold maxLen; omega) (by omega) (by simp; omega) ?_; intro A3 c3 w3 hown3 hgrow3 hat3)
              have hb2 : Below w.heap.size w w3 := below_own (hbw1.alloc hB1 _) (hown1.alloc _) hgrow3 (by simp; omega)
              rw [sv_snoc] at hown3
              go_roundw
              case rel => exact ⟨to + 1, n + 1, c3, A3, out ++ [wd], rfl, by go_num, by omega, by omega, hown3, hb2, Hf3⟩
              case measure => simp [intOf]; omega
            · have e32 : ((s[to].toNat : Int) == 32) = false := by
                have n1 : s[to].toNat ≠ 32 := ne_nat hsp
                simp; omega
              have e32' : ((s[to].toNat : Int) != 32) = true := by
                have n1 : s[to].toNat ≠ 32 := ne_nat hsp
                simp; omega
              have Hf3 : Hid (Wd.from_ (0, [], []) s.data.toList = none) := hide (by
                rw [← Hf2.out, Hd.out, Wd.from_sep, if_neg (by exact ne_nat hsp)])
              clear Hf2 Hd hend hsp
              go_wp2_with (at_builtin; refine wpList_append_rd rfl (.tmp 25) (.tmp 27) _ rfl strTy rfl (hown1.alloc _) rfl (Row.new _ _ _) (by simp [Value.oneCell']) (by unfold maxLen; omega) (by omega) (by simp; omega) ?_; intro A3 c3 w3 hown3 hgrow3 hat3)
              have hb2 : Below w.heap.size w w3 := below_own (hbw1.alloc hB1 _) (hown1.alloc _) hgrow3 (by simp; omega)
              go_ret2
              exact StrsPost.of (by rw [Hr.out, Hf3.out]; rfl) rfl (by omega) (by omega) Strs.nil hb2

theorem strs_ne {l m : List (List UInt8)} {k : Nat} (hl : k < l.length) (hm : k < m.length) (h : l[k] ≠ m[k]) : l ≠ m := by
  intro e; subst e; exact h rfl

set_option maxHeartbeats 400000 in
theorem refSame_any (A B : Option Addr) (n m c d : Nat) (l r : List (List UInt8)) (w : World) (C : Nat) (ha : Strs w C A n l) (hb : Strs w C B m r) (hn : n ≤ 9223372036854775807) (hm : m ≤ 9223372036854775807) :
    Calls Tryz.prog 37 #[.slice A n c, .slice B m d] w fun e w' => e = .returned (.bool (decide (l = r))) ∧ Below w.heap.size w w' := by
  by_cases hnm : n = m
  · subst hnm
    have e1 : ((n : Int) != (n : Int)) = false := by simp
    go_enter Tryz.func37, Tryz.ntmps37
    go_wp2_with fail
    go_loopw [13] (fun s13 wr => ∃ k : Nat, s13 = .int .i64 (k : Int) ∧ k ≤ n ∧ Hid (l.take k = r.take k) ∧ ∃ q, wr = w.drewN q) (fun s13 _ => n - (intOf s13).toNat)
    case atStart => exact ⟨0, rfl, by omega, hide rfl, 0, rfl⟩
    case round =>
      obtain ⟨k, rfl, hk, Hk, q, rfl⟩ := hrel
      by_cases hlt : k < n
      · obtain ⟨ba, oa, hla, rfl, _, hca⟩ := ha.at_ hlt
        obtain ⟨bb, ob, hlb, rfl, _, hcb⟩ := hb.at_ hlt
        by_cases he : l[k] = r[k]
        · have hcmp : (l[k] == r[k]) = true := by simpa using he
          have Hk2 : Hid (l.take (k + 1) = r.take (k + 1)) := hide (by
            rw [List.take_succ_eq_append_getElem hla, List.take_succ_eq_append_getElem hlb, Hk.out, he])
          clear he
          go_wp2_with fail
          go_quiet (fail)
          go_wp2
          go_roundw
          case rel => exact ⟨k + 1, by go_num, by omega, Hk2, _, rfl⟩
          case measure => simp [intOf]; omega
        · have hcmp : (l[k] == r[k]) = false := by simpa using he
          have hne := hide (strs_ne hla hlb he)
          clear he
          go_wp2_with fail
          go_quiet (fail)
          go_wp2
          go_ret
          exact ⟨ret_bool (decide_eq_false hne.out).symm, ⟨rfl, rfl, rfl, Nat.le_refl _, fun _ _ => rfl⟩⟩
      · obtain rfl : k = n := by omega
        go_wp2
        go_ret
        have hlr : l = r := by
          have := Hk.out
          rwa [List.take_of_length_le (by rw [ha.len]; exact Nat.le_refl _), List.take_of_length_le (by rw [hb.len]; exact Nat.le_refl _)] at this
        exact ⟨ret_bool (decide_eq_true hlr).symm, ⟨rfl, rfl, rfl, Nat.le_refl _, fun _ _ => rfl⟩⟩
  · have e1 : ((n : Int) != (m : Int)) = true := by simp; omega
    have e2 : ((n : Int) == (m : Int)) = false := by simp; omega
    have hlr : ¬ l = r := fun e => hnm (by rw [← ha.len, ← hb.len, e])
    go_enter Tryz.func37, Tryz.ntmps37
    go_wp2
    go_ret
    exact ⟨ret_bool (decide_eq_false hlr).symm, Below.refl _ _⟩
end Go.Proofs.YtfjekckcpkkdiaaGreatDoor
