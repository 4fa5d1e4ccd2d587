/- Layer 2, lines of words: the document's own answer to Join, contracts. -/
import Derived.Test.YtfjekckcpkkdiaaGreatDoorWordsJoin
namespace Go.Proofs.YtfjekckcpkkdiaaGreatDoor
open Go.RowKit


set_option maxHeartbeats 2000000 in
theorem refWritten_any (s : ByteArray) (w : World) (hs : s.size ≤ 1048576) :
    Calls Tryz.prog 56 #[.string s] w fun e w' => e = .returned (.string ⟨(Wd.written s.data.toList).toArray⟩) ∧ Below w.heap.size w w' := by
  have hsz := hide (Lib.size_eq s)
  cases hp : Wd.plainW s.data.toList with
  | true =>
    have hw : Wd.written s.data.toList = s.data.toList := by unfold Wd.written; rw [if_pos hp]
    rw [hw, Lib.mk_data]
    have Hp := hide hp
    clear hp hw
    go_enter Tryz.func56, Tryz.ntmps56
    go_wp2_with fail
    refine (refPlainWord_any s _ (by omega)).mono ?_
    rintro e w1 ⟨rfl, rfl⟩
    rw [Hp.out]
    go_wp2
    go_ret
    exact ⟨rfl, Below.refl _ _⟩
  | false =>
    have hw : Wd.written s.data.toList = 34 :: (Wd.quote s.data.toList ++ [34]) := by unfold Wd.written; rw [if_neg (by simp [hp])]
    rw [hw]
    have Hp := hide hp
    clear hp hw
    have hn0 : (w.alloc (.cells #[.int .u8 34] 5)).ownsRow w.heap.size 5 1 (.slice (some ⟨w.heap.size, 0, none⟩) 1 1) 1 (bv (34 :: Wd.quote (s.data.toList.take 0))) := own_list [.int .u8 34] 5 (Nat.le_refl _) (by simp)
    have hb0 : Below w.heap.size w (w.alloc (.cells #[.int .u8 34] 5)) := (Below.refl _ _).alloc (Nat.le_refl _) _
    go_enter Tryz.func56, Tryz.ntmps56
    go_wp2_with fail
    refine (refPlainWord_any s _ (by omega)).mono ?_
    rintro e w1 ⟨rfl, rfl⟩
    rw [Hp.out]
    go_wp2_with fail
    go_loopw [3, 4] (fun s3 s4 wr => ∃ (k m c : Nat) (B : Option Addr), s3 = .slice B m c ∧ s4 = .int .i64 (k : Int) ∧ k ≤ s.size ∧ wr.ownsRow w.heap.size 5 1 (.slice B m c) m (bv (34 :: Wd.quote (s.data.toList.take k))) ∧ Below w.heap.size w wr) (fun _ s4 _ => s.size - (intOf s4).toNat)
    case atStart => exact ⟨0, 1, 1, some ⟨w.heap.size, 0, none⟩, rfl, rfl, by omega, hn0, hb0⟩
    case round =>
      obtain ⟨k, m, c, B, rfl, rfl, hk, hown, hb⟩ := hrel
      have hB : w.heap.size ≤ wr.heap.size := hb.size
      have hm := own_bytes hown
      have hq := Wd.quote_le (s.data.toList.take k)
      have htk : (s.data.toList.take k).length ≤ k := List.length_take_le _ _
      have hmb : m ≤ 1099511627776 := by
        rw [← hm, List.length_cons]
        omega
      clear hm hq htk hn0 hb0
      by_cases hlt : k < s.size
      · have hq : 34 :: Wd.quote (s.data.toList.take (k + 1)) = (34 :: Wd.quote (s.data.toList.take k)) ++ Wd.esc s[k] := by rw [take_snoc s k hlt, Wd.quote_snoc]; simp
        by_cases h1 : s[k] = 34
        · have n1 : (s[k].toNat : Int) = 34 := by rw [h1]; rfl
          rw [h1, show Wd.esc 34 = [92, 34] from rfl] at hq
          have Hq := hide hq
          clear h1 hq
          go_wp2_with (at_builtin; refine wpList_append_rd rfl (.tmp 27) (.tmp 29) _ rfl byteTy rfl (hown.alloc _) rfl (Row.list _ [.int .u8 92, .int .u8 34] _) (by simp [Value.oneCell']) (by unfold maxLen; omega) (by omega) (by simp; omega) ?_; intro A3 c3 w3 hown3 hgrow3 hat3)
          have hb3 : Below w.heap.size w w3 := below_own (hb.alloc hB _) (hown.alloc _) hgrow3 (by simp; omega)
          have hown4 : w3.ownsRow w.heap.size 5 1 (.slice A3 (m + 2) c3) (m + 2) (bv (34 :: Wd.quote (s.data.toList.take (k + 1)))) := by rw [Hq.out, bv_append]; exact hown3
          go_roundw
          case rel => exact ⟨k + 1, _, c3, A3, rfl, by go_num, by omega, hown4, hb3⟩
          case measure => simp [intOf]; omega
        · have e1 : ((s[k].toNat : Int) == 34) = false := by
            have n1 : s[k].toNat ≠ 34 := ne_nat h1
            simp; omega
          by_cases h2 : s[k] = 92
          · have n1 : (s[k].toNat : Int) = 92 := by rw [h2]; rfl
            rw [h2, show Wd.esc 92 = [92, 92] from rfl] at hq
            have Hq := hide hq
            clear h2 hq
            go_wp2_with (at_builtin; refine wpList_append_rd rfl (.tmp 27) (.tmp 29) _ rfl byteTy rfl (hown.alloc _) rfl (Row.list _ [.int .u8 92, .int .u8 92] _) (by simp [Value.oneCell']) (by unfold maxLen; omega) (by omega) (by simp; omega) ?_; intro A3 c3 w3 hown3 hgrow3 hat3)
            have hb3 : Below w.heap.size w w3 := below_own (hb.alloc hB _) (hown.alloc _) hgrow3 (by simp; omega)
            have hown4 : w3.ownsRow w.heap.size 5 1 (.slice A3 (m + 2) c3) (m + 2) (bv (34 :: Wd.quote (s.data.toList.take (k + 1)))) := by rw [Hq.out, bv_append]; exact hown3
            go_roundw
            case rel => exact ⟨k + 1, _, c3, A3, rfl, by go_num, by omega, hown4, hb3⟩
            case measure => simp [intOf]; omega
          · have e2 : ((s[k].toNat : Int) == 92) = false := by
              have n1 : s[k].toNat ≠ 92 := ne_nat h2
              simp; omega
            by_cases h3 : s[k] = 10
            · have n1 : (s[k].toNat : Int) = 10 := by rw [h3]; rfl
              rw [h3, show Wd.esc 10 = [92, 110] from rfl] at hq
              have Hq := hide hq
              clear h3 hq
              go_wp2_with (at_builtin; refine wpList_append_rd rfl (.tmp 33) (.tmp 34) _ rfl byteTy rfl (hown.alloc _) rfl (Row.list _ [.int .u8 92, .int .u8 110] _) (by simp [Value.oneCell']) (by unfold maxLen; omega) (by omega) (by simp; omega) ?_; intro A3 c3 w3 hown3 hgrow3 hat3)
              have hb3 : Below w.heap.size w w3 := below_own (hb.alloc hB _) (hown.alloc _) hgrow3 (by simp; omega)
              have hown4 : w3.ownsRow w.heap.size 5 1 (.slice A3 (m + 2) c3) (m + 2) (bv (34 :: Wd.quote (s.data.toList.take (k + 1)))) := by rw [Hq.out, bv_append]; exact hown3
              go_roundw
              case rel => exact ⟨k + 1, _, c3, A3, rfl, by go_num, by omega, hown4, hb3⟩
              case measure => simp [intOf]; omega
            · have e3 : ((s[k].toNat : Int) == 10) = false := by
                have n1 : s[k].toNat ≠ 10 := ne_nat h3
                simp; omega
              by_cases h4 : s[k] = 13
              · have n1 : (s[k].toNat : Int) = 13 := by rw [h4]; rfl
                rw [h4, show Wd.esc 13 = [92, 114] from rfl] at hq
                have Hq := hide hq
                clear h4 hq
                go_wp2_with (at_builtin; refine wpList_append_rd rfl (.tmp 38) (.tmp 39) _ rfl byteTy rfl (hown.alloc _) rfl (Row.list _ [.int .u8 92, .int .u8 114] _) (by simp [Value.oneCell']) (by unfold maxLen; omega) (by omega) (by simp; omega) ?_; intro A3 c3 w3 hown3 hgrow3 hat3)
                have hb3 : Below w.heap.size w w3 := below_own (hb.alloc hB _) (hown.alloc _) hgrow3 (by simp; omega)
                have hown4 : w3.ownsRow w.heap.size 5 1 (.slice A3 (m + 2) c3) (m + 2) (bv (34 :: Wd.quote (s.data.toList.take (k + 1)))) := by rw [Hq.out, bv_append]; exact hown3
                go_roundw
                case rel => exact ⟨k + 1, _, c3, A3, rfl, by go_num, by omega, hown4, hb3⟩
                case measure => simp [intOf]; omega
              · have e4 : ((s[k].toNat : Int) == 13) = false := by
                  have n1 : s[k].toNat ≠ 13 := ne_nat h4
                  simp; omega
                have he : Wd.esc s[k] = [s[k]] := by
                  have n1 : s[k].toNat ≠ 34 := ne_nat h1
                  have n2 : s[k].toNat ≠ 92 := ne_nat h2
                  have n3 : s[k].toNat ≠ 10 := ne_nat h3
                  have n4 : s[k].toNat ≠ 13 := ne_nat h4
                  unfold Wd.esc
                  rw [if_neg n1, if_neg n2, if_neg n3, if_neg n4]
                rw [he] at hq
                have Hq := hide hq
                clear h1 h2 h3 h4 he hq
                go_wp2_with (at_builtin; refine wpList_append_rd rfl (.tmp 20) (.tmp 22) _ rfl byteTy rfl (hown.alloc _) rfl (Row.new _ _ _) (by simp [Value.oneCell']) (by unfold maxLen; omega) (by omega) (by simp; omega) ?_; intro A3 c3 w3 hown3 hgrow3 hat3)
                have hb3 : Below w.heap.size w w3 := below_own (hb.alloc hB _) (hown.alloc _) hgrow3 (by simp; omega)
                rw [bv_snoc_u8, ← Hq.out] at hown3
                go_roundw
                case rel => exact ⟨k + 1, _, c3, A3, rfl, by go_num, by omega, hown3, hb3⟩
                case measure => simp [intOf]; omega
      · have hk' : s.data.toList.take k = s.data.toList := List.take_of_length_le (by rw [← hsz.out]; omega)
        rw [hk'] at hown
        clear hk'
        go_wp2_with (at_builtin; refine wpList_append_rd rfl (.tmp 41) (.tmp 42) _ rfl byteTy rfl (hown.alloc _) rfl (Row.new _ _ _) (by simp [Value.oneCell']) (by unfold maxLen; omega) (by omega) (by simp; omega) ?_; intro A3 c3 w3 hown3 hgrow3 hat3; have hown4 : w3.ownsRow w.heap.size 5 1 (.slice A3 (m + 1) c3) (m + 1) (bv (34 :: (Wd.quote s.data.toList ++ [34]))) := (by have := bv_append (34 :: Wd.quote s.data.toList) [34]; rw [List.cons_append] at this; rw [this]; exact hown3); have hconv := run_string_rd (P := Tryz.prog) w3 Tryz.underlying26 Tryz.underlying5 Tryz.underlying9 (c := c3) (Bytes.of_own hown4); clear hown4)
        go_ret
        exact ⟨rfl, below_own (hb.alloc hB _) (hown.alloc _) hgrow3 (by simp; omega)⟩


set_option maxHeartbeats 2000000 in
theorem refJoin_any (A : Option Addr) (n c : Nat) (l : List (List UInt8)) (w : World) (B : Nat) (hl : Strs w B A n l) (hB : B ≤ w.heap.size) (hn : n ≤ 9223372036854775807) (hw : ∀ x ∈ l, x.length ≤ 1000000) :
    Calls Tryz.prog 32 #[.slice A n c] w (StrPost (Wd.join l) w) := by
  have Hw := hide hw
  clear hw
  by_cases h64 : 64 < n
  · have hr : Wd.join l = ([], 3) := by unfold Wd.join; rw [if_pos (by rw [hl.len]; exact h64)]
    rw [hr]
    have d : decide ((64 : Int) < (n : Int)) = true := by simp; omega
    go_enter Tryz.func32, Tryz.ntmps32
    go_wp2
    go_ret2
    exact StrPost.of rfl rfl (Below.refl _ _)
  · have d : decide ((64 : Int) < (n : Int)) = false := by simp; omega
    have hn64 : n ≤ 64 := by omega
    have H64 : Hid (¬ 64 < l.length) := hide (by rw [hl.len]; exact h64)
    have Hll := hide hl.len
    clear h64
    go_enter Tryz.func32, Tryz.ntmps32
    go_wp2_with fail
    go_loopw [4, 12] (fun s4 s12 wr => ∃ (k : Nat) (line : List UInt8), s4 = .string ⟨line.toArray⟩ ∧ s12 = .int .i64 (k : Int) ∧ k ≤ n ∧ line.length ≤ 4096 ∧ Below w.heap.size w wr ∧ Hid (Wd.joinG line (decide (k = 0)) (l.drop k) = Wd.joinG [] true l)) (fun _ s12 _ => n - (intOf s12).toNat)
    case atStart => exact ⟨0, [], rfl, rfl, by omega, by simp, Below.refl _ _, hide rfl⟩
    case round =>
      obtain ⟨k, line, rfl, rfl, hk, hm, hb, HH⟩ := hrel
      have hBr : w.heap.size ≤ wr.heap.size := hb.size
      by_cases hlt : k < n
      · obtain ⟨ba, oa, hkl, rfl, hba, hca⟩ := hl.at_ hlt
        have hca' : wr.cell? ⟨ba, oa + k, none⟩ = some (.string ⟨l[k].toArray⟩) := (hb.cell (p := ⟨ba, oa + k, none⟩) (by show ba < _; omega)).trans hca
        by_cases h0 : k = 0
        · subst h0
          have hca0 : wr.cell? ⟨ba, oa, none⟩ = some (.string ⟨l[0].toArray⟩) := hca'
          have Hj1 : Hid (4096 < (line ++ Wd.written l[0]).length → Wd.joinG [] true l = none) := hide (Wd.join_step hkl HH.out).1
          have Hj2 : Hid (¬ 4096 < (line ++ Wd.written l[0]).length → Wd.joinG (line ++ Wd.written l[0]) false (l.drop 1) = Wd.joinG [] true l) := hide (Wd.join_step hkl HH.out).2
          clear HH
          go_wp2_with fail
          refine (refWritten_any ⟨l[0].toArray⟩ _ (by rw [ba_size]; have := Hw.out _ (List.getElem_mem hkl); omega)).mono ?_
          rintro e w5 ⟨rfl, hb5⟩
          have hwl : (Wd.written l[0]).length ≤ 2000002 := by have := Wd.written_le l[0]; have := Hw.out _ (List.getElem_mem hkl); omega
          by_cases h4 : 4096 < line.length + (Wd.written l[0]).length
          · have d4 : decide ((4096 : Int) < (line.length : Int) + ((Wd.written l[0]).length : Int)) = true := by simp; omega
            have Hr := hide (Hj1.out (by rw [List.length_append]; omega))
            clear h4
            go_wp2
            go_ret2
            exact StrPost.of (Wd.join_none H64.out Hr.out) rfl (hb.trans (hb5.mono hBr))
          · have d4 : decide ((4096 : Int) < (line.length : Int) + ((Wd.written l[0]).length : Int)) = false := by simp; omega
            have Hr := hide (Hj2.out (by rw [List.length_append]; omega))
            have h4' : line.length + (Wd.written l[0]).length ≤ 4096 := by omega
            clear h4
            go_wp2
            go_roundw
            case rel => exact ⟨1, _, by rw [ba_append], by go_num, by omega, by rw [List.length_append]; omega, hb.trans (hb5.mono hBr), Hr⟩
            case measure => simp [intOf]; omega
        · have dk : decide ((0 : Int) < (k : Int)) = true := by simp; omega
          have Hj1 : Hid (4096 < (line ++ [32] ++ Wd.written l[k]).length → Wd.joinG [] true l = none) := hide (by
            have := (Wd.join_step hkl HH.out).1
            rwa [decide_eq_false h0] at this)
          have Hj2 : Hid (¬ 4096 < (line ++ [32] ++ Wd.written l[k]).length → Wd.joinG (line ++ [32] ++ Wd.written l[k]) (decide (k + 1 = 0)) (l.drop (k + 1)) = Wd.joinG [] true l) := hide (by
            have := (Wd.join_step hkl HH.out).2
            rwa [decide_eq_false h0] at this)
          clear HH
          go_wp2_with fail
          refine (refWritten_any ⟨l[k].toArray⟩ _ (by rw [ba_size]; have := Hw.out _ (List.getElem_mem hkl); omega)).mono ?_
          rintro e w5 ⟨rfl, hb5⟩
          have hwl : (Wd.written l[k]).length ≤ 2000002 := by have := Wd.written_le l[k]; have := Hw.out _ (List.getElem_mem hkl); omega
          by_cases h4 : 4096 < line.length + 1 + (Wd.written l[k]).length
          · have d4 : decide ((4096 : Int) < (line.length : Int) + 1 + ((Wd.written l[k]).length : Int)) = true := by simp; omega
            have Hr := hide (Hj1.out (by rw [List.length_append, List.length_append, List.length_singleton]; omega))
            clear h4
            go_wp2
            go_ret2
            exact StrPost.of (Wd.join_none H64.out Hr.out) rfl (hb.trans (hb5.mono hBr))
          · have d4 : decide ((4096 : Int) < (line.length : Int) + 1 + ((Wd.written l[k]).length : Int)) = false := by simp; omega
            have Hr := hide (Hj2.out (by rw [List.length_append, List.length_append, List.length_singleton]; omega))
            have h4' : line.length + 1 + (Wd.written l[k]).length ≤ 4096 := by omega
            clear h4
            go_wp2
            go_roundw
            case rel => exact ⟨k + 1, _, by rw [show (⟨#[32]⟩ : ByteArray) = ⟨[32].toArray⟩ from rfl, ba_append, ba_append], by go_num, by omega, by rw [List.length_append, List.length_append, List.length_singleton]; omega, hb.trans (hb5.mono hBr), Hr⟩
            case measure => simp [intOf]; omega
      · obtain rfl : k = n := by omega
        have hr := Wd.join_end (l := l) (line := line) (by rw [Hll.out]; exact HH.out)
        have Hr := hide (Wd.join_some H64.out hr)
        clear hr
        go_wp2
        go_ret2
        exact StrPost.of Hr.out rfl hb

end Go.Proofs.YtfjekckcpkkdiaaGreatDoor
