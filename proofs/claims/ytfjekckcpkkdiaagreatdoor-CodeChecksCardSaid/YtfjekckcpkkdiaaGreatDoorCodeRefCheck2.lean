/- Layer 4, the document's own answer to Check: a contract. -/
import Derived.Test.YtfjekckcpkkdiaaGreatDoorCodeRefRight
import Derived.Deep.CutRange
namespace Go.Proofs.YtfjekckcpkkdiaaGreatDoor
open Go.RowKit

set_option maxRecDepth 100000 in
set_option maxHeartbeats 4000000 in
theorem refCheck_any (p : Cd.Pr) (A D : Option Addr) (n c m d B : Nat) (w : World) (hi : Inss w B A n p.code) (hs : Strs w B D m p.strs) (hB : B ≤ w.heap.size) (hn : n ≤ 9223372036854775807) (hm : m ≤ 9223372036854775807) (hl : ∀ x ∈ p.strs, x.length ≤ 9223372036854775807) :
    Calls Tryz.prog 12 #[.agg #[.slice A n c, .slice D m d, .int .i64 p.pages]] w (IntsPost ((Cd.check p).1 : Int) ((Cd.check p).2 : Int) w) := by
  obtain ⟨code, strs, pages⟩ := p
  simp only at hi hs hl
  have hnl := hi.len
  have hml := hs.len
  have O1 := Obl.make w 25 #[.slice A n c, .slice D m d, .int .i64 pages]
  by_cases h1 : 256 < n
  · have HC : Hid (Cd.check ⟨code, strs, pages⟩ = (0, 3)) := hide (Cd.check_limit (.inl (.inl (by simp only; omega))))
    clear hi hs hl
    go_enter Tryz.func12, Tryz.ntmps12
    go_wp2
    go_ret2
    refine IntsPost.pair HC.out rfl ?_
    go_grown
  · by_cases h2 : 32 < m
    · have HC : Hid (Cd.check ⟨code, strs, pages⟩ = (0, 3)) := hide (Cd.check_limit (.inl (.inr (by simp only; omega))))
      clear hi hs hl
      go_enter Tryz.func12, Tryz.ntmps12
      go_wp2
      go_ret2
      refine IntsPost.pair HC.out rfl ?_
      go_grown
    · have hi1 := hi.alloc hB (.cells #[.slice A n c, .slice D m d, .int .i64 pages] 25)
      have hs1 : Strs (w.alloc (.cells #[.slice A n c, .slice D m d, .int .i64 pages] 25)) B D m strs := hs.below ((Below.refl _ _).alloc hB _)
      have HM : Hid (∀ k (h : k < strs.length), strs[k].length ≤ 9223372036854775807) := hide (fun k h => hl _ (List.getElem_mem h))
      have hbw0 : Below w.heap.size w (w.alloc (.cells #[.slice A n c, .slice D m d, .int .i64 pages] 25)) := (Below.refl _ _).alloc (Nat.le_refl _) _
      have hBs : B ≤ (w.alloc (.cells #[.slice A n c, .slice D m d, .int .i64 pages] 25)).heap.size := by simp; omega
      have q0 := O1.cell 0
      have q1 := O1.cell 1
      have q2 := O1.cell 2
      have hsz0 : (w.alloc (.cells #[.slice A n c, .slice D m d, .int .i64 pages] 25)).heap.size = w.heap.size + 1 := by simp
      simp at q0 q1 q2
      clear hl hi hs
      go_enter Tryz.func12, Tryz.ntmps12
      go_wp2_with fail
      go_loop [21] (fun s21 => ∃ k : Nat, s21 = .int .i64 (k : Int) ∧ k ≤ m ∧ Hid ((strs.take k).any (fun s => decide (128 < s.length)) = false)) (fun s21 => m - (intOf s21).toNat)
      case atStart => exact ⟨0, rfl, by omega, hide (by simp)⟩
      case round =>
        obtain ⟨k, rfl, hk, HA⟩ := hrel
        by_cases hlt : k < m
        · obtain ⟨b, o, hkl, rfl, hb, hcell⟩ := hs1.at_ hlt
          have hx : (⟨strs[k].toArray⟩ : ByteArray).size ≤ 9223372036854775807 := by rw [ba_size]; exact HM.out k hkl
          have Hs : Hid ((⟨strs[k].toArray⟩ : ByteArray).size = strs[k].length) := hide (ba_size _)
          have Hsn : Hid (strs.take (k + 1) = strs.take k ++ [strs[k]]) := hide (List.take_succ_eq_append_getElem hkl)
          have Hmem : Hid (strs[k] ∈ strs) := hide (List.getElem_mem hkl)
          generalize strs[k] = x at *
          by_cases hlong : 128 < (⟨x.toArray⟩ : ByteArray).size
          · have HC : Hid (Cd.check ⟨code, strs, pages⟩ = (0, 3)) := hide (Cd.check_limit (.inr (List.any_eq_true.2 ⟨x, Hmem.out, by rw [← Hs.out]; simpa using hlong⟩)))
            generalize (⟨x.toArray⟩ : ByteArray) = xs at *
            go_wp2
            go_ret2
            exact IntsPost.pair HC.out rfl hbw0
          · have HA2 : Hid ((strs.take (k + 1)).any (fun s => decide (128 < s.length)) = false) := hide (by rw [Hsn.out, List.any_append, HA.out]; simp only [List.any_cons, List.any_nil, Bool.or_false, Bool.false_or]; rw [← Hs.out]; exact decide_eq_false hlong)
            generalize (⟨x.toArray⟩ : ByteArray) = xs at *
            go_wp2
            go_round
            case rel => exact ⟨k + 1, by go_num, by omega, HA2⟩
            case measure => simp [intOf]; omega
        · obtain ⟨k0, hk0⟩ : ∃ k0, k0 = k := ⟨k, rfl⟩
          subst hk0
          obtain rfl : k0 = m := by omega
          have HA2 : Hid (strs.any (fun s => decide (128 < s.length)) = false) := hide (by have := HA.out; rwa [List.take_of_length_le (by omega)] at this)
          have HN : Hid (¬ ((256 < code.length ∨ 32 < strs.length) ∨ (strs.any fun s => decide (128 < s.length)) = true)) := hide (by rw [HA2.out]; simp; omega)
          by_cases h3 : pages < 0
          · have HC : Hid (Cd.check ⟨code, strs, pages⟩ = (0, 2)) := hide (Cd.check_range HN.out (.inl h3))
            go_wp2
            go_ret2
            exact IntsPost.pair HC.out rfl hbw0
          · by_cases h4 : 16 < pages
            · have HC : Hid (Cd.check ⟨code, strs, pages⟩ = (0, 2)) := hide (Cd.check_range HN.out (.inr h4))
              go_wp2
              go_ret2
              exact IntsPost.pair HC.out rfl hbw0
            · have HP : Hid (¬ (pages < 0 ∨ 16 < pages)) := hide (by omega)
              clear hs1
              go_wp2_with fail
              go_loopw [40] (fun s40 wr => ∃ k : Nat, s40 = .int .i64 (k : Int) ∧ k ≤ n ∧ Hid (∀ j, (hj : j < k) → (hc : j < code.length) → Cd.right n (code[j]'hc) = true) ∧ Below (w.heap.size + 1) (w.alloc (.cells #[.slice A n c, .slice D k0 d, .int .i64 pages] 25)) wr) (fun s40 _ => n - (intOf s40).toNat)
              case atStart => exact ⟨0, rfl, by omega, hide (fun j hj => absurd hj (by omega)), by simpa using Below.refl _ _⟩
              case round =>
                obtain ⟨k, rfl, hk, HR, hb⟩ := hrel
                have O1' := O1.below hb (by omega)
                have p0 := O1'.cell 0
                simp at p0
                have hbw : Below w.heap.size w wr := ((Below.refl _ _).alloc (Nat.le_refl _) _).trans (hb.mono (by omega))
                have hsz := hb.size
                simp at hsz
                by_cases hlt : k < n
                · obtain ⟨bb, oo, hkl, rfl, hbb, c0, c1, c2, c3⟩ := (hi1.belowLe hb (by omega)).at_ hlt
                  have hbx : Below (w.heap.size + 1) (w.alloc (.cells #[.slice (some ⟨bb, oo, none⟩) n c, .slice D k0 d, .int .i64 pages] 25)) (wr.alloc (.cells #[.int .i64 code[k].op, .int .i64 code[k].a, .int .i64 code[k].b, .int .i64 code[k].c] 32)) := hb.alloc hsz _
                  have p0' := (O1'.alloc (.cells #[.int .i64 code[k].op, .int .i64 code[k].a, .int .i64 code[k].b, .int .i64 code[k].c] 32)).cell 0
                  simp at p0'
                  have HLen := hide hnl
                  cases hr : Cd.right n code[k] with
                  | true =>
                    have HR2 : Hid (∀ j, (hj : j < k + 1) → (hc : j < code.length) → Cd.right n (code[j]'hc) = true) := hide (fun j hj hc => by
                      rcases Nat.lt_or_ge j k with g | g
                      · exact HR.out j g hc
                      · obtain rfl : j = k := by omega
                        exact hr)
                    have HX := hide hr
                    clear hr
                    generalize code[k] = x at *
                    go_wp2_with fail
                    refine (refRight_any x n _).mono ?_
                    rintro e w2 ⟨rfl, hb2⟩
                    rw [HX.out]
                    have hb3 := hbx.trans (hb2.mono (by simp; omega))
                    go_wp2
                    go_roundw
                    case rel => exact ⟨k + 1, by go_num, by omega, HR2, hb3⟩
                    case measure => simp [intOf]; omega
                  | false =>
                    have HC : Hid (Cd.check ⟨code, strs, pages⟩ = (k, 1)) := hide (Cd.check_bad HN.out HP.out hkl (right_len' HLen.out hr) (fun j hj => right_len HLen.out (HR.out j hj (by omega))))
                    have HX := hide hr
                    clear hr
                    generalize code[k] = x at *
                    go_wp2_with fail
                    refine (refRight_any x n _).mono ?_
                    rintro e w2 ⟨rfl, hb2⟩
                    rw [HX.out]
                    have hb3 := hbx.trans (hb2.mono (by simp; omega))
                    go_wp2
                    go_ret2
                    exact IntsPost.pair HC.out rfl (((Below.refl _ _).alloc (Nat.le_refl _) _).trans (hb3.mono (by omega)))
                · obtain rfl : k = n := by omega
                  have HC : Hid (Cd.check ⟨code, strs, pages⟩ = (0, 0)) := hide (Cd.check_ok HN.out HP.out (fun j hj => right_len hnl (HR.out j (by simp only at hj; omega) hj)))
                  go_wp2
                  go_ret2
                  exact IntsPost.pair HC.out rfl hbw
end Go.Proofs.YtfjekckcpkkdiaaGreatDoor
