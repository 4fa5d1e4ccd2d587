/- Layer 4, code.Check and the document's own answer: contracts. -/
import Derived.Test.YtfjekckcpkkdiaaGreatDoorCodeOps
namespace Go.Proofs.YtfjekckcpkkdiaaGreatDoor
open Go.RowKit

set_option maxRecDepth 100000 in
set_option maxHeartbeats 2000000 in
theorem isRight_any (x : Cd.Ins) (n : Nat) (w : World) (hL : LaidO w) :
    Calls Tryz.prog 25 #[ia x, .int .i64 (n : Int)] w fun e w' => e = .returned (.bool (Cd.right n x)) ∧ Below w.heap.size w w' := by
  obtain ⟨op, a, b, c⟩ := x
  unfold ia
  simp only
  have O1 := Obl.make w 32 #[.int .i64 op, .int .i64 a, .int .i64 b, .int .i64 c]
  by_cases h0 : op < 0
  · rw [right_not (x := ⟨op, a, b, c⟩) (.inl h0)]
    go_enter Tryz.func25, Tryz.ntmps25
    go_wp2
    go_ret
    refine ⟨rfl, ?_⟩
    go_grown
  · by_cases h12 : 12 < op
    · rw [right_not (x := ⟨op, a, b, c⟩) (.inr h12)]
      go_enter Tryz.func25, Tryz.ntmps25
      go_wp2
      go_ret
      refine ⟨rfl, ?_⟩
      go_grown
    · obtain ⟨k, rfl⟩ := Int.eq_ofNat_of_zero_le (show 0 ≤ op by omega)
      have hk : k < 13 := by omega
      obtain ⟨nm, f, ls, ms, ho, hf3, hnm5, hall⟩ := opn_open hk
      have HR := hide (right_op (n := n) hk a b c ho)
      have HL0 := hide hL
      have HA := hide hall
      clear hL hall ho h0 h12
      have hb0 : Below w.heap.size w (w.alloc (.cells #[.int .i64 (k : Int), .int .i64 a, .int .i64 b, .int .i64 c] 32)) := (Below.refl _ _).alloc (Nat.le_refl _) _
      have HL1 : Hid (LaidO (w.alloc (.cells #[.int .i64 (k : Int), .int .i64 a, .int .i64 b, .int .i64 c] 32))) := hide (HL0.out.alloc _)
      have hlt0 := HL0.out.lt
      have i0 : ∀ w, (Instr.index 88 (.agg #[.int .i64 a, .int .i64 b, .int .i64 c]) (.int .i64 0)).run Tryz.prog w = .ok (.int .i64 a) w := fun _ => by kernel_rfl
      have i1 : ∀ w, (Instr.index 88 (.agg #[.int .i64 a, .int .i64 b, .int .i64 c]) (.int .i64 1)).run Tryz.prog w = .ok (.int .i64 b) w := fun _ => by kernel_rfl
      have i2 : ∀ w, (Instr.index 88 (.agg #[.int .i64 a, .int .i64 b, .int .i64 c]) (.int .i64 2)).run Tryz.prog w = .ok (.int .i64 c) w := fun _ => by kernel_rfl
      go_enter Tryz.func25, Tryz.ntmps25
      go_wp2_with fail
      refine (valuesOf_any ⟨(k : Int), a, b, c⟩ _).mono ?_
      rintro e w1 ⟨rfl, hb1⟩
      go_wp2_with fail
      go_loopw [19] (fun s19 wr => ∃ j : Nat, s19 = .int .i64 (j : Int) ∧ j ≤ 3 ∧ Hid (fitsTo ⟨nm.data.toList, f.data.toList, ls, ms⟩ n a b c j) ∧ Below (w.heap.size + 1) (w.alloc (.cells #[.int .i64 (k : Int), .int .i64 a, .int .i64 b, .int .i64 c] 32)) wr) (fun s19 _ => 3 - (intOf s19).toNat)
      case atStart => exact ⟨0, rfl, by omega, hide ⟨by omega, by omega, by omega⟩, by simpa using hb1⟩
      case round =>
        obtain ⟨j, rfl, hj, HF, hb⟩ := hrel
        have O1' := O1.below hb (by omega)
        have p0 := O1'.cell 0
        simp at p0
        have hLr := HL1.out.belowLe (by omega) hb
        obtain ⟨c0, c1, c2, c3⟩ := HA.out _ hLr
        have hbw : Below w.heap.size w wr := hb0.trans (hb.mono (by omega))
        have hsz := hb.size
        simp at hsz
        clear hLr
        by_cases hlt : j < 3
        · rcases (show j = 0 ∨ j = 1 ∨ j = 2 by omega) with rfl | rfl | rfl
          · go_wp2_with fail
            refine (bounds_any nm f ls ms 0 n 0 _ (by omega) (by omega) rfl).mono ?_
            rintro e w2 ⟨rfl, hb2⟩
            have hbw2 := hbw.trans (hb2.mono (by omega))
            have hb2' := hb.trans (hb2.mono (by omega))
            by_cases hlo : a < (Cd.bnd ⟨nm.data.toList, f.data.toList, ls, ms⟩ n 0).1
            · have HN : Hid (Cd.right n ⟨(k : Int), a, b, c⟩ = false) := hide (by rw [HR.out, fits_no (.inl hlo)]; rfl)
              generalize (Cd.bnd ⟨nm.data.toList, f.data.toList, ls, ms⟩ n 0).1 = lo at *
              generalize (Cd.bnd ⟨nm.data.toList, f.data.toList, ls, ms⟩ n 0).2 = hi at *
              go_wp2
              go_ret
              exact ⟨ret_bool HN.out.symm, hbw2⟩
            · by_cases hhi : (Cd.bnd ⟨nm.data.toList, f.data.toList, ls, ms⟩ n 0).2 < a
              · have HN : Hid (Cd.right n ⟨(k : Int), a, b, c⟩ = false) := hide (by rw [HR.out, fits_no (.inr hhi)]; rfl)
                generalize (Cd.bnd ⟨nm.data.toList, f.data.toList, ls, ms⟩ n 0).1 = lo at *
                generalize (Cd.bnd ⟨nm.data.toList, f.data.toList, ls, ms⟩ n 0).2 = hi at *
                go_wp2
                go_ret
                exact ⟨ret_bool HN.out.symm, hbw2⟩
              · have HY : Hid (fitsTo ⟨nm.data.toList, f.data.toList, ls, ms⟩ n a b c 1) := hide ⟨fun _ => fits_yes hlo hhi, by omega, by omega⟩
                generalize (Cd.bnd ⟨nm.data.toList, f.data.toList, ls, ms⟩ n 0).1 = lo at *
                generalize (Cd.bnd ⟨nm.data.toList, f.data.toList, ls, ms⟩ n 0).2 = hi at *
                go_wp2
                go_roundw
                case rel => exact ⟨1, rfl, by omega, HY, hb2'⟩
                case measure => simp [intOf]
          · go_wp2_with fail
            refine (bounds_any nm f ls ms 1 n 1 _ (by omega) (by omega) rfl).mono ?_
            rintro e w2 ⟨rfl, hb2⟩
            have hbw2 := hbw.trans (hb2.mono (by omega))
            have hb2' := hb.trans (hb2.mono (by omega))
            by_cases hlo : b < (Cd.bnd ⟨nm.data.toList, f.data.toList, ls, ms⟩ n 1).1
            · have HN : Hid (Cd.right n ⟨(k : Int), a, b, c⟩ = false) := hide (by rw [HR.out, fits_no (.inl hlo)]; simp)
              generalize (Cd.bnd ⟨nm.data.toList, f.data.toList, ls, ms⟩ n 1).1 = lo at *
              generalize (Cd.bnd ⟨nm.data.toList, f.data.toList, ls, ms⟩ n 1).2 = hi at *
              go_wp2
              go_ret
              exact ⟨ret_bool HN.out.symm, hbw2⟩
            · by_cases hhi : (Cd.bnd ⟨nm.data.toList, f.data.toList, ls, ms⟩ n 1).2 < b
              · have HN : Hid (Cd.right n ⟨(k : Int), a, b, c⟩ = false) := hide (by rw [HR.out, fits_no (.inr hhi)]; simp)
                generalize (Cd.bnd ⟨nm.data.toList, f.data.toList, ls, ms⟩ n 1).1 = lo at *
                generalize (Cd.bnd ⟨nm.data.toList, f.data.toList, ls, ms⟩ n 1).2 = hi at *
                go_wp2
                go_ret
                exact ⟨ret_bool HN.out.symm, hbw2⟩
              · have HY : Hid (fitsTo ⟨nm.data.toList, f.data.toList, ls, ms⟩ n a b c 2) := hide ⟨fun _ => HF.out.1 (by omega), fun _ => fits_yes hlo hhi, by omega⟩
                generalize (Cd.bnd ⟨nm.data.toList, f.data.toList, ls, ms⟩ n 1).1 = lo at *
                generalize (Cd.bnd ⟨nm.data.toList, f.data.toList, ls, ms⟩ n 1).2 = hi at *
                go_wp2
                go_roundw
                case rel => exact ⟨2, rfl, by omega, HY, hb2'⟩
                case measure => simp [intOf]
          · go_wp2_with fail
            refine (bounds_any nm f ls ms 2 n 2 _ (by omega) (by omega) rfl).mono ?_
            rintro e w2 ⟨rfl, hb2⟩
            have hbw2 := hbw.trans (hb2.mono (by omega))
            have hb2' := hb.trans (hb2.mono (by omega))
            by_cases hlo : c < (Cd.bnd ⟨nm.data.toList, f.data.toList, ls, ms⟩ n 2).1
            · have HN : Hid (Cd.right n ⟨(k : Int), a, b, c⟩ = false) := hide (by rw [HR.out, fits_no (.inl hlo)]; simp)
              generalize (Cd.bnd ⟨nm.data.toList, f.data.toList, ls, ms⟩ n 2).1 = lo at *
              generalize (Cd.bnd ⟨nm.data.toList, f.data.toList, ls, ms⟩ n 2).2 = hi at *
              go_wp2
              go_ret
              exact ⟨ret_bool HN.out.symm, hbw2⟩
            · by_cases hhi : (Cd.bnd ⟨nm.data.toList, f.data.toList, ls, ms⟩ n 2).2 < c
              · have HN : Hid (Cd.right n ⟨(k : Int), a, b, c⟩ = false) := hide (by rw [HR.out, fits_no (.inr hhi)]; simp)
                generalize (Cd.bnd ⟨nm.data.toList, f.data.toList, ls, ms⟩ n 2).1 = lo at *
                generalize (Cd.bnd ⟨nm.data.toList, f.data.toList, ls, ms⟩ n 2).2 = hi at *
                go_wp2
                go_ret
                exact ⟨ret_bool HN.out.symm, hbw2⟩
              · have HY : Hid (fitsTo ⟨nm.data.toList, f.data.toList, ls, ms⟩ n a b c 3) := hide ⟨fun _ => HF.out.1 (by omega), fun _ => HF.out.2.1 (by omega), fun _ => fits_yes hlo hhi⟩
                generalize (Cd.bnd ⟨nm.data.toList, f.data.toList, ls, ms⟩ n 2).1 = lo at *
                generalize (Cd.bnd ⟨nm.data.toList, f.data.toList, ls, ms⟩ n 2).2 = hi at *
                go_wp2
                go_roundw
                case rel => exact ⟨3, rfl, by omega, HY, hb2'⟩
                case measure => simp [intOf]
        · obtain rfl : j = 3 := by omega
          have HN : Hid (Cd.right n ⟨(k : Int), a, b, c⟩ = true) := hide (by
            obtain ⟨g1, g2, g3⟩ := HF.out
            rw [HR.out, g1 (by omega), g2 (by omega), g3 (by omega)]; rfl)
          go_wp2
          go_ret
          exact ⟨ret_bool HN.out.symm, hbw⟩

theorem IntsPost.pair {r : Nat × Nat} {x y : Nat} {w w' : World} {e : Ending} (hr : r = (x, y)) (he : e = .returned (.tuple #[.int .i64 (x : Int), .int .i64 (y : Int)])) (hb : Below w.heap.size w w') : IntsPost (r.1 : Int) (r.2 : Int) w e w' := by subst hr; exact ⟨he, hb⟩
theorem below_boxed {w w' : World} {o : Obj} (h : Below (w.alloc o).heap.size (w.alloc o) w') : Below w.heap.size w w' := ((Below.refl _ _).alloc (Nat.le_refl _) _).trans (h.mono (by simp))

theorem right_len {code : List Cd.Ins} {n : Nat} (h : code.length = n) {x : Cd.Ins} (hx : Cd.right n x = true) : Cd.right code.length x = true := by rw [h]; exact hx
theorem right_len' {code : List Cd.Ins} {n : Nat} (h : code.length = n) {x : Cd.Ins} (hx : Cd.right n x = false) : Cd.right code.length x = false := by rw [h]; exact hx
set_option maxRecDepth 100000 in
set_option maxHeartbeats 4000000 in
theorem check_any (p : Cd.Pr) (A D : Option Addr) (n c m d B : Nat) (w : World) (hi : Inss w B A n p.code) (hs : Strs w B D m p.strs) (hB : B ≤ w.heap.size) (hn : n ≤ 9223372036854775807) (hm : m ≤ 9223372036854775807) (hl : ∀ x ∈ p.strs, x.length ≤ 9223372036854775807) (hL : LaidO w) :
    Calls Tryz.prog 11 #[.agg #[.slice A n c, .slice D m d, .int .i64 p.pages]] w (IntsPost ((Cd.check p).1 : Int) ((Cd.check p).2 : Int) w) := by
  obtain ⟨code, strs, pages⟩ := p
  simp only at hi hs hl
  have hnl := hi.len
  have hml := hs.len
  have O1 := Obl.make w 25 #[.slice A n c, .slice D m d, .int .i64 pages]
  by_cases h1 : 256 < n
  · have HC : Hid (Cd.check ⟨code, strs, pages⟩ = (0, 3)) := hide (Cd.check_limit (.inl (.inl (by simp only; omega))))
    clear hi hs hl hL
    go_enter Tryz.func11, Tryz.ntmps11
    go_wp2
    go_ret2
    refine IntsPost.pair HC.out rfl ?_
    go_grown
  · by_cases h2 : 32 < m
    · have HC : Hid (Cd.check ⟨code, strs, pages⟩ = (0, 3)) := hide (Cd.check_limit (.inl (.inr (by simp only; omega))))
      clear hi hs hl hL
      go_enter Tryz.func11, Tryz.ntmps11
      go_wp2
      go_ret2
      refine IntsPost.pair HC.out rfl ?_
      go_grown
    · have hi1 := hi.alloc hB (.cells #[.slice A n c, .slice D m d, .int .i64 pages] 25)
      have hs1 : Strs (w.alloc (.cells #[.slice A n c, .slice D m d, .int .i64 pages] 25)) B D m strs := hs.below ((Below.refl _ _).alloc hB _)
      have HL1 := hide (hL.alloc (.cells #[.slice A n c, .slice D m d, .int .i64 pages] 25))
      have HM := hide hl
      have hlt0 := hL.lt
      clear hl hL hi hs
      cases hany : strs.any (fun s => decide (128 < s.length)) with
      | true =>
        have HC : Hid (Cd.check ⟨code, strs, pages⟩ = (0, 3)) := hide (Cd.check_limit (.inr hany))
        have HA := hide hany
        clear hany
        go_enter Tryz.func11, Tryz.ntmps11
        go_wp2_with fail
        refine (containsFunc_any D m d B strs _ hs1 hm HM.out).mono ?_
        rintro e w1 ⟨rfl, rfl⟩
        rw [HA.out]
        go_wp2
        go_ret2
        refine IntsPost.pair HC.out rfl ?_
        go_grown
      | false =>
        have HA := hide hany
        have HN : Hid (¬ ((256 < code.length ∨ 32 < strs.length) ∨ (strs.any fun s => decide (128 < s.length)) = true)) := hide (by rw [hany]; simp; omega)
        clear hany
        by_cases h3 : pages < 0
        · have HC : Hid (Cd.check ⟨code, strs, pages⟩ = (0, 2)) := hide (Cd.check_range HN.out (.inl h3))
          go_enter Tryz.func11, Tryz.ntmps11
          go_wp2_with fail
          refine (containsFunc_any D m d B strs _ hs1 hm HM.out).mono ?_
          rintro e w1 ⟨rfl, rfl⟩
          rw [HA.out]
          go_wp2
          go_ret2
          refine IntsPost.pair HC.out rfl ?_
          go_grown
        · by_cases h4 : 16 < pages
          · have HC : Hid (Cd.check ⟨code, strs, pages⟩ = (0, 2)) := hide (Cd.check_range HN.out (.inr h4))
            go_enter Tryz.func11, Tryz.ntmps11
            go_wp2_with fail
            refine (containsFunc_any D m d B strs _ hs1 hm HM.out).mono ?_
            rintro e w1 ⟨rfl, rfl⟩
            rw [HA.out]
            go_wp2
            go_ret2
            refine IntsPost.pair HC.out rfl ?_
            go_grown
          · have HP : Hid (¬ (pages < 0 ∨ 16 < pages)) := hide (by omega)
            go_enter Tryz.func11, Tryz.ntmps11
            go_wp2_with fail
            refine (containsFunc_any D m d B strs _ hs1 hm HM.out).mono ?_
            rintro e w1 ⟨rfl, rfl⟩
            rw [HA.out]
            clear hs1
            go_wp2_with fail
            go_loopw [32] (fun s32 wr => ∃ k : Nat, s32 = .int .i64 (k : Int) ∧ k ≤ n ∧ Hid (∀ j, (hj : j < k) → (hc : j < code.length) → Cd.right n (code[j]'hc) = true) ∧ Below (w.heap.size + 1) (w.alloc (.cells #[.slice A n c, .slice D m d, .int .i64 pages] 25)) wr) (fun s32 _ => n - (intOf s32).toNat)
            case atStart => exact ⟨0, rfl, by omega, hide (fun j hj => absurd hj (by omega)), by simpa using Below.refl _ _⟩
            case round =>
              obtain ⟨k, rfl, hk, HR, hb⟩ := hrel
              have O1' := O1.below hb (by omega)
              have p0 := O1'.cell 0
              simp at p0
              have hbw : Below w.heap.size w wr := ((Below.refl _ _).alloc (Nat.le_refl _) _).trans (hb.mono (by omega))
              have hsz := hb.size
              simp at hsz
              by_cases hlt : k < n
              · obtain ⟨bb, oo, hkl, rfl, hbb, c0, c1, c2, c3⟩ := (hi1.belowLe hb (by omega)).at_ hlt
                have HLr : Hid (LaidO (wr.alloc (.cells #[.int .i64 code[k].op, .int .i64 code[k].a, .int .i64 code[k].b, .int .i64 code[k].c] 32))) := hide ((HL1.out.belowLe (by omega) hb).alloc _)
                have hbx : Below (w.heap.size + 1) (w.alloc (.cells #[.slice (some ⟨bb, oo, none⟩) n c, .slice D m d, .int .i64 pages] 25)) (wr.alloc (.cells #[.int .i64 code[k].op, .int .i64 code[k].a, .int .i64 code[k].b, .int .i64 code[k].c] 32)) := hb.alloc hsz _
                have p0' := (O1'.alloc (.cells #[.int .i64 code[k].op, .int .i64 code[k].a, .int .i64 code[k].b, .int .i64 code[k].c] 32)).cell 0
                simp at p0'
                have HLen := hide hnl
                cases hr : Cd.right n code[k] with
                | true =>
                  have HR2 : Hid (∀ j, (hj : j < k + 1) → (hc : j < code.length) → Cd.right n (code[j]'hc) = true) := hide (fun j hj hc => by
                    rcases Nat.lt_or_ge j k with g | g
                    · exact HR.out j g hc
                    · obtain rfl : j = k := by omega
                      exact hr)
                  have HX := hide hr
                  clear hr
                  generalize code[k] = x at *
                  go_wp2_with fail
                  refine (isRight_any x n _ HLr.out).mono ?_
                  rintro e w2 ⟨rfl, hb2⟩
                  rw [HX.out]
                  have hb3 := hbx.trans (hb2.mono (by simp; omega))
                  go_wp2
                  go_roundw
                  case rel => exact ⟨k + 1, by go_num, by omega, HR2, hb3⟩
                  case measure => simp [intOf]; omega
                | false =>
                  have HC : Hid (Cd.check ⟨code, strs, pages⟩ = (k, 1)) := hide (Cd.check_bad HN.out HP.out hkl (right_len' HLen.out hr) (fun j hj => right_len HLen.out (HR.out j hj (by omega))))
                  have HX := hide hr
                  clear hr
                  generalize code[k] = x at *
                  go_wp2_with fail
                  refine (isRight_any x n _ HLr.out).mono ?_
                  rintro e w2 ⟨rfl, hb2⟩
                  rw [HX.out]
                  have hb3 := hbx.trans (hb2.mono (by simp; omega))
                  go_wp2
                  go_ret2
                  exact IntsPost.pair HC.out rfl (((Below.refl _ _).alloc (Nat.le_refl _) _).trans (hb3.mono (by omega)))
              · obtain rfl : k = n := by omega
                have HC : Hid (Cd.check ⟨code, strs, pages⟩ = (0, 0)) := hide (Cd.check_ok HN.out HP.out (fun j hj => right_len hnl (HR.out j (by simp only at hj; omega) hj)))
                go_wp2
                go_ret2
                exact IntsPost.pair HC.out rfl hbw
end Go.Proofs.YtfjekckcpkkdiaaGreatDoor
