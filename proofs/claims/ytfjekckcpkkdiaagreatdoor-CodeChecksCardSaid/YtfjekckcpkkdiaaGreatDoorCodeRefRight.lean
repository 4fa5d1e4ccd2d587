/- Layer 4, the document's own answer to which instruction is right: a contract. -/
import Derived.Test.YtfjekckcpkkdiaaGreatDoorCodeRefCheck
namespace Go.Proofs.YtfjekckcpkkdiaaGreatDoor
open Go.RowKit

set_option maxRecDepth 100000 in
set_option maxHeartbeats 4000000 in
theorem refRight_any (x : Cd.Ins) (n : Nat) (w : World) :
    Calls Tryz.prog 26 #[ia x, .int .i64 (n : Int)] w fun e w' => e = .returned (.bool (Cd.right n x)) ∧ Below w.heap.size w w' := by
  obtain ⟨op, a, b, c⟩ := x
  unfold ia
  simp only
  have O1 := Obl.make w 32 #[.int .i64 op, .int .i64 a, .int .i64 b, .int .i64 c]
  have hb0 : Below w.heap.size w (w.alloc (.cells #[.int .i64 op, .int .i64 a, .int .i64 b, .int .i64 c] 32)) := (Below.refl _ _).alloc (Nat.le_refl _) _
  by_cases hout : op < 0 ∨ 12 < op
  · rw [right_not (x := ⟨op, a, b, c⟩) hout]
    have hempty : Hid ((⟨(Cd.opn op).name.toArray⟩ : ByteArray).toList.isEmpty = true) := hide (by rw [opn_none hout, Lib.toList_data]; rfl)
    clear hout
    go_enter Tryz.func26, Tryz.ntmps26
    go_wp2_with fail
    refine (form_any op _).mono ?_
    rintro e w1 ⟨rfl, hb1⟩
    have hbw := hb0.trans (hb1.mono (by simp))
    generalize (⟨(Cd.opn op).name.toArray⟩ : ByteArray) = nm at *
    generalize (⟨(Cd.opn op).form.toArray⟩ : ByteArray) = f at *
    have he := hempty.out
    go_wp2
    go_ret
    exact ⟨rfl, hbw⟩
  · obtain ⟨k, rfl⟩ := Int.eq_ofNat_of_zero_le (show 0 ≤ op by omega)
    have hk : k < 13 := by omega
    have HR := hide (right_op (n := n) hk a b c (o := Cd.opn (k : Int)) rfl)
    have hf3 : (⟨(Cd.opn (k : Int)).form.toArray⟩ : ByteArray).size ≤ 3 := by rw [ba_size]; exact Cd.form_le _
    have HLt := hide (letters (op := (k : Int)) (by omega) (by omega))
    have HNb := hide (num_bounds k hk)
    have hempty : Hid ((⟨(Cd.opn (k : Int)).name.toArray⟩ : ByteArray).toList.isEmpty = false) := hide (by
      rw [Lib.toList_data]
      have := (Cd.name_ok (op := (k : Int)) (by omega) (by omega)).2.1
      simpa using this)
    clear hout
    go_enter Tryz.func26, Tryz.ntmps26
    go_wp2_with fail
    refine (form_any (k : Int) _).mono ?_
    rintro e w1 ⟨rfl, hb1⟩
    have O1' := (O1.below hb1 (by simp)).alloc (.cells #[.int .i64 a, .int .i64 b, .int .i64 c] 3)
    have hsz := hb1.size
    simp at hsz
    have hbw : Below w.heap.size w (w1.alloc (.cells #[.int .i64 a, .int .i64 b, .int .i64 c] 3)) := (hb0.trans (hb1.mono (by simp))).alloc (by omega) _
    have O2 := O1.below hb1 (by simp)
    have q0 := O1'.cell 0
    have d1 := O2.cell 1
    have d2 := O2.cell 2
    have d3 := O2.cell 3
    simp at q0 d1 d2 d3
    clear O1 O1' O2 hb1 hb0
    obtain ⟨nm, f, ls, ms, ho, hnm, hf⟩ : ∃ (nm f : ByteArray) (ls ms : Int), Cd.opn (k : Int) = ⟨nm.data.toList, f.data.toList, ls, ms⟩ ∧ (⟨(Cd.opn (k : Int)).name.toArray⟩ : ByteArray) = nm ∧ (⟨(Cd.opn (k : Int)).form.toArray⟩ : ByteArray) = f :=
      ⟨⟨(Cd.opn (k : Int)).name.toArray⟩, ⟨(Cd.opn (k : Int)).form.toArray⟩, (Cd.opn (k : Int)).least, (Cd.opn (k : Int)).most, rfl, rfl, rfl⟩
    rw [hf] at hf3
    rw [hnm] at hempty
    rw [hnm, hf]
    rw [ho] at HR HLt HNb
    clear ho hnm hf
    have he := hempty.out
    have hfl : Hid (f.data.toList.length = f.size) := hide (Lib.size_eq f).symm
    go_wp2_with fail
    go_loop [25] (fun s25 => ∃ j : Nat, s25 = .int .i64 (j : Int) ∧ j ≤ 3 ∧ Hid (fitsTo ⟨nm.data.toList, f.data.toList, ls, ms⟩ n a b c j)) (fun s25 => 3 - (intOf s25).toNat)
    case atStart => exact ⟨0, rfl, by omega, hide ⟨by omega, by omega, by omega⟩⟩
    case round =>
      obtain ⟨j, rfl, hj, HF⟩ := hrel
      by_cases hlt : j < 3
      · rcases (show j = 0 ∨ j = 1 ∨ j = 2 by omega) with rfl | rfl | rfl
        · by_cases hjf : 0 < f.size
          · have hne : ¬ f = ByteArray.empty := by rintro rfl; simp at hjf
            have hat := hide (str_at hjf)
            rcases HLt.out f[0] (List.mem_of_getElem? hat.out) with hc | hc | hc
            · have e1 : ((f[0].toNat : Int) == 114) = true := by rw [hc]; rfl
              have e2 : ((f[0].toNat : Int) == 116) = false := by rw [hc]; rfl
              have e3 : ((f[0].toNat : Int) == 110) = false := by rw [hc]; rfl
              have HFt := hide (fits_at (nm := nm.data.toList) (ls := ls) (ms := ms) (n := n) (v := a) (hat.out.trans (congrArg some hc)))
              clear hc
              by_cases hlo : a < 0
              · skip
                have HN : Hid (Cd.right n ⟨(k : Int), a, b, c⟩ = false) := hide (by
                  have hno : Cd.fits ⟨nm.data.toList, f.data.toList, ls, ms⟩ n 0 a = false := by rw [HFt.out, if_pos rfl, decide_eq_false (p := 0 ≤ _) (by omega)]; rfl
                  rw [HR.out, hno]; rfl)
                go_wp2
                all_goals
                  go_ret
                  exact ⟨ret_bool HN.out.symm, hbw⟩
              · by_cases hhi : 8 ≤ a
                · skip
                  have HN : Hid (Cd.right n ⟨(k : Int), a, b, c⟩ = false) := hide (by
                    have hno : Cd.fits ⟨nm.data.toList, f.data.toList, ls, ms⟩ n 0 a = false := by rw [HFt.out, if_pos rfl, decide_eq_false (p := _ ≤ 7) (by omega)]; simp
                    rw [HR.out, hno]; rfl)
                  go_wp2
                  all_goals
                    go_ret
                    exact ⟨ret_bool HN.out.symm, hbw⟩
                · skip
                  have HY : Hid (fitsTo ⟨nm.data.toList, f.data.toList, ls, ms⟩ n a b c 1) := hide (by
                    have hyes : Cd.fits ⟨nm.data.toList, f.data.toList, ls, ms⟩ n 0 a = true := by rw [HFt.out, if_pos rfl, decide_eq_true (by omega), decide_eq_true (by omega)]; rfl
                    exact ⟨fun _ => hyes, by omega, by omega⟩)
                  go_wp2
                  all_goals go_round
                  all_goals first | exact ⟨1, rfl, by omega, HY⟩ | simp [intOf]
            · have e1 : ((f[0].toNat : Int) == 114) = false := by rw [hc]; rfl
              have e2 : ((f[0].toNat : Int) == 116) = true := by rw [hc]; rfl
              have e3 : ((f[0].toNat : Int) == 110) = false := by rw [hc]; rfl
              have HFt := hide (fits_at (nm := nm.data.toList) (ls := ls) (ms := ms) (n := n) (v := a) (hat.out.trans (congrArg some hc)))
              clear hc
              by_cases hlo : a < 0
              · skip
                have HN : Hid (Cd.right n ⟨(k : Int), a, b, c⟩ = false) := hide (by
                  have hno : Cd.fits ⟨nm.data.toList, f.data.toList, ls, ms⟩ n 0 a = false := by rw [HFt.out, if_neg (by decide), if_pos rfl, decide_eq_false (p := 0 ≤ _) (by omega)]; rfl
                  rw [HR.out, hno]; rfl)
                go_wp2
                all_goals
                  go_ret
                  exact ⟨ret_bool HN.out.symm, hbw⟩
              · by_cases hhi : (n : Int) < a
                · skip
                  have HN : Hid (Cd.right n ⟨(k : Int), a, b, c⟩ = false) := hide (by
                    have hno : Cd.fits ⟨nm.data.toList, f.data.toList, ls, ms⟩ n 0 a = false := by rw [HFt.out, if_neg (by decide), if_pos rfl, decide_eq_false (p := _ ≤ (n : Int)) (by omega)]; simp
                    rw [HR.out, hno]; rfl)
                  go_wp2
                  all_goals
                    go_ret
                    exact ⟨ret_bool HN.out.symm, hbw⟩
                · skip
                  have HY : Hid (fitsTo ⟨nm.data.toList, f.data.toList, ls, ms⟩ n a b c 1) := hide (by
                    have hyes : Cd.fits ⟨nm.data.toList, f.data.toList, ls, ms⟩ n 0 a = true := by rw [HFt.out, if_neg (by decide), if_pos rfl, decide_eq_true (by omega), decide_eq_true (by omega)]; rfl
                    exact ⟨fun _ => hyes, by omega, by omega⟩)
                  go_wp2
                  all_goals go_round
                  all_goals first | exact ⟨1, rfl, by omega, HY⟩ | simp [intOf]
            · have e1 : ((f[0].toNat : Int) == 114) = false := by rw [hc]; rfl
              have e2 : ((f[0].toNat : Int) == 116) = false := by rw [hc]; rfl
              have e3 : ((f[0].toNat : Int) == 110) = true := by rw [hc]; rfl
              have HFt := hide (fits_at (nm := nm.data.toList) (ls := ls) (ms := ms) (n := n) (v := a) (hat.out.trans (congrArg some hc)))
              have HNu := hide (HNb.out (List.mem_of_getElem? (hat.out.trans (congrArg some hc))) a)
              clear hc
              cases hr : refNum (k : Int) a with
              | false =>
                have HN : Hid (Cd.right n ⟨(k : Int), a, b, c⟩ = false) := hide (by
                  have hno : Cd.fits ⟨nm.data.toList, f.data.toList, ls, ms⟩ n 0 a = false := by rw [HFt.out, if_neg (by decide), if_neg (by decide)]; exact HNu.out.symm.trans hr
                  rw [HR.out, hno]; rfl)
                have HX := hide hr
                clear hr
                go_wp2_with fail
                refine (refNum_any (k : Int) a _).mono ?_
                rintro e w2 ⟨rfl, rfl⟩
                rw [HX.out]
                go_wp2
                all_goals
                  go_ret
                  exact ⟨ret_bool HN.out.symm, hbw⟩
              | true =>
                have HY : Hid (fitsTo ⟨nm.data.toList, f.data.toList, ls, ms⟩ n a b c 1) := hide (by
                  have hyes : Cd.fits ⟨nm.data.toList, f.data.toList, ls, ms⟩ n 0 a = true := by rw [HFt.out, if_neg (by decide), if_neg (by decide)]; exact HNu.out.symm.trans hr
                  exact ⟨fun _ => hyes, by omega, by omega⟩)
                have HX := hide hr
                clear hr
                go_wp2_with fail
                refine (refNum_any (k : Int) a _).mono ?_
                rintro e w2 ⟨rfl, rfl⟩
                rw [HX.out]
                go_wp2
                all_goals go_round
                all_goals first | exact ⟨1, rfl, by omega, HY⟩ | simp [intOf]
          · have HFt := hide (fits_end (nm := nm.data.toList) (f := f.data.toList) (ls := ls) (ms := ms) (n := n) (i := 0) (v := a) (by rw [hfl.out]; omega))
            obtain rfl : f = ByteArray.empty := by
              apply ByteArray.ext
              apply Array.eq_empty_of_size_eq_zero
              have : f.size = 0 := by omega
              exact this
            by_cases hz : a = 0
            · skip
              have HY : Hid (fitsTo ⟨nm.data.toList, ByteArray.empty.data.toList, ls, ms⟩ n a b c 1) := hide (by
                have hyes : Cd.fits ⟨nm.data.toList, ByteArray.empty.data.toList, ls, ms⟩ n 0 a = true := by rw [HFt.out, decide_eq_true hz]
                exact ⟨fun _ => hyes, by omega, by omega⟩)
              have ez : (a == 0) = true := by simpa using hz
              clear hz
              go_wp2
              all_goals go_round
              all_goals first | exact ⟨1, rfl, by omega, HY⟩ | simp [intOf]
            · skip
              have HN : Hid (Cd.right n ⟨(k : Int), a, b, c⟩ = false) := hide (by
                have hno : Cd.fits ⟨nm.data.toList, ByteArray.empty.data.toList, ls, ms⟩ n 0 a = false := by rw [HFt.out, decide_eq_false hz]
                rw [HR.out, hno]; rfl)
              have ez : (a == 0) = false := by simpa using hz
              clear hz
              go_wp2
              all_goals
                go_ret
                exact ⟨ret_bool HN.out.symm, hbw⟩
        · by_cases hjf : 1 < f.size
          · have hat := hide (str_at hjf)
            rcases HLt.out f[1] (List.mem_of_getElem? hat.out) with hc | hc | hc
            · have e1 : ((f[1].toNat : Int) == 114) = true := by rw [hc]; rfl
              have e2 : ((f[1].toNat : Int) == 116) = false := by rw [hc]; rfl
              have e3 : ((f[1].toNat : Int) == 110) = false := by rw [hc]; rfl
              have HFt := hide (fits_at (nm := nm.data.toList) (ls := ls) (ms := ms) (n := n) (v := b) (hat.out.trans (congrArg some hc)))
              clear hc
              by_cases hlo : b < 0
              · skip
                have HN : Hid (Cd.right n ⟨(k : Int), a, b, c⟩ = false) := hide (by
                  have hno : Cd.fits ⟨nm.data.toList, f.data.toList, ls, ms⟩ n 1 b = false := by rw [HFt.out, if_pos rfl, decide_eq_false (p := 0 ≤ _) (by omega)]; rfl
                  rw [HR.out, hno]; simp)
                go_wp2
                all_goals
                  go_ret
                  exact ⟨ret_bool HN.out.symm, hbw⟩
              · by_cases hhi : 8 ≤ b
                · skip
                  have HN : Hid (Cd.right n ⟨(k : Int), a, b, c⟩ = false) := hide (by
                    have hno : Cd.fits ⟨nm.data.toList, f.data.toList, ls, ms⟩ n 1 b = false := by rw [HFt.out, if_pos rfl, decide_eq_false (p := _ ≤ 7) (by omega)]; simp
                    rw [HR.out, hno]; simp)
                  go_wp2
                  all_goals
                    go_ret
                    exact ⟨ret_bool HN.out.symm, hbw⟩
                · skip
                  have HY : Hid (fitsTo ⟨nm.data.toList, f.data.toList, ls, ms⟩ n a b c 2) := hide (by
                    have hyes : Cd.fits ⟨nm.data.toList, f.data.toList, ls, ms⟩ n 1 b = true := by rw [HFt.out, if_pos rfl, decide_eq_true (by omega), decide_eq_true (by omega)]; rfl
                    exact ⟨fun _ => HF.out.1 (by omega), fun _ => hyes, by omega⟩)
                  go_wp2
                  all_goals go_round
                  all_goals first | exact ⟨2, rfl, by omega, HY⟩ | simp [intOf]
            · have e1 : ((f[1].toNat : Int) == 114) = false := by rw [hc]; rfl
              have e2 : ((f[1].toNat : Int) == 116) = true := by rw [hc]; rfl
              have e3 : ((f[1].toNat : Int) == 110) = false := by rw [hc]; rfl
              have HFt := hide (fits_at (nm := nm.data.toList) (ls := ls) (ms := ms) (n := n) (v := b) (hat.out.trans (congrArg some hc)))
              clear hc
              by_cases hlo : b < 0
              · skip
                have HN : Hid (Cd.right n ⟨(k : Int), a, b, c⟩ = false) := hide (by
                  have hno : Cd.fits ⟨nm.data.toList, f.data.toList, ls, ms⟩ n 1 b = false := by rw [HFt.out, if_neg (by decide), if_pos rfl, decide_eq_false (p := 0 ≤ _) (by omega)]; rfl
                  rw [HR.out, hno]; simp)
                go_wp2
                all_goals
                  go_ret
                  exact ⟨ret_bool HN.out.symm, hbw⟩
              · by_cases hhi : (n : Int) < b
                · skip
                  have HN : Hid (Cd.right n ⟨(k : Int), a, b, c⟩ = false) := hide (by
                    have hno : Cd.fits ⟨nm.data.toList, f.data.toList, ls, ms⟩ n 1 b = false := by rw [HFt.out, if_neg (by decide), if_pos rfl, decide_eq_false (p := _ ≤ (n : Int)) (by omega)]; simp
                    rw [HR.out, hno]; simp)
                  go_wp2
                  all_goals
                    go_ret
                    exact ⟨ret_bool HN.out.symm, hbw⟩
                · skip
                  have HY : Hid (fitsTo ⟨nm.data.toList, f.data.toList, ls, ms⟩ n a b c 2) := hide (by
                    have hyes : Cd.fits ⟨nm.data.toList, f.data.toList, ls, ms⟩ n 1 b = true := by rw [HFt.out, if_neg (by decide), if_pos rfl, decide_eq_true (by omega), decide_eq_true (by omega)]; rfl
                    exact ⟨fun _ => HF.out.1 (by omega), fun _ => hyes, by omega⟩)
                  go_wp2
                  all_goals go_round
                  all_goals first | exact ⟨2, rfl, by omega, HY⟩ | simp [intOf]
            · have e1 : ((f[1].toNat : Int) == 114) = false := by rw [hc]; rfl
              have e2 : ((f[1].toNat : Int) == 116) = false := by rw [hc]; rfl
              have e3 : ((f[1].toNat : Int) == 110) = true := by rw [hc]; rfl
              have HFt := hide (fits_at (nm := nm.data.toList) (ls := ls) (ms := ms) (n := n) (v := b) (hat.out.trans (congrArg some hc)))
              have HNu := hide (HNb.out (List.mem_of_getElem? (hat.out.trans (congrArg some hc))) b)
              clear hc
              cases hr : refNum (k : Int) b with
              | false =>
                have HN : Hid (Cd.right n ⟨(k : Int), a, b, c⟩ = false) := hide (by
                  have hno : Cd.fits ⟨nm.data.toList, f.data.toList, ls, ms⟩ n 1 b = false := by rw [HFt.out, if_neg (by decide), if_neg (by decide)]; exact HNu.out.symm.trans hr
                  rw [HR.out, hno]; simp)
                have HX := hide hr
                clear hr
                go_wp2_with fail
                refine (refNum_any (k : Int) b _).mono ?_
                rintro e w2 ⟨rfl, rfl⟩
                rw [HX.out]
                go_wp2
                all_goals
                  go_ret
                  exact ⟨ret_bool HN.out.symm, hbw⟩
              | true =>
                have HY : Hid (fitsTo ⟨nm.data.toList, f.data.toList, ls, ms⟩ n a b c 2) := hide (by
                  have hyes : Cd.fits ⟨nm.data.toList, f.data.toList, ls, ms⟩ n 1 b = true := by rw [HFt.out, if_neg (by decide), if_neg (by decide)]; exact HNu.out.symm.trans hr
                  exact ⟨fun _ => HF.out.1 (by omega), fun _ => hyes, by omega⟩)
                have HX := hide hr
                clear hr
                go_wp2_with fail
                refine (refNum_any (k : Int) b _).mono ?_
                rintro e w2 ⟨rfl, rfl⟩
                rw [HX.out]
                go_wp2
                all_goals go_round
                all_goals first | exact ⟨2, rfl, by omega, HY⟩ | simp [intOf]
          · have HFt := hide (fits_end (nm := nm.data.toList) (f := f.data.toList) (ls := ls) (ms := ms) (n := n) (i := 1) (v := b) (by rw [hfl.out]; omega))
            by_cases hz : b = 0
            · skip
              have HY : Hid (fitsTo ⟨nm.data.toList, f.data.toList, ls, ms⟩ n a b c 2) := hide (by
                have hyes : Cd.fits ⟨nm.data.toList, f.data.toList, ls, ms⟩ n 1 b = true := by rw [HFt.out, decide_eq_true hz]
                exact ⟨fun _ => HF.out.1 (by omega), fun _ => hyes, by omega⟩)
              have ez : (b == 0) = true := by simpa using hz
              clear hz
              go_wp2
              all_goals go_round
              all_goals first | exact ⟨2, rfl, by omega, HY⟩ | simp [intOf]
            · skip
              have HN : Hid (Cd.right n ⟨(k : Int), a, b, c⟩ = false) := hide (by
                have hno : Cd.fits ⟨nm.data.toList, f.data.toList, ls, ms⟩ n 1 b = false := by rw [HFt.out, decide_eq_false hz]
                rw [HR.out, hno]; simp)
              have ez : (b == 0) = false := by simpa using hz
              clear hz
              go_wp2
              all_goals
                go_ret
                exact ⟨ret_bool HN.out.symm, hbw⟩
        · by_cases hjf : 2 < f.size
          · have hat := hide (str_at hjf)
            rcases HLt.out f[2] (List.mem_of_getElem? hat.out) with hc | hc | hc
            · have e1 : ((f[2].toNat : Int) == 114) = true := by rw [hc]; rfl
              have e2 : ((f[2].toNat : Int) == 116) = false := by rw [hc]; rfl
              have e3 : ((f[2].toNat : Int) == 110) = false := by rw [hc]; rfl
              have HFt := hide (fits_at (nm := nm.data.toList) (ls := ls) (ms := ms) (n := n) (v := c) (hat.out.trans (congrArg some hc)))
              clear hc
              by_cases hlo : c < 0
              · skip
                have HN : Hid (Cd.right n ⟨(k : Int), a, b, c⟩ = false) := hide (by
                  have hno : Cd.fits ⟨nm.data.toList, f.data.toList, ls, ms⟩ n 2 c = false := by rw [HFt.out, if_pos rfl, decide_eq_false (p := 0 ≤ _) (by omega)]; rfl
                  rw [HR.out, hno]; simp)
                go_wp2
                all_goals
                  go_ret
                  exact ⟨ret_bool HN.out.symm, hbw⟩
              · by_cases hhi : 8 ≤ c
                · skip
                  have HN : Hid (Cd.right n ⟨(k : Int), a, b, c⟩ = false) := hide (by
                    have hno : Cd.fits ⟨nm.data.toList, f.data.toList, ls, ms⟩ n 2 c = false := by rw [HFt.out, if_pos rfl, decide_eq_false (p := _ ≤ 7) (by omega)]; simp
                    rw [HR.out, hno]; simp)
                  go_wp2
                  all_goals
                    go_ret
                    exact ⟨ret_bool HN.out.symm, hbw⟩
                · skip
                  have HY : Hid (fitsTo ⟨nm.data.toList, f.data.toList, ls, ms⟩ n a b c 3) := hide (by
                    have hyes : Cd.fits ⟨nm.data.toList, f.data.toList, ls, ms⟩ n 2 c = true := by rw [HFt.out, if_pos rfl, decide_eq_true (by omega), decide_eq_true (by omega)]; rfl
                    exact ⟨fun _ => HF.out.1 (by omega), fun _ => HF.out.2.1 (by omega), fun _ => hyes⟩)
                  go_wp2
                  all_goals go_round
                  all_goals first | exact ⟨3, rfl, by omega, HY⟩ | simp [intOf]
            · have e1 : ((f[2].toNat : Int) == 114) = false := by rw [hc]; rfl
              have e2 : ((f[2].toNat : Int) == 116) = true := by rw [hc]; rfl
              have e3 : ((f[2].toNat : Int) == 110) = false := by rw [hc]; rfl
              have HFt := hide (fits_at (nm := nm.data.toList) (ls := ls) (ms := ms) (n := n) (v := c) (hat.out.trans (congrArg some hc)))
              clear hc
              by_cases hlo : c < 0
              · skip
                have HN : Hid (Cd.right n ⟨(k : Int), a, b, c⟩ = false) := hide (by
                  have hno : Cd.fits ⟨nm.data.toList, f.data.toList, ls, ms⟩ n 2 c = false := by rw [HFt.out, if_neg (by decide), if_pos rfl, decide_eq_false (p := 0 ≤ _) (by omega)]; rfl
                  rw [HR.out, hno]; simp)
                go_wp2
                all_goals
                  go_ret
                  exact ⟨ret_bool HN.out.symm, hbw⟩
              · by_cases hhi : (n : Int) < c
                · skip
                  have HN : Hid (Cd.right n ⟨(k : Int), a, b, c⟩ = false) := hide (by
                    have hno : Cd.fits ⟨nm.data.toList, f.data.toList, ls, ms⟩ n 2 c = false := by rw [HFt.out, if_neg (by decide), if_pos rfl, decide_eq_false (p := _ ≤ (n : Int)) (by omega)]; simp
                    rw [HR.out, hno]; simp)
                  go_wp2
                  all_goals
                    go_ret
                    exact ⟨ret_bool HN.out.symm, hbw⟩
                · skip
                  have HY : Hid (fitsTo ⟨nm.data.toList, f.data.toList, ls, ms⟩ n a b c 3) := hide (by
                    have hyes : Cd.fits ⟨nm.data.toList, f.data.toList, ls, ms⟩ n 2 c = true := by rw [HFt.out, if_neg (by decide), if_pos rfl, decide_eq_true (by omega), decide_eq_true (by omega)]; rfl
                    exact ⟨fun _ => HF.out.1 (by omega), fun _ => HF.out.2.1 (by omega), fun _ => hyes⟩)
                  go_wp2
                  all_goals go_round
                  all_goals first | exact ⟨3, rfl, by omega, HY⟩ | simp [intOf]
            · have e1 : ((f[2].toNat : Int) == 114) = false := by rw [hc]; rfl
              have e2 : ((f[2].toNat : Int) == 116) = false := by rw [hc]; rfl
              have e3 : ((f[2].toNat : Int) == 110) = true := by rw [hc]; rfl
              have HFt := hide (fits_at (nm := nm.data.toList) (ls := ls) (ms := ms) (n := n) (v := c) (hat.out.trans (congrArg some hc)))
              have HNu := hide (HNb.out (List.mem_of_getElem? (hat.out.trans (congrArg some hc))) c)
              clear hc
              cases hr : refNum (k : Int) c with
              | false =>
                have HN : Hid (Cd.right n ⟨(k : Int), a, b, c⟩ = false) := hide (by
                  have hno : Cd.fits ⟨nm.data.toList, f.data.toList, ls, ms⟩ n 2 c = false := by rw [HFt.out, if_neg (by decide), if_neg (by decide)]; exact HNu.out.symm.trans hr
                  rw [HR.out, hno]; simp)
                have HX := hide hr
                clear hr
                go_wp2_with fail
                refine (refNum_any (k : Int) c _).mono ?_
                rintro e w2 ⟨rfl, rfl⟩
                rw [HX.out]
                go_wp2
                all_goals
                  go_ret
                  exact ⟨ret_bool HN.out.symm, hbw⟩
              | true =>
                have HY : Hid (fitsTo ⟨nm.data.toList, f.data.toList, ls, ms⟩ n a b c 3) := hide (by
                  have hyes : Cd.fits ⟨nm.data.toList, f.data.toList, ls, ms⟩ n 2 c = true := by rw [HFt.out, if_neg (by decide), if_neg (by decide)]; exact HNu.out.symm.trans hr
                  exact ⟨fun _ => HF.out.1 (by omega), fun _ => HF.out.2.1 (by omega), fun _ => hyes⟩)
                have HX := hide hr
                clear hr
                go_wp2_with fail
                refine (refNum_any (k : Int) c _).mono ?_
                rintro e w2 ⟨rfl, rfl⟩
                rw [HX.out]
                go_wp2
                all_goals go_round
                all_goals first | exact ⟨3, rfl, by omega, HY⟩ | simp [intOf]
          · have HFt := hide (fits_end (nm := nm.data.toList) (f := f.data.toList) (ls := ls) (ms := ms) (n := n) (i := 2) (v := c) (by rw [hfl.out]; omega))
            by_cases hz : c = 0
            · skip
              have HY : Hid (fitsTo ⟨nm.data.toList, f.data.toList, ls, ms⟩ n a b c 3) := hide (by
                have hyes : Cd.fits ⟨nm.data.toList, f.data.toList, ls, ms⟩ n 2 c = true := by rw [HFt.out, decide_eq_true hz]
                exact ⟨fun _ => HF.out.1 (by omega), fun _ => HF.out.2.1 (by omega), fun _ => hyes⟩)
              have ez : (c == 0) = true := by simpa using hz
              clear hz
              go_wp2
              all_goals go_round
              all_goals first | exact ⟨3, rfl, by omega, HY⟩ | simp [intOf]
            · skip
              have HN : Hid (Cd.right n ⟨(k : Int), a, b, c⟩ = false) := hide (by
                have hno : Cd.fits ⟨nm.data.toList, f.data.toList, ls, ms⟩ n 2 c = false := by rw [HFt.out, decide_eq_false hz]
                rw [HR.out, hno]; simp)
              have ez : (c == 0) = false := by simpa using hz
              clear hz
              go_wp2
              all_goals
                go_ret
                exact ⟨ret_bool HN.out.symm, hbw⟩
      · obtain rfl : j = 3 := by omega
        have HN : Hid (Cd.right n ⟨(k : Int), a, b, c⟩ = true) := hide (by
          obtain ⟨g1, g2, g3⟩ := HF.out
          rw [HR.out, g1 (by omega), g2 (by omega), g3 (by omega)]; rfl)
        go_wp2
        all_goals
          go_ret
          exact ⟨ret_bool HN.out.symm, hbw⟩
end Go.Proofs.YtfjekckcpkkdiaaGreatDoor
