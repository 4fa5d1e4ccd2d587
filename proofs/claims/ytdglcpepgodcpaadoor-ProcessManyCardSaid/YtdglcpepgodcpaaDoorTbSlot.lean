/- Layer 10: which slots are valid, and their holders: contracts, of package table and of the reference. (Written by tools/mktbslot.py.) -/
import Derived.Test.YtdglcpepgodcpaaDoorTbMath
import Derived.Test.YtdglcpepgodcpaaDoorOb
import Derived.Deep.QuietTactic
namespace Go.Proofs.YtdglcpepgodcpaaDoor
open Go.RowKit

theorem ret_bool2 {b c : Bool} (h : b = c) : Ending.returned (.bool b) = .returned (.bool c) := by rw [h]
set_option maxHeartbeats 4000000 in
theorem isNone_any (s : Tb.Slot) (W : World) : Calls Tryd.prog 47 #[sta s] W (BoolPost (s.kind == 0) W) := by
  obtain ⟨w1, hw, m, hm, O1, hb, hs⟩ := start_sl W s
  subst hm
  have k0 := O1.cell 0
  simp at k0
  have HB := hide hb
  clear hb O1
  go_enter Tryd.func47, Tryd.ntmps47
  go_wp2_with fail
  go_ret
  exact ⟨rfl, HB.out⟩
def Tb.Slot.End (s : Tb.Slot) : Prop := s.fin = 0 ∨ s.fin = 1 ∧ s.kind = 4
instance (s : Tb.Slot) : Decidable s.End := by unfold Tb.Slot.End; infer_instance
set_option maxRecDepth 100000 in
set_option maxHeartbeats 4000000 in
theorem hasEnd_any (s : Tb.Slot) (W : World) : Calls Tryd.prog 51 #[sta s] W (BoolPost (decide s.End) W) := by
  obtain ⟨w1, hw, m, hm, O1, hb, hs⟩ := start_sl W s
  subst hm
  have k0 := O1.cell 0
  have k3 := O1.cell 3
  simp at k0 k3
  have HB := hide hb
  clear hb O1

  by_cases f0 : s.fin = 0
  · have HF : Hid (decide s.End = true) := hide (decide_eq_true (.inl f0))
    have z0 : (s.fin == 0) = true := by simpa using f0
    clear f0
    go_enter Tryd.func51, Tryd.ntmps51
    go_wp2_with fail
    go_ret
    exact ⟨ret_bool2 HF.out.symm, HB.out⟩
  · by_cases f1 : s.fin = 1
    · by_cases f4 : s.kind = 4
      · have HF : Hid (decide s.End = true) := hide (decide_eq_true (.inr ⟨f1, f4⟩))
        have z0 : (s.fin == 0) = false := by simpa using f0
        have z1 : (s.fin == 1) = true := by simpa using f1
        have z2 : (s.kind == 4) = true := by simpa using f4
        clear f0 f1 f4
        go_enter Tryd.func51, Tryd.ntmps51
        go_wp2_with fail
        go_ret
        exact ⟨ret_bool2 HF.out.symm, HB.out⟩
      · have HF : Hid (decide s.End = false) := hide (decide_eq_false (by rintro (h | ⟨h, h'⟩); exact f0 h; exact f4 h'))
        have z0 : (s.fin == 0) = false := by simpa using f0
        have z1 : (s.fin == 1) = true := by simpa using f1
        have z2 : (s.kind == 4) = false := by simpa using f4
        clear f0 f1 f4
        go_enter Tryd.func51, Tryd.ntmps51
        go_wp2_with fail
        go_ret
        exact ⟨ret_bool2 HF.out.symm, HB.out⟩
    · have HF : Hid (decide s.End = false) := hide (decide_eq_false (by rintro (h | ⟨h, h'⟩); exact f0 h; exact f1 h))
      have z0 : (s.fin == 0) = false := by simpa using f0
      have z1 : (s.fin == 1) = false := by simpa using f1
      clear f0 f1
      go_enter Tryd.func51, Tryd.ntmps51
      go_wp2_with fail
      go_ret
      exact ⟨ret_bool2 HF.out.symm, HB.out⟩
theorem Tb.Slot.ok_zero {s : Tb.Slot} (h : s.kind = 0) : decide s.Ok = decide (s = Tb.Slot.zero) := by unfold Tb.Slot.Ok; simp [h]
theorem Tb.Slot.ok_of {s : Tb.Slot} (h : s.kind ≠ 0) : s.Ok ↔ 0 < s.kind ∧ s.kind ≤ 8 ∧ s.target ≠ 0 ∧ (s.desc ≠ 0 ↔ s.kind = 1) ∧ s.End := by unfold Tb.Slot.Ok Tb.Slot.End; rw [if_neg h]
theorem Tb.Slot.ok_end {s : Tb.Slot} (h : s.kind ≠ 0) (h1 : 0 < s.kind) (h2 : s.kind ≤ 8) (h3 : s.target ≠ 0) (h4 : s.desc ≠ 0 ↔ s.kind = 1) : decide s.Ok = decide s.End := by
  by_cases he : s.End
  · rw [decide_eq_true he, decide_eq_true ((ok_of h).2 ⟨h1, h2, h3, h4, he⟩)]
  · rw [decide_eq_false he, decide_eq_false (fun x => he ((ok_of h).1 x).2.2.2.2)]
theorem Tb.Slot.not_ok {s : Tb.Slot} (h : s.kind ≠ 0) (hx : ¬ (0 < s.kind ∧ s.kind ≤ 8 ∧ s.target ≠ 0 ∧ (s.desc ≠ 0 ↔ s.kind = 1))) : decide s.Ok = false := decide_eq_false (fun x => hx (by have := (ok_of h).1 x; exact ⟨this.1, this.2.1, this.2.2.1, this.2.2.2.1⟩))
set_option maxRecDepth 100000 in
set_option maxHeartbeats 8000000 in
theorem isSlot_any (s : Tb.Slot) (W : World) : Calls Tryd.prog 48 #[sta s] W (BoolPost (decide s.Ok) W) := by
  obtain ⟨w1, hw, m, hm, O1, hb, hs⟩ := start_sl W s
  subst hm
  have k0 := O1.cell 0
  have k1 := O1.cell 1
  have k2 := O1.cell 2
  have k3 := O1.cell 3
  simp at k0 k1 k2 k3
  have HB := hide hb
  clear hb
  by_cases h0 : s.kind = 0
  · have HF := hide (Tb.Slot.ok_zero h0)
    have HN : Hid ((s.kind == 0) = true) := hide (by simpa using h0)
    clear h0
    go_enter Tryd.func48, Tryd.ntmps48
    go_wp2_with (first | (refine wpList_val (by rfl) (exec_load_slot0 rfl rfl O1) ?_) | (refine wpList_val (by rfl) (exec_eql_slot rfl (x := s) (y := Tb.Slot.zero) rfl rfl) ?_) | fail)
    refine (isNone_any s _).mono ?_
    rintro e w2 ⟨rfl, hb2⟩
    rw [HN.out]
    have O2 := O1.below hb2 O1.lt
    have HB2 := hide (HB.out.trans (hb2.mono HB.out.size))
    have c0 := O2.cell 0
    have c1 := O2.cell 1
    have c2 := O2.cell 2
    have c3 := O2.cell 3
    simp at c0 c1 c2 c3
    clear hb2 k0 k1 k2 k3 O1
    go_wp2_with (first | (refine wpList_val (by rfl) (exec_load_slot0 rfl rfl O2) ?_) | (refine wpList_val (by rfl) (exec_eql_slot rfl (x := s) (y := Tb.Slot.zero) rfl rfl) ?_) | fail)
    go_ret
    exact ⟨ret_bool2 HF.out.symm, HB2.out⟩
  · have HN : Hid ((s.kind == 0) = false) := hide (by simpa using h0)
    by_cases h1 : 0 < s.kind
    · by_cases h2 : s.kind ≤ 8
      · by_cases h3 : s.target = 0
        · have e3 : (s.target == 0) = true := by simpa using h3
          have n3 : (s.target != 0) = false := by simp [h3]
          have HF : Hid (decide s.Ok = false) := hide (Tb.Slot.not_ok h0 (by intro x; exact x.2.2.1 h3))
          clear h0 h3
          go_enter Tryd.func48, Tryd.ntmps48
          go_wp2_with (first | (refine wpList_val (by rfl) (exec_load_slot0 rfl rfl O1) ?_) | (refine wpList_val (by rfl) (exec_eql_slot rfl (x := s) (y := Tb.Slot.zero) rfl rfl) ?_) | fail)
          refine (isNone_any s _).mono ?_
          rintro e w2 ⟨rfl, hb2⟩
          rw [HN.out]
          have O2 := O1.below hb2 O1.lt
          have HB2 := hide (HB.out.trans (hb2.mono HB.out.size))
          have c0 := O2.cell 0
          have c1 := O2.cell 1
          have c2 := O2.cell 2
          have c3 := O2.cell 3
          simp at c0 c1 c2 c3
          clear hb2 k0 k1 k2 k3 O1
          go_wp2_with fail
          go_ret
          exact ⟨ret_bool2 HF.out.symm, HB2.out⟩
        · have e3 : (s.target == 0) = false := by simpa using h3
          have n3 : (s.target != 0) = true := by simp [h3]
          by_cases h4 : s.desc = 0
          · have e4 : (s.desc == 0) = true := by simpa using h4
            have n4 : (s.desc != 0) = false := by simp [h4]
            by_cases h5 : s.kind = 1
            · have e5 : (s.kind == 1) = true := by simpa using h5
              have HF : Hid (decide s.Ok = false) := hide (Tb.Slot.not_ok h0 (by intro x; exact x.2.2.2.2 h5 h4))
              clear h0 h3 h4 h5
              go_enter Tryd.func48, Tryd.ntmps48
              go_wp2_with (first | (refine wpList_val (by rfl) (exec_load_slot0 rfl rfl O1) ?_) | (refine wpList_val (by rfl) (exec_eql_slot rfl (x := s) (y := Tb.Slot.zero) rfl rfl) ?_) | fail)
              refine (isNone_any s _).mono ?_
              rintro e w2 ⟨rfl, hb2⟩
              rw [HN.out]
              have O2 := O1.below hb2 O1.lt
              have HB2 := hide (HB.out.trans (hb2.mono HB.out.size))
              have c0 := O2.cell 0
              have c1 := O2.cell 1
              have c2 := O2.cell 2
              have c3 := O2.cell 3
              simp at c0 c1 c2 c3
              clear hb2 k0 k1 k2 k3 O1
              go_wp2_with fail
              go_ret
              exact ⟨ret_bool2 HF.out.symm, HB2.out⟩
            · have e5 : (s.kind == 1) = false := by simpa using h5
              have HE := hide (Tb.Slot.ok_end h0 h1 h2 h3 (by constructor; exact fun h => absurd h4 h; exact fun h => absurd h h5))
              clear h0 h3 h4 h5
              go_enter Tryd.func48, Tryd.ntmps48
              go_wp2_with (first | (refine wpList_val (by rfl) (exec_load_slot0 rfl rfl O1) ?_) | (refine wpList_val (by rfl) (exec_eql_slot rfl (x := s) (y := Tb.Slot.zero) rfl rfl) ?_) | fail)
              refine (isNone_any s _).mono ?_
              rintro e w2 ⟨rfl, hb2⟩
              rw [HN.out]
              have O2 := O1.below hb2 O1.lt
              have HB2 := hide (HB.out.trans (hb2.mono HB.out.size))
              have c0 := O2.cell 0
              have c1 := O2.cell 1
              have c2 := O2.cell 2
              have c3 := O2.cell 3
              simp at c0 c1 c2 c3
              clear hb2 k0 k1 k2 k3 O1
              go_wp2_with (first | (refine wpList_val (by rfl) (exec_load_slot0 rfl rfl O2) ?_) | (refine wpList_val (by rfl) (exec_eql_slot rfl (x := s) (y := Tb.Slot.zero) rfl rfl) ?_) | fail)
              refine (hasEnd_any s _).mono ?_
              rintro e w3 ⟨rfl, hb3⟩
              rw [← HE.out]
              have HB3 := hide (HB2.out.trans (hb3.mono HB2.out.size))
              clear hb3
              cases hd : decide s.Ok
              · have HF := hide hd
                clear hd
                go_wp2_with fail
                go_ret
                exact ⟨ret_bool2 HF.out.symm, HB3.out⟩
              · have HF := hide hd
                clear hd
                go_wp2_with fail
                go_ret
                exact ⟨ret_bool2 HF.out.symm, HB3.out⟩
          · have e4 : (s.desc == 0) = false := by simpa using h4
            have n4 : (s.desc != 0) = true := by simp [h4]
            by_cases h5 : s.kind = 1
            · have e5 : (s.kind == 1) = true := by simpa using h5
              have HE := hide (Tb.Slot.ok_end h0 h1 h2 h3 (by exact ⟨fun _ => h5, fun _ => h4⟩))
              clear h0 h3 h4 h5
              go_enter Tryd.func48, Tryd.ntmps48
              go_wp2_with (first | (refine wpList_val (by rfl) (exec_load_slot0 rfl rfl O1) ?_) | (refine wpList_val (by rfl) (exec_eql_slot rfl (x := s) (y := Tb.Slot.zero) rfl rfl) ?_) | fail)
              refine (isNone_any s _).mono ?_
              rintro e w2 ⟨rfl, hb2⟩
              rw [HN.out]
              have O2 := O1.below hb2 O1.lt
              have HB2 := hide (HB.out.trans (hb2.mono HB.out.size))
              have c0 := O2.cell 0
              have c1 := O2.cell 1
              have c2 := O2.cell 2
              have c3 := O2.cell 3
              simp at c0 c1 c2 c3
              clear hb2 k0 k1 k2 k3 O1
              go_wp2_with (first | (refine wpList_val (by rfl) (exec_load_slot0 rfl rfl O2) ?_) | (refine wpList_val (by rfl) (exec_eql_slot rfl (x := s) (y := Tb.Slot.zero) rfl rfl) ?_) | fail)
              refine (hasEnd_any s _).mono ?_
              rintro e w3 ⟨rfl, hb3⟩
              rw [← HE.out]
              have HB3 := hide (HB2.out.trans (hb3.mono HB2.out.size))
              clear hb3
              cases hd : decide s.Ok
              · have HF := hide hd
                clear hd
                go_wp2_with fail
                go_ret
                exact ⟨ret_bool2 HF.out.symm, HB3.out⟩
              · have HF := hide hd
                clear hd
                go_wp2_with fail
                go_ret
                exact ⟨ret_bool2 HF.out.symm, HB3.out⟩
            · have e5 : (s.kind == 1) = false := by simpa using h5
              have HF : Hid (decide s.Ok = false) := hide (Tb.Slot.not_ok h0 (by intro x; exact h5 (x.2.2.2.1 h4)))
              clear h0 h3 h4 h5
              go_enter Tryd.func48, Tryd.ntmps48
              go_wp2_with (first | (refine wpList_val (by rfl) (exec_load_slot0 rfl rfl O1) ?_) | (refine wpList_val (by rfl) (exec_eql_slot rfl (x := s) (y := Tb.Slot.zero) rfl rfl) ?_) | fail)
              refine (isNone_any s _).mono ?_
              rintro e w2 ⟨rfl, hb2⟩
              rw [HN.out]
              have O2 := O1.below hb2 O1.lt
              have HB2 := hide (HB.out.trans (hb2.mono HB.out.size))
              have c0 := O2.cell 0
              have c1 := O2.cell 1
              have c2 := O2.cell 2
              have c3 := O2.cell 3
              simp at c0 c1 c2 c3
              clear hb2 k0 k1 k2 k3 O1
              go_wp2_with fail
              go_ret
              exact ⟨ret_bool2 HF.out.symm, HB2.out⟩
      · have h2' : 8 < s.kind := by omega
        have HF : Hid (decide s.Ok = false) := hide (Tb.Slot.not_ok h0 (by intro x; exact h2 x.2.1))
        clear h0 h2
        go_enter Tryd.func48, Tryd.ntmps48
        go_wp2_with (first | (refine wpList_val (by rfl) (exec_load_slot0 rfl rfl O1) ?_) | (refine wpList_val (by rfl) (exec_eql_slot rfl (x := s) (y := Tb.Slot.zero) rfl rfl) ?_) | fail)
        refine (isNone_any s _).mono ?_
        rintro e w2 ⟨rfl, hb2⟩
        rw [HN.out]
        have O2 := O1.below hb2 O1.lt
        have HB2 := hide (HB.out.trans (hb2.mono HB.out.size))
        have c0 := O2.cell 0
        have c1 := O2.cell 1
        have c2 := O2.cell 2
        have c3 := O2.cell 3
        simp at c0 c1 c2 c3
        clear hb2 k0 k1 k2 k3 O1
        go_wp2_with fail
        go_ret
        exact ⟨ret_bool2 HF.out.symm, HB2.out⟩
    · have h1' : s.kind ≤ 0 := by omega
      have HF : Hid (decide s.Ok = false) := hide (Tb.Slot.not_ok h0 (by intro x; exact h1 x.1))
      clear h0 
      go_enter Tryd.func48, Tryd.ntmps48
      go_wp2_with (first | (refine wpList_val (by rfl) (exec_load_slot0 rfl rfl O1) ?_) | (refine wpList_val (by rfl) (exec_eql_slot rfl (x := s) (y := Tb.Slot.zero) rfl rfl) ?_) | fail)
      refine (isNone_any s _).mono ?_
      rintro e w2 ⟨rfl, hb2⟩
      rw [HN.out]
      have O2 := O1.below hb2 O1.lt
      have HB2 := hide (HB.out.trans (hb2.mono HB.out.size))
      have c0 := O2.cell 0
      have c1 := O2.cell 1
      have c2 := O2.cell 2
      have c3 := O2.cell 3
      simp at c0 c1 c2 c3
      clear hb2 k0 k1 k2 k3 O1
      go_wp2_with fail
      go_ret
      exact ⟨ret_bool2 HF.out.symm, HB2.out⟩
/-- A number. -/
def U64Post (r : Int) (w : World) (e : Ending) (w' : World) : Prop := e = .returned (.int .u64 r) ∧ Below w.heap.size w w'
def HoldPost (r : Int × Int) (w : World) (e : Ending) (w' : World) : Prop := e = .returned (.tuple #[.int .u64 r.1, .int .i64 r.2]) ∧ Below w.heap.size w w'
theorem HoldPost.of {r : Int × Int} {w w' : World} {e : Ending} {a b : Int} (hr : r = (a, b)) (he : e = .returned (.tuple #[.int .u64 a, .int .i64 b])) (hb : Below w.heap.size w w') : HoldPost r w e w' := by subst hr; exact ⟨he, hb⟩
theorem U64Post.of {r a : Int} {w w' : World} {e : Ending} (hr : r = a) (he : e = .returned (.int .u64 a)) (hb : Below w.heap.size w w') : U64Post r w e w' := by subst hr; exact ⟨he, hb⟩
end Go.Proofs.YtdglcpepgodcpaaDoor
