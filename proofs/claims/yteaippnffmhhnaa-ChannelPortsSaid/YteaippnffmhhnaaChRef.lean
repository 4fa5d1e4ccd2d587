/- The reference of channels: New, NewPort, end, queues, Read, Write: contracts (written by tools/mkchref.py). -/
import Derived.Test.YteaippnffmhhnaaChRefV
import Derived.Test.YteaippnffmhhnaaChOps
import Derived.Test.YteaippnffmhhnaaRegionD
namespace Go.Proofs.Yteaippnffmhhnaa
open Go.RowKit

set_option maxRecDepth 100000 in
set_option maxHeartbeats 4000000 in
theorem refChNew_any (id : Int) (W : World) : Calls Try.prog 30 #[.int .u64 id] W (GivesOb (Ob.chan id 1 1 noSl noSl) W) := by
  obtain ⟨w1, hw, O, hb, hs⟩ := start_z W
  have HB := hide hb
  clear hb
  go_enter Try.func30, Try.ntmps30
  go_wp2_with (first | (refine store_ob rfl _ _ rfl rfl (c := Ob.chan id 1 1 noSl noSl) rfl O rfl ?_) | fail)
  refine bodyPost_ret (ret_ob rfl _ rfl (O.row_same _)) rfl ?_
  exact ⟨rfl, below_row HB.out (Nat.le_refl _) _⟩
set_option maxRecDepth 100000 in
set_option maxHeartbeats 4000000 in
theorem refChNewPort_any (id : Int) (W : World) : Calls Try.prog 21 #[.int .u64 id] W (GivesOb (Ob.port id 1 noSl) W) := by
  obtain ⟨w1, hw, O, hb, hs⟩ := start_z W
  have HB := hide hb
  clear hb
  go_enter Try.func21, Try.ntmps21
  go_wp2_with (first | (refine store_ob rfl _ _ rfl rfl (c := Ob.port id 1 noSl) rfl O rfl ?_) | fail)
  refine bodyPost_ret (ret_ob rfl _ rfl (O.row_same _)) rfl ?_
  exact ⟨rfl, below_row HB.out (Nat.le_refl _) _⟩
/-- Which numbers are ends. -/
def IsEnd (k : Int) : Prop := k = 0 ∨ k = 1
instance (k : Int) : Decidable (IsEnd k) := by unfold IsEnd; infer_instance
set_option maxRecDepth 100000 in
set_option maxHeartbeats 4000000 in
theorem refEnd_any (k : Int) (W : World) : Calls Try.prog 57 #[.int .i64 k] W fun e w' => e = .returned (.bool (decide (IsEnd k))) ∧ w' = W := by
  by_cases h0 : k = 0
  · subst h0
    go_enter Try.func57, Try.ntmps57
    go_wp2_with fail
    go_ret
    exact ⟨ret_bool (decide_eq_true (show IsEnd 0 from .inl rfl)).symm, rfl⟩
  · have b0 : (k == 0) = false := by simpa using h0
    by_cases h1 : k = 1
    · subst h1
      go_enter Try.func57, Try.ntmps57
      go_wp2_with fail
      go_ret
      exact ⟨ret_bool (decide_eq_true (show IsEnd 1 from .inr rfl)).symm, rfl⟩
    · have b1 : (k == 1) = false := by simpa using h1
      have HN : Hid (¬ IsEnd k) := hide (fun hh => hh.elim h0 h1)
      clear h0 h1
      go_enter Try.func57, Try.ntmps57
      go_wp2_with fail
      go_ret
      exact ⟨ret_bool (decide_eq_false HN.out).symm, rfl⟩
/-- Two queues, of the call's own. -/
def QsNew (P Q : List UInt8) (w : World) (e : Ending) (w' : World) : Prop := ∃ s t : Sl, e = .returned (.agg (qc s t)) ∧ New8 w.heap.size w' s P ∧ New8 w.heap.size w' t Q ∧ Below w.heap.size w w'
/-- The channel with other bytes comes back, behind what was read. -/
def RfRd (o : Ob) (v : Int) (P Q : List UInt8) (w : World) (e : Ending) (w' : World) : Prop := ∃ s t : Sl, e = .returned (.tuple #[.int .i64 v, .agg (oc { o with q0 := s, q1 := t }), .int .i64 0]) ∧ New8 w.heap.size w' s P ∧ New8 w.heap.size w' t Q ∧ Below w.heap.size w w'
def RfWr (o : Ob) (P Q : List UInt8) (w : World) (e : Ending) (w' : World) : Prop := ∃ s t : Sl, e = .returned (.tuple #[.agg (oc { o with q0 := s, q1 := t }), .int .i64 0]) ∧ New8 w.heap.size w' s P ∧ New8 w.heap.size w' t Q ∧ Below w.heap.size w w'
def RfEnd (o : Ob) (w : World) (e : Ending) (w' : World) : Prop := e = .returned (.tuple #[.int .i64 (-1), .agg (oc o), .int .i64 0]) ∧ Below w.heap.size w w'
theorem byteOne (w : World) (c : UInt8) : (Instr.buildSlice 36 1 #[(0, .int .u8 (c.toNat : Int))]).run Try.prog w = .ok (.slice (some ⟨w.heap.size, 0, none⟩) 1 1) (w.alloc (.cells #[.int .u8 (c.toNat : Int)] 5)) := by kernel_rfl
theorem exec_one8 {o : Oper} {act : Act} {w : World} {x : Operand} (ho : o.op = .buildSlice 36 1 #[(0, x)]) {c : UInt8} (hx : act.eval x = .int .u8 (c.toNat : Int)) :
    (execOp act.eval o).run Try.prog w = .ok (.value (.slice (some ⟨w.heap.size, 0, none⟩) 1 1)) (w.alloc (.cells #[.int .u8 (c.toNat : Int)] 5)) := by
  have hr := byteOne w c
  unfold execOp
  simp only [ho, hx, List.map_toArray, List.map_cons, List.map_nil, Sem.run_bind, hr, Result.andThen_ok, Sem.run_pure]
set_option maxRecDepth 100000 in
set_option maxHeartbeats 4000000 in
theorem refQs0_any (o : Ob) (A : Option Addr) (n c : Nat) (D Q : List UInt8) (W : World) (hD : Bytes W W.heap.size A n D) (hQ : Bytes W W.heap.size o.q1.A o.q1.n Q) (hn : n ≤ 1000) (hq : o.q1.n ≤ 1000) : Calls Try.prog 58 #[.agg (oc o), .int .i64 0, .slice A n c] W (QsNew D Q W) := by
  obtain ⟨w1, hw, OA, OR, OQ, hb, hs3⟩ : ∃ w1, ((W.alloc (.cells (oc o) 41)).alloc (.cells #[.slice none 0 0, .slice none 0 0] 37)).alloc (.cells #[.slice none 0 0, .slice none 0 0] 37) = w1 ∧ Obl w1 W.heap.size 41 (oc o) ∧ Obl w1 (W.heap.size + 1) 37 (qc noSl noSl) ∧ Obl w1 (W.heap.size + 2) 37 (qc noSl noSl) ∧ Below W.heap.size W w1 ∧ w1.heap.size = W.heap.size + 3 := by
    refine ⟨_, rfl, ((Obl.make W _ _).alloc _).alloc _, ?_, ?_, (((Below.refl _ _).alloc (Nat.le_refl _) _).alloc (by simp) _).alloc (by simp; omega) _, by simp⟩
    · have := Obl.make (W.alloc (.cells (oc o) 41)) 37 (qc noSl noSl)
      rw [World.size_alloc] at this
      exact this.alloc _
    · have := Obl.make ((W.alloc (.cells (oc o) 41)).alloc (.cells #[.slice none 0 0, .slice none 0 0] 37)) 37 (qc noSl noSl)
      rw [World.size_alloc, World.size_alloc] at this
      exact this
  have HD := hide ((hD.below hb).mono hb.size)
  have HQ := hide (hQ.below hb)
  have HB := hide hb
  have kz : w1.cell? ⟨W.heap.size + 2, 0, none⟩ = some (.slice none 0 0) := OQ.cell 0
  clear hb hD hQ
  go_enter Try.func58, Try.ntmps58
  go_wp2_with (first
    | (at_builtin; refine wpList_append_rd rfl _ _ _ rfl byteTy (A := none) (n := 0) (c := 0) (xs := []) (base := w1.heap.size) rfl own_none (S := A) (m := n) (d := c) (news := bv D) rfl HD.out.2 (bv_one _) (by unfold maxLen; omega) (by omega) (Nat.le_refl _) ?_; intro A3 c3 w3 hown3 hg3 _; rw [Nat.zero_add, List.nil_append] at hown3; rw [Nat.zero_add]; have hb3 := below_none hg3; have O3 := OQ.below hb3 OQ.lt; have z3 := O3.free 0; have k3 : w3.cell? ⟨W.heap.size + 2, 0, none⟩ = some (.slice none 0 0) := O3.cell 0; have HN := hide ((New8.own hown3).mono (show W.heap.size + 2 + 1 ≤ w1.heap.size by omega)); have OA3 := OA.below hb3 OA.lt; have OR3 := OR.below hb3 OR.lt; have HB3 := hide (HB.out.trans (hb3.mono HB.out.size)); have HQ3 := hide (HQ.out.belowLe hb3 (by omega)); have HN4 := hide (HN.out.put 0 (.slice A3 n c3)); have O4 := O3.put 0 (.slice A3 n c3); have OA4 := OA3.put_other (b' := W.heap.size + 2) (by omega) 0 (.slice A3 n c3); have OR4 := OR3.put_other (b' := W.heap.size + 2) (by omega) 0 (.slice A3 n c3); have HB4 := hide (HB3.out.setCell (p := ⟨W.heap.size + 2, 0, none⟩) (by simp only; omega) (.slice A3 n c3)); have HQ4 := hide (HQ3.out.below ((Below.refl W.heap.size w3).setCell (p := ⟨W.heap.size + 2, 0, none⟩) (by simp only; omega) (.slice A3 n c3))); obtain ⟨w4, hw4⟩ : ∃ w4, w3.setCell ⟨W.heap.size + 2, 0, none⟩ (.slice A3 n c3) = w4 := ⟨_, rfl⟩; rw [hw4] at O4 OA4 OR4 HB4 HQ4 HN4; replace O4 : Obl w4 (W.heap.size + 2) 37 (qc ⟨A3, n, c3⟩ noSl) := O4; have kq4 : w4.cell? ⟨W.heap.size, 31, none⟩ = some (.slice o.q1.A o.q1.n o.q1.c) := OA4.cell 31; have ky4 : w4.cell? ⟨W.heap.size + 2, 1, none⟩ = some (.slice none 0 0) := O4.cell 1; have hs4 := HB4.out.size; have hl4 := O4.lt; clear hown3 hg3 hb3 O3 HN OA3 OR3 HB3 HQ3 OQ OA OR HB HQ HD)
    | (at_builtin; refine wpList_append_rd rfl _ _ _ rfl byteTy (A := none) (n := 0) (c := 0) (xs := []) (base := w4.heap.size) rfl own_none (S := o.q1.A) (m := o.q1.n) (d := o.q1.c) (news := bv Q) rfl HQ4.out.2 (bv_one _) (by unfold maxLen; omega) (by omega) (Nat.le_refl _) ?_; intro A5 c5 w5 hown5 hg5 _; rw [Nat.zero_add, List.nil_append] at hown5; rw [Nat.zero_add]; have hb5 := below_none hg5; have O5 := O4.below hb5 O4.lt; have z5 := O5.free 1; have k5 : w5.cell? ⟨W.heap.size + 2, 1, none⟩ = some (.slice none 0 0) := O5.cell 1; have HM := hide ((New8.own hown5).mono (show W.heap.size + 2 + 1 ≤ w4.heap.size by omega)); have HM6 := hide (HM.out.put 1 (.slice A5 o.q1.n c5)); have HN5 := hide (HN4.out.below hb5); have HN6 := hide (HN5.out.put 1 (.slice A5 o.q1.n c5)); have OR5 := OR4.below hb5 OR4.lt; have OR6 := OR5.put_other (b' := W.heap.size + 2) (by omega) 1 (.slice A5 o.q1.n c5); have HB5 := hide (HB4.out.trans (hb5.mono HB4.out.size)); have HB6 := hide (HB5.out.setCell (p := ⟨W.heap.size + 2, 1, none⟩) (by simp only; omega) (.slice A5 o.q1.n c5)); have O6 := O5.put 1 (.slice A5 o.q1.n c5); obtain ⟨w6, hw6⟩ : ∃ w6, w5.setCell ⟨W.heap.size + 2, 1, none⟩ (.slice A5 o.q1.n c5) = w6 := ⟨_, rfl⟩; rw [hw6] at HM6 HN6 OR6 HB6 O6; replace O6 : Obl w6 (W.heap.size + 2) 37 (qc ⟨A3, n, c3⟩ ⟨A5, o.q1.n, c5⟩) := O6; clear hown5 hg5 hb5 O5 HM HN5 OR5 HB5 O4 OR4 HB4 HN4 HQ4 OA4)
    | (refine load_q rfl _ rfl rfl O6 ?_)
    | (refine store_q rfl _ _ rfl rfl (s := ⟨A3, n, c3⟩) (u := ⟨A5, o.q1.n, c5⟩) rfl OR6 rfl ?_)
    | fail)
  refine bodyPost_ret (ret_q rfl _ rfl (OR6.row_same _)) rfl ?_
  exact ⟨⟨A3, n, c3⟩, ⟨A5, o.q1.n, c5⟩, rfl, ((HN6.out.mono (show W.heap.size + 1 + 1 ≤ W.heap.size + 2 + 1 by omega)).row _).mono (by omega), ((HM6.out.mono (show W.heap.size + 1 + 1 ≤ W.heap.size + 2 + 1 by omega)).row _).mono (by omega), below_row HB6.out (by omega) _⟩
set_option maxRecDepth 100000 in
set_option maxHeartbeats 4000000 in
theorem refQs1_any (o : Ob) (A : Option Addr) (n c : Nat) (D P : List UInt8) (W : World) (hD : Bytes W W.heap.size A n D) (hQ : Bytes W W.heap.size o.q0.A o.q0.n P) (hn : n ≤ 1000) (hq : o.q0.n ≤ 1000) : Calls Try.prog 58 #[.agg (oc o), .int .i64 1, .slice A n c] W (QsNew P D W) := by
  obtain ⟨w1, hw, OA, OR, OQ, hb, hs3⟩ : ∃ w1, ((W.alloc (.cells (oc o) 41)).alloc (.cells #[.slice none 0 0, .slice none 0 0] 37)).alloc (.cells #[.slice none 0 0, .slice none 0 0] 37) = w1 ∧ Obl w1 W.heap.size 41 (oc o) ∧ Obl w1 (W.heap.size + 1) 37 (qc noSl noSl) ∧ Obl w1 (W.heap.size + 2) 37 (qc noSl noSl) ∧ Below W.heap.size W w1 ∧ w1.heap.size = W.heap.size + 3 := by
    refine ⟨_, rfl, ((Obl.make W _ _).alloc _).alloc _, ?_, ?_, (((Below.refl _ _).alloc (Nat.le_refl _) _).alloc (by simp) _).alloc (by simp; omega) _, by simp⟩
    · have := Obl.make (W.alloc (.cells (oc o) 41)) 37 (qc noSl noSl)
      rw [World.size_alloc] at this
      exact this.alloc _
    · have := Obl.make ((W.alloc (.cells (oc o) 41)).alloc (.cells #[.slice none 0 0, .slice none 0 0] 37)) 37 (qc noSl noSl)
      rw [World.size_alloc, World.size_alloc] at this
      exact this
  have HD := hide ((hD.below hb).mono hb.size)
  have HQ := hide (hQ.below hb)
  have HB := hide hb
  have kz : w1.cell? ⟨W.heap.size + 2, 1, none⟩ = some (.slice none 0 0) := OQ.cell 1
  clear hb hD hQ
  go_enter Try.func58, Try.ntmps58
  go_wp2_with (first
    | (at_builtin; refine wpList_append_rd rfl _ _ _ rfl byteTy (A := none) (n := 0) (c := 0) (xs := []) (base := w1.heap.size) rfl own_none (S := A) (m := n) (d := c) (news := bv D) rfl HD.out.2 (bv_one _) (by unfold maxLen; omega) (by omega) (Nat.le_refl _) ?_; intro A3 c3 w3 hown3 hg3 _; rw [Nat.zero_add, List.nil_append] at hown3; rw [Nat.zero_add]; have hb3 := below_none hg3; have O3 := OQ.below hb3 OQ.lt; have z3 := O3.free 1; have k3 : w3.cell? ⟨W.heap.size + 2, 1, none⟩ = some (.slice none 0 0) := O3.cell 1; have HN := hide ((New8.own hown3).mono (show W.heap.size + 2 + 1 ≤ w1.heap.size by omega)); have OA3 := OA.below hb3 OA.lt; have OR3 := OR.below hb3 OR.lt; have HB3 := hide (HB.out.trans (hb3.mono HB.out.size)); have HQ3 := hide (HQ.out.belowLe hb3 (by omega)); have HN4 := hide (HN.out.put 1 (.slice A3 n c3)); have O4 := O3.put 1 (.slice A3 n c3); have OA4 := OA3.put_other (b' := W.heap.size + 2) (by omega) 1 (.slice A3 n c3); have OR4 := OR3.put_other (b' := W.heap.size + 2) (by omega) 1 (.slice A3 n c3); have HB4 := hide (HB3.out.setCell (p := ⟨W.heap.size + 2, 1, none⟩) (by simp only; omega) (.slice A3 n c3)); have HQ4 := hide (HQ3.out.below ((Below.refl W.heap.size w3).setCell (p := ⟨W.heap.size + 2, 1, none⟩) (by simp only; omega) (.slice A3 n c3))); obtain ⟨w4, hw4⟩ : ∃ w4, w3.setCell ⟨W.heap.size + 2, 1, none⟩ (.slice A3 n c3) = w4 := ⟨_, rfl⟩; rw [hw4] at O4 OA4 OR4 HB4 HQ4 HN4; replace O4 : Obl w4 (W.heap.size + 2) 37 (qc noSl ⟨A3, n, c3⟩) := O4; have kq4 : w4.cell? ⟨W.heap.size, 30, none⟩ = some (.slice o.q0.A o.q0.n o.q0.c) := OA4.cell 30; have ky4 : w4.cell? ⟨W.heap.size + 2, 0, none⟩ = some (.slice none 0 0) := O4.cell 0; have hs4 := HB4.out.size; have hl4 := O4.lt; clear hown3 hg3 hb3 O3 HN OA3 OR3 HB3 HQ3 OQ OA OR HB HQ HD)
    | (at_builtin; refine wpList_append_rd rfl _ _ _ rfl byteTy (A := none) (n := 0) (c := 0) (xs := []) (base := w4.heap.size) rfl own_none (S := o.q0.A) (m := o.q0.n) (d := o.q0.c) (news := bv P) rfl HQ4.out.2 (bv_one _) (by unfold maxLen; omega) (by omega) (Nat.le_refl _) ?_; intro A5 c5 w5 hown5 hg5 _; rw [Nat.zero_add, List.nil_append] at hown5; rw [Nat.zero_add]; have hb5 := below_none hg5; have O5 := O4.below hb5 O4.lt; have z5 := O5.free 0; have k5 : w5.cell? ⟨W.heap.size + 2, 0, none⟩ = some (.slice none 0 0) := O5.cell 0; have HM := hide ((New8.own hown5).mono (show W.heap.size + 2 + 1 ≤ w4.heap.size by omega)); have HM6 := hide (HM.out.put 0 (.slice A5 o.q0.n c5)); have HN5 := hide (HN4.out.below hb5); have HN6 := hide (HN5.out.put 0 (.slice A5 o.q0.n c5)); have OR5 := OR4.below hb5 OR4.lt; have OR6 := OR5.put_other (b' := W.heap.size + 2) (by omega) 0 (.slice A5 o.q0.n c5); have HB5 := hide (HB4.out.trans (hb5.mono HB4.out.size)); have HB6 := hide (HB5.out.setCell (p := ⟨W.heap.size + 2, 0, none⟩) (by simp only; omega) (.slice A5 o.q0.n c5)); have O6 := O5.put 0 (.slice A5 o.q0.n c5); obtain ⟨w6, hw6⟩ : ∃ w6, w5.setCell ⟨W.heap.size + 2, 0, none⟩ (.slice A5 o.q0.n c5) = w6 := ⟨_, rfl⟩; rw [hw6] at HM6 HN6 OR6 HB6 O6; replace O6 : Obl w6 (W.heap.size + 2) 37 (qc ⟨A5, o.q0.n, c5⟩ ⟨A3, n, c3⟩) := O6; clear hown5 hg5 hb5 O5 HM HN5 OR5 HB5 O4 OR4 HB4 HN4 HQ4 OA4)
    | (refine load_q rfl _ rfl rfl O6 ?_)
    | (refine store_q rfl _ _ rfl rfl (s := ⟨A5, o.q0.n, c5⟩) (u := ⟨A3, n, c3⟩) rfl OR6 rfl ?_)
    | fail)
  refine bodyPost_ret (ret_q rfl _ rfl (OR6.row_same _)) rfl ?_
  exact ⟨⟨A5, o.q0.n, c5⟩, ⟨A3, n, c3⟩, rfl, ((HM6.out.mono (show W.heap.size + 1 + 1 ≤ W.heap.size + 2 + 1 by omega)).row _).mono (by omega), ((HN6.out.mono (show W.heap.size + 1 + 1 ≤ W.heap.size + 2 + 1 by omega)).row _).mono (by omega), below_row HB6.out (by omega) _⟩
set_option maxRecDepth 100000 in
set_option maxHeartbeats 4000000 in
theorem refChRead_bad (o : Ob) (k : Int) (W : World) (hc : ¬ o.ChOk k) : Calls Try.prog 24 #[.agg (oc o), .int .i64 k] W (ReadNo 1 W) := by
  obtain ⟨w1, hw, O, OR, hb, hs⟩ := start_oz W o
  have HB := hide hb
  clear hb
  go_enter Try.func24, Try.ntmps24
  go_wp2_with (first | (refine load_ob rfl _ rfl rfl O ?_) | fail)
  refine (refChValid_any o _).mono ?_
  rintro e w2 ⟨rfl, hb2⟩
  have O2 := O.below hb2 O.lt
  have OR2 := OR.below hb2 OR.lt
  have HB2 := hide (HB.out.trans (hb2.mono HB.out.size))
  have hs2 := hb2.size
  clear hb2 hw O OR HB
  by_cases hp : o.Chan
  · have HE : Hid (¬ IsEnd k) := hide (fun h => hc ⟨hp, h⟩)
    rw [decide_eq_true hp]
    clear hp hc
    go_wp2_with (first | (go_at_call 57; refine (refEnd_any _ _).mono ?_; rintro e w2 ⟨rfl, rfl⟩; rw [decide_eq_false HE.out]) | (refine store_ob rfl _ _ rfl rfl (c := Ob.zero) rfl OR2 rfl ?_) | fail)
    refine bodyPost_ret (ret_tob rfl _ rfl rfl (OR2.row_same _)) rfl ?_
    exact ⟨rfl, below_row HB2.out (by omega) _⟩
  · rw [decide_eq_false hp]
    clear hp hc
    go_wp2_with (first | (refine store_ob rfl _ _ rfl rfl (c := Ob.zero) rfl OR2 rfl ?_) | fail)
    refine bodyPost_ret (ret_tob rfl _ rfl rfl (OR2.row_same _)) rfl ?_
    exact ⟨rfl, below_row HB2.out (by omega) _⟩
set_option maxRecDepth 100000 in
set_option maxHeartbeats 4000000 in
theorem refChWrite_bad (o : Ob) (k : Int) (c : UInt8) (W : World) (hc : ¬ o.ChOk k) : Calls Try.prog 26 #[.agg (oc o), .int .i64 k, .int .u8 (c.toNat : Int)] W (PageNo 1 W) := by
  obtain ⟨w1, hw, O, OR, hb, hs⟩ := start_oz W o
  have HB := hide hb
  clear hb
  go_enter Try.func26, Try.ntmps26
  go_wp2_with (first | (refine load_ob rfl _ rfl rfl O ?_) | fail)
  refine (refChValid_any o _).mono ?_
  rintro e w2 ⟨rfl, hb2⟩
  have O2 := O.below hb2 O.lt
  have OR2 := OR.below hb2 OR.lt
  have HB2 := hide (HB.out.trans (hb2.mono HB.out.size))
  have hs2 := hb2.size
  clear hb2 hw O OR HB
  by_cases hp : o.Chan
  · have HE : Hid (¬ IsEnd k) := hide (fun h => hc ⟨hp, h⟩)
    rw [decide_eq_true hp]
    clear hp hc
    go_wp2_with (first | (go_at_call 57; refine (refEnd_any _ _).mono ?_; rintro e w2 ⟨rfl, rfl⟩; rw [decide_eq_false HE.out]) | (refine store_ob rfl _ _ rfl rfl (c := Ob.zero) rfl OR2 rfl ?_) | fail)
    refine bodyPost_ret (ret_ob2 rfl _ rfl (OR2.row_same _)) rfl ?_
    exact ⟨rfl, below_row HB2.out (by omega) _⟩
  · rw [decide_eq_false hp]
    clear hp hc
    go_wp2_with (first | (refine store_ob rfl _ _ rfl rfl (c := Ob.zero) rfl OR2 rfl ?_) | fail)
    refine bodyPost_ret (ret_ob2 rfl _ rfl (OR2.row_same _)) rfl ?_
    exact ⟨rfl, below_row HB2.out (by omega) _⟩
set_option maxRecDepth 100000 in
set_option maxHeartbeats 4000000 in
theorem refChRead_wait0 (o : Ob) (W : World) (hc : o.ChOk 0) (hn : o.q1.n = 0) (he : 0 < o.e1) : Calls Try.prog 24 #[.agg (oc o), .int .i64 0] W (ReadNo 12 W) := by
  obtain ⟨w1, hw, O, OR, hb, hs⟩ := start_oz W o
  have HB := hide hb
  clear hb
  go_enter Try.func24, Try.ntmps24
  go_wp2_with (first | (refine load_ob rfl _ rfl rfl O ?_) | fail)
  refine (refChValid_any o _).mono ?_
  rintro e w2 ⟨rfl, hb2⟩
  have O2 := O.below hb2 O.lt
  have OR2 := OR.below hb2 OR.lt
  have HB2 := hide (HB.out.trans (hb2.mono HB.out.size))
  have hs2 := hb2.size
  have kq : w2.cell? ⟨W.heap.size, 31, none⟩ = some (.slice o.q1.A o.q1.n o.q1.c) := O2.cell 31
  have ke : w2.cell? ⟨W.heap.size, 33, none⟩ = some (.int .i64 o.e1) := O2.cell 33
  clear hb2 hw O OR HB
  rw [decide_eq_true hc.1]
  rw [hn] at kq
  clear hc hn
  go_wp2_with (first | (go_at_call 57; refine (refEnd_any _ _).mono ?_; rintro e w2 ⟨rfl, rfl⟩; rw [decide_eq_true (show IsEnd 0 from .inl rfl)]) | (refine store_ob rfl _ _ rfl rfl (c := Ob.zero) rfl OR2 rfl ?_) | fail)
  refine bodyPost_ret (ret_tob rfl _ rfl rfl (OR2.row_same _)) rfl ?_
  exact ⟨rfl, below_row HB2.out (by omega) _⟩
set_option maxRecDepth 100000 in
set_option maxHeartbeats 4000000 in
theorem refChRead_end0 (o : Ob) (W : World) (hc : o.ChOk 0) (hn : o.q1.n = 0) (he : o.e1 ≤ 0) : Calls Try.prog 24 #[.agg (oc o), .int .i64 0] W (RfEnd o W) := by
  obtain ⟨w1, hw, O, OR, hb, hs⟩ := start_oz W o
  have HB := hide hb
  clear hb
  go_enter Try.func24, Try.ntmps24
  go_wp2_with (first | (refine load_ob rfl _ rfl rfl O ?_) | fail)
  refine (refChValid_any o _).mono ?_
  rintro e w2 ⟨rfl, hb2⟩
  have O2 := O.below hb2 O.lt
  have OR2 := OR.below hb2 OR.lt
  have HB2 := hide (HB.out.trans (hb2.mono HB.out.size))
  have hs2 := hb2.size
  have kq : w2.cell? ⟨W.heap.size, 31, none⟩ = some (.slice o.q1.A o.q1.n o.q1.c) := O2.cell 31
  have ke : w2.cell? ⟨W.heap.size, 33, none⟩ = some (.int .i64 o.e1) := O2.cell 33
  clear hb2 hw O OR HB
  rw [decide_eq_true hc.1]
  rw [hn] at kq
  have he' : ¬ 0 < o.e1 := by omega
  clear hc hn he
  go_wp2_with (first | (go_at_call 57; refine (refEnd_any _ _).mono ?_; rintro e w2 ⟨rfl, rfl⟩; rw [decide_eq_true (show IsEnd 0 from .inl rfl)]) | fail)
  refine region_B (by kernel_rfl) (W.heap.size + 1) ?_
  replace O2 : Obl w2.drew W.heap.size 41 (oc o) := O2
  replace OR2 : Obl w2.drew (W.heap.size + 1) 41 (oc Ob.zero) := OR2
  replace HB2 : Hid (Below W.heap.size W w2.drew) := hide ⟨HB2.out.os, HB2.out.tape, HB2.out.output, HB2.out.size, HB2.out.block⟩
  clear kq ke
  generalize w2.drew = u0 at *
  refine takeB 0 rfl (by kernel_rfl) (fun _ _ _ h => h) (by rfl) (by intro w' hg; exact exec_load_ob rfl rfl (O2.below hg (Nat.lt_succ_self _))) ?_
  refine takeB 1 rfl (by kernel_rfl) (fun _ _ _ h => h) (by rfl) (by intro w' hg; go_simp; try with_reducible rfl) ?_
  go_simp
  refine onlyB 2 rfl (by kernel_rfl) (by rfl) ?_
  intro K hK
  refine wp_store_ch rfl rfl (c := o) rfl OR2 rfl ?_
  refine hK _ _ (below_row (Below.refl _ _) (Nat.le_refl _) _) ?_
  clear hK K
  have OR5 := OR2.row_same (oc o)
  have HF5 := hide (below_row HB2.out (g := W.heap.size + 1) (by omega) (oc o))
  obtain ⟨u5, hu5⟩ : ∃ u5, u0.setRow (W.heap.size + 1) (oc o) = u5 := ⟨_, rfl⟩
  rw [hu5] at OR5 HF5 ⊢
  refine takeB 3 rfl (by kernel_rfl) (fun _ _ _ h => h) (by rfl) (by intro w' hg; go_simp; try with_reducible rfl) ?_
  refine doneB (by kernel_rfl) ?_
  go_simp
  go_wp2_with fail
  refine bodyPost_ret (ret_tob rfl _ rfl rfl OR5) rfl ?_
  exact ⟨rfl, HF5.out⟩
set_option maxRecDepth 100000 in
set_option maxHeartbeats 4000000 in
theorem refChRead_ok0 (o : Ob) (x : UInt8) (P D : List UInt8) (W : World) (hc : o.ChOk 0) (hO : Bytes W W.heap.size o.q0.A o.q0.n P) (hX : Bytes W W.heap.size o.q1.A o.q1.n (x :: D)) (hcap : o.q1.n ≤ o.q1.c) : Calls Try.prog 24 #[.agg (oc o), .int .i64 0] W (RfRd o (x.toNat : Int) P D W) := by
  have HC := hide hc
  have hwx : IntKind.i64.wrap (x.toNat : Int) = (x.toNat : Int) := by have := x.toNat_lt; rw [IntKind.wrap_i64]; omega
  have hon : o.q0.n ≤ 1000 := by have := hc.1.2.2.2.1; have := hc.1.2.2.2.2.1; omega
  have hqn : o.q1.n ≤ 64 := by have := hc.1.2.2.2.1; have := hc.1.2.2.2.2.1; omega
  obtain ⟨A, hA⟩ : ∃ A, o.q1.A = A := ⟨_, rfl⟩
  obtain ⟨n, hn⟩ : ∃ n, o.q1.n = n := ⟨_, rfl⟩
  obtain ⟨c, hcc⟩ : ∃ c, o.q1.c = c := ⟨_, rfl⟩
  rw [hA, hn] at hX
  rw [hn, hcc] at hcap
  rw [hn] at hqn
  obtain ⟨p, rfl⟩ : ∃ p, n = p + 1 := ⟨D.length, by have := hX.len; simpa using this.symm⟩
  obtain ⟨b, f, hl, rfl, hlt, hc0⟩ := hX.at_ (k := 0) (by omega)
  rw [Nat.add_zero] at hc0
  replace hc0 : W.cell? ⟨b, f, none⟩ = some (.int .u8 (x.toNat : Int)) := hc0
  obtain ⟨AR, hAR⟩ : ∃ AR : Option Addr, (if c = 1 then some (⟨b, f, none⟩ : Addr) else some (⟨b, f + 1, none⟩ : Addr)) = AR := ⟨_, rfl⟩
  have hT : Bytes W W.heap.size AR p D := by
    by_cases hc : c = 1
    · have hp0 : p = 0 := by omega
      subst hp0
      have : D = [] := List.eq_nil_of_length_eq_zero (by have := hX.1; simp at this; simp [this])
      rw [this]
      exact Bytes.nil
    · rw [if_neg hc] at hAR
      subst hAR
      exact hX.tail
  clear hc hX hl
  obtain ⟨w1, hw, O, OR, hb, hs⟩ := start_oz W o
  have HB := hide hb
  have HO := hide (hO.below hb)
  have HT := hide (hT.below hb)
  have hc1 := (hb.cell (p := ⟨b, f, none⟩) hlt).trans hc0
  clear hb
  go_enter Try.func24, Try.ntmps24
  go_wp2_with (first | (refine load_ob rfl _ rfl rfl O ?_) | fail)
  refine (refChValid_any o _).mono ?_
  rintro e w2 ⟨rfl, hb2⟩
  have O2 := O.below hb2 O.lt
  have OR2 := OR.below hb2 OR.lt
  have HB2 := hide (HB.out.trans (hb2.mono HB.out.size))
  have hs2 := hb2.size
  have kq : w2.cell? ⟨W.heap.size, 31, none⟩ = some (.slice (some ⟨b, f, none⟩) (p + 1) c) := by rw [← hA, ← hn, ← hcc]; exact O2.cell 31
  have ke : w2.cell? ⟨W.heap.size, 33, none⟩ = some (.int .i64 o.e1) := O2.cell 33
  have HO2 := hide (HO.out.belowLe hb2 (by omega))
  have HT2 := hide (HT.out.belowLe hb2 (by omega))
  have hc2 := (hb2.cell (p := ⟨b, f, none⟩) (by show b < w1.heap.size; omega)).trans hc1
  clear hb2 hw O OR HB
  clear hA hn hcc hO hT hc0 hc1 HO HT ke
  rw [decide_eq_true HC.out.1]
  have h1p : (1 : Int) ≤ (p : Int) + 1 := by omega
  have hpb : ((p : Int) + 1 == 0) = false := by simp; omega
  have hpp : ¬ (p : Int) + 1 = 0 := by omega
  have hpc : (p : Int) + 1 ≤ (c : Int) := by omega
  have hp0 : (0 : Int) < (p : Int) + 1 := by omega
  go_wp2_with (first | (go_at_call 57; refine (refEnd_any _ _).mono ?_; rintro e w2 ⟨rfl, rfl⟩; rw [decide_eq_true (show IsEnd 0 from .inl rfl)]) | fail)
  refine region_C (by kernel_rfl) (W.heap.size + 1) [7] ?_
  replace O2 : Obl w2.drew W.heap.size 41 (oc o) := O2
  replace OR2 : Obl w2.drew (W.heap.size + 1) 41 (oc Ob.zero) := OR2
  replace HB2 : Hid (Below W.heap.size W w2.drew) := hide ⟨HB2.out.os, HB2.out.tape, HB2.out.output, HB2.out.size, HB2.out.block⟩
  replace HO2 : Hid (Bytes w2.drew W.heap.size o.q0.A o.q0.n P) := HO2
  replace HT2 : Hid (Bytes w2.drew W.heap.size AR p D) := HT2
  clear kq hc2
  generalize w2.drew = u0 at *
  have hR0 := OR2.lt
  refine takeC 0 [0, 5, 6, 7] rfl (by kernel_rfl) (fun _ _ _ h => h) (by rfl) (by intro w' hg; exact exec_load_ob rfl rfl (O2.below hg (Nat.lt_succ_self _))) ?_
  refine takeX 1 rfl (by kernel_rfl) (fun _ _ _ h => h) (by rfl) (by intro w'; go_simp; try with_reducible rfl) ?_
  refine takeX 2 rfl (by kernel_rfl) (fun _ _ _ h => h) (by rfl) (by intro w'; go_simp; try with_reducible rfl) ?_
  refine takeX 3 rfl (by kernel_rfl) (fun _ _ _ h => h) (by rfl) (by intro w'; go_simp; try with_reducible rfl) ?_
  refine takeX 4 rfl (by kernel_rfl) (fun _ _ _ h => h) (by rfl) (by intro w'; go_simp; try with_reducible rfl) ?_
  go_simp
  refine onlyC 5 rfl (by kernel_rfl) (by rfl) ?_
  intro K hK
  go_simp
  refine (refQs1_any o AR p (c - 1) D P _ (HT2.out.mono (by omega)) (HO2.out.mono (by omega)) (by omega) hon).mono ?_
  rintro e u1 ⟨s, t, rfl, hns, hnt, hb3⟩
  refine hK _ _ (fun _ => hb3.mono (by omega)) ?_
  clear hK K
  have O3 := O2.below hb3 O2.lt
  have OR3 := OR2.below hb3 OR2.lt
  have HB3 := hide (HB2.out.trans (hb3.mono HB2.out.size))
  have HNS := hide (hns.mono (show W.heap.size + 2 ≤ u0.heap.size by omega))
  have HNT := hide (hnt.mono (show W.heap.size + 2 ≤ u0.heap.size by omega))
  clear hb3 hns hnt HB2 O2 OR2 HO2 HT2
  refine takeX 6 rfl (by kernel_rfl) (fun _ _ _ h => h) (by rfl) (by intro w'; go_simp; try with_reducible rfl) ?_
  go_simp
  refine onlyC 7 rfl (by kernel_rfl) (by rfl) ?_
  intro K hK
  refine wp_store_two rfl qSize rfl (u := .slice s.A s.n s.c) (v := .slice t.A t.n t.c) rfl rfl rfl O3 (show (32 : Nat) ≤ 36 by decide) (k1 := 31) rfl ?_
  refine hK _ _ (fun h => absurd h (by decide)) ?_
  clear hK K
  have O5 := (O3.put 30 (.slice s.A s.n s.c)).put 31 (.slice t.A t.n t.c)
  have OR5 := (OR3.put_other (b' := W.heap.size) (by omega) 30 (.slice s.A s.n s.c)).put_other (b' := W.heap.size) (by omega) 31 (.slice t.A t.n t.c)
  have HB5 := hide ((HB3.out.setCell (p := ⟨W.heap.size, 30, none⟩) (Nat.le_refl _) (.slice s.A s.n s.c)).setCell (p := ⟨W.heap.size, 31, none⟩) (Nat.le_refl _) (.slice t.A t.n t.c))
  have HNS5 := hide (((HNS.out.mono (show W.heap.size + 1 ≤ W.heap.size + 2 by omega)).put 30 (.slice s.A s.n s.c)).put 31 (.slice t.A t.n t.c))
  have HNT5 := hide (((HNT.out.mono (show W.heap.size + 1 ≤ W.heap.size + 2 by omega)).put 30 (.slice s.A s.n s.c)).put 31 (.slice t.A t.n t.c))
  obtain ⟨u5, hu5⟩ : ∃ u5, (u1.setCell ⟨W.heap.size, 30, none⟩ (.slice s.A s.n s.c)).setCell ⟨W.heap.size, 31, none⟩ (.slice t.A t.n t.c) = u5 := ⟨_, rfl⟩
  rw [hu5] at O5 OR5 HB5 HNS5 HNT5 ⊢
  replace O5 : Obl u5 W.heap.size 41 (oc { o with q0 := s, q1 := t }) := O5
  replace HNS5 : Hid (New8 (W.heap.size + 2) u5 s P) := hide ⟨HNS5.out.1, HNS.out.2⟩
  replace HNT5 : Hid (New8 (W.heap.size + 2) u5 t D) := hide ⟨HNT5.out.1, HNT.out.2⟩
  clear HNS HNT HB3 O3 OR3
  refine doneC (by kernel_rfl) ?_
  go_simp
  go_wp2_with fail
  refine region_B (by kernel_rfl) (W.heap.size + 1) ?_
  replace O5 : Obl u5.drew W.heap.size 41 (oc { o with q0 := s, q1 := t }) := O5
  replace OR5 : Obl u5.drew (W.heap.size + 1) 41 (oc Ob.zero) := OR5
  replace HB5 : Hid (Below W.heap.size W u5.drew) := hide ⟨HB5.out.os, HB5.out.tape, HB5.out.output, HB5.out.size, HB5.out.block⟩
  replace HNS5 : Hid (New8 (W.heap.size + 2) u5.drew s P) := HNS5
  replace HNT5 : Hid (New8 (W.heap.size + 2) u5.drew t D) := HNT5
  generalize u5.drew = u6 at *
  refine takeB 0 rfl (by kernel_rfl) (fun _ _ _ h => h) (by rfl) (by intro w' hg; go_simp; try with_reducible rfl) ?_
  refine takeB 1 rfl (by kernel_rfl) (fun _ _ _ h => h) (by rfl) (by intro w' hg; go_simp; try with_reducible rfl) ?_
  refine takeB 2 rfl (by kernel_rfl) (fun _ _ _ h => h) (by rfl) (by intro w' hg; exact exec_load_ob rfl rfl (O5.below hg (Nat.lt_succ_self _))) ?_
  refine takeB 3 rfl (by kernel_rfl) (fun _ _ _ h => h) (by rfl) (by intro w' hg; go_simp; try with_reducible rfl) ?_
  go_simp
  refine onlyB 4 rfl (by kernel_rfl) (by rfl) ?_
  intro K hK
  refine wp_store_ch rfl rfl (c := { o with q0 := s, q1 := t }) rfl OR5 rfl ?_
  refine hK _ _ (below_row (Below.refl _ _) (Nat.le_refl _) _) ?_
  clear hK K
  have OR7 := OR5.row_same (oc { o with q0 := s, q1 := t })
  have HNS7 := hide (HNS5.out.row (oc { o with q0 := s, q1 := t }))
  have HNT7 := hide (HNT5.out.row (oc { o with q0 := s, q1 := t }))
  have HB7 := hide (below_row HB5.out (g := W.heap.size + 1) (by omega) (oc { o with q0 := s, q1 := t }))
  obtain ⟨u7, hu7⟩ : ∃ u7, u6.setRow (W.heap.size + 1) (oc { o with q0 := s, q1 := t }) = u7 := ⟨_, rfl⟩
  rw [hu7] at OR7 HNS7 HNT7 HB7 ⊢
  refine takeB 5 rfl (by kernel_rfl) (fun _ _ _ h => h) (by rfl) (by intro w' hg; go_simp; try with_reducible rfl) ?_
  refine doneB (by kernel_rfl) ?_
  go_simp
  go_wp2_with fail
  refine bodyPost_ret (ret_tob rfl _ rfl rfl OR7) rfl ?_
  exact ⟨s, t, rfl, HNS7.out.mono (by omega), HNT7.out.mono (by omega), HB7.out⟩
set_option maxRecDepth 100000 in
set_option maxHeartbeats 4000000 in
theorem refChRead_wait1 (o : Ob) (W : World) (hc : o.ChOk 1) (hn : o.q0.n = 0) (he : 0 < o.e0) : Calls Try.prog 24 #[.agg (oc o), .int .i64 1] W (ReadNo 12 W) := by
  obtain ⟨w1, hw, O, OR, hb, hs⟩ := start_oz W o
  have HB := hide hb
  clear hb
  go_enter Try.func24, Try.ntmps24
  go_wp2_with (first | (refine load_ob rfl _ rfl rfl O ?_) | fail)
  refine (refChValid_any o _).mono ?_
  rintro e w2 ⟨rfl, hb2⟩
  have O2 := O.below hb2 O.lt
  have OR2 := OR.below hb2 OR.lt
  have HB2 := hide (HB.out.trans (hb2.mono HB.out.size))
  have hs2 := hb2.size
  have kq : w2.cell? ⟨W.heap.size, 30, none⟩ = some (.slice o.q0.A o.q0.n o.q0.c) := O2.cell 30
  have ke : w2.cell? ⟨W.heap.size, 32, none⟩ = some (.int .i64 o.e0) := O2.cell 32
  clear hb2 hw O OR HB
  rw [decide_eq_true hc.1]
  rw [hn] at kq
  clear hc hn
  go_wp2_with (first | (go_at_call 57; refine (refEnd_any _ _).mono ?_; rintro e w2 ⟨rfl, rfl⟩; rw [decide_eq_true (show IsEnd 1 from .inr rfl)]) | (refine store_ob rfl _ _ rfl rfl (c := Ob.zero) rfl OR2 rfl ?_) | fail)
  refine bodyPost_ret (ret_tob rfl _ rfl rfl (OR2.row_same _)) rfl ?_
  exact ⟨rfl, below_row HB2.out (by omega) _⟩
set_option maxRecDepth 100000 in
set_option maxHeartbeats 4000000 in
theorem refChRead_end1 (o : Ob) (W : World) (hc : o.ChOk 1) (hn : o.q0.n = 0) (he : o.e0 ≤ 0) : Calls Try.prog 24 #[.agg (oc o), .int .i64 1] W (RfEnd o W) := by
  obtain ⟨w1, hw, O, OR, hb, hs⟩ := start_oz W o
  have HB := hide hb
  clear hb
  go_enter Try.func24, Try.ntmps24
  go_wp2_with (first | (refine load_ob rfl _ rfl rfl O ?_) | fail)
  refine (refChValid_any o _).mono ?_
  rintro e w2 ⟨rfl, hb2⟩
  have O2 := O.below hb2 O.lt
  have OR2 := OR.below hb2 OR.lt
  have HB2 := hide (HB.out.trans (hb2.mono HB.out.size))
  have hs2 := hb2.size
  have kq : w2.cell? ⟨W.heap.size, 30, none⟩ = some (.slice o.q0.A o.q0.n o.q0.c) := O2.cell 30
  have ke : w2.cell? ⟨W.heap.size, 32, none⟩ = some (.int .i64 o.e0) := O2.cell 32
  clear hb2 hw O OR HB
  rw [decide_eq_true hc.1]
  rw [hn] at kq
  have he' : ¬ 0 < o.e0 := by omega
  clear hc hn he
  go_wp2_with (first | (go_at_call 57; refine (refEnd_any _ _).mono ?_; rintro e w2 ⟨rfl, rfl⟩; rw [decide_eq_true (show IsEnd 1 from .inr rfl)]) | fail)
  refine region_B (by kernel_rfl) (W.heap.size + 1) ?_
  replace O2 : Obl w2.drew W.heap.size 41 (oc o) := O2
  replace OR2 : Obl w2.drew (W.heap.size + 1) 41 (oc Ob.zero) := OR2
  replace HB2 : Hid (Below W.heap.size W w2.drew) := hide ⟨HB2.out.os, HB2.out.tape, HB2.out.output, HB2.out.size, HB2.out.block⟩
  clear kq ke
  generalize w2.drew = u0 at *
  refine takeB 0 rfl (by kernel_rfl) (fun _ _ _ h => h) (by rfl) (by intro w' hg; exact exec_load_ob rfl rfl (O2.below hg (Nat.lt_succ_self _))) ?_
  refine takeB 1 rfl (by kernel_rfl) (fun _ _ _ h => h) (by rfl) (by intro w' hg; go_simp; try with_reducible rfl) ?_
  go_simp
  refine onlyB 2 rfl (by kernel_rfl) (by rfl) ?_
  intro K hK
  refine wp_store_ch rfl rfl (c := o) rfl OR2 rfl ?_
  refine hK _ _ (below_row (Below.refl _ _) (Nat.le_refl _) _) ?_
  clear hK K
  have OR5 := OR2.row_same (oc o)
  have HF5 := hide (below_row HB2.out (g := W.heap.size + 1) (by omega) (oc o))
  obtain ⟨u5, hu5⟩ : ∃ u5, u0.setRow (W.heap.size + 1) (oc o) = u5 := ⟨_, rfl⟩
  rw [hu5] at OR5 HF5 ⊢
  refine takeB 3 rfl (by kernel_rfl) (fun _ _ _ h => h) (by rfl) (by intro w' hg; go_simp; try with_reducible rfl) ?_
  refine doneB (by kernel_rfl) ?_
  go_simp
  go_wp2_with fail
  refine bodyPost_ret (ret_tob rfl _ rfl rfl OR5) rfl ?_
  exact ⟨rfl, HF5.out⟩
set_option maxRecDepth 100000 in
set_option maxHeartbeats 4000000 in
theorem refChRead_ok1 (o : Ob) (x : UInt8) (Q D : List UInt8) (W : World) (hc : o.ChOk 1) (hO : Bytes W W.heap.size o.q1.A o.q1.n Q) (hX : Bytes W W.heap.size o.q0.A o.q0.n (x :: D)) (hcap : o.q0.n ≤ o.q0.c) : Calls Try.prog 24 #[.agg (oc o), .int .i64 1] W (RfRd o (x.toNat : Int) D Q W) := by
  have HC := hide hc
  have hwx : IntKind.i64.wrap (x.toNat : Int) = (x.toNat : Int) := by have := x.toNat_lt; rw [IntKind.wrap_i64]; omega
  have hon : o.q1.n ≤ 1000 := by have := hc.1.2.2.2.1; have := hc.1.2.2.2.2.1; omega
  have hqn : o.q0.n ≤ 64 := by have := hc.1.2.2.2.1; have := hc.1.2.2.2.2.1; omega
  obtain ⟨A, hA⟩ : ∃ A, o.q0.A = A := ⟨_, rfl⟩
  obtain ⟨n, hn⟩ : ∃ n, o.q0.n = n := ⟨_, rfl⟩
  obtain ⟨c, hcc⟩ : ∃ c, o.q0.c = c := ⟨_, rfl⟩
  rw [hA, hn] at hX
  rw [hn, hcc] at hcap
  rw [hn] at hqn
  obtain ⟨p, rfl⟩ : ∃ p, n = p + 1 := ⟨D.length, by have := hX.len; simpa using this.symm⟩
  obtain ⟨b, f, hl, rfl, hlt, hc0⟩ := hX.at_ (k := 0) (by omega)
  rw [Nat.add_zero] at hc0
  replace hc0 : W.cell? ⟨b, f, none⟩ = some (.int .u8 (x.toNat : Int)) := hc0
  obtain ⟨AR, hAR⟩ : ∃ AR : Option Addr, (if c = 1 then some (⟨b, f, none⟩ : Addr) else some (⟨b, f + 1, none⟩ : Addr)) = AR := ⟨_, rfl⟩
  have hT : Bytes W W.heap.size AR p D := by
    by_cases hc : c = 1
    · have hp0 : p = 0 := by omega
      subst hp0
      have : D = [] := List.eq_nil_of_length_eq_zero (by have := hX.1; simp at this; simp [this])
      rw [this]
      exact Bytes.nil
    · rw [if_neg hc] at hAR
      subst hAR
      exact hX.tail
  clear hc hX hl
  obtain ⟨w1, hw, O, OR, hb, hs⟩ := start_oz W o
  have HB := hide hb
  have HO := hide (hO.below hb)
  have HT := hide (hT.below hb)
  have hc1 := (hb.cell (p := ⟨b, f, none⟩) hlt).trans hc0
  clear hb
  go_enter Try.func24, Try.ntmps24
  go_wp2_with (first | (refine load_ob rfl _ rfl rfl O ?_) | fail)
  refine (refChValid_any o _).mono ?_
  rintro e w2 ⟨rfl, hb2⟩
  have O2 := O.below hb2 O.lt
  have OR2 := OR.below hb2 OR.lt
  have HB2 := hide (HB.out.trans (hb2.mono HB.out.size))
  have hs2 := hb2.size
  have kq : w2.cell? ⟨W.heap.size, 30, none⟩ = some (.slice (some ⟨b, f, none⟩) (p + 1) c) := by rw [← hA, ← hn, ← hcc]; exact O2.cell 30
  have ke : w2.cell? ⟨W.heap.size, 32, none⟩ = some (.int .i64 o.e0) := O2.cell 32
  have HO2 := hide (HO.out.belowLe hb2 (by omega))
  have HT2 := hide (HT.out.belowLe hb2 (by omega))
  have hc2 := (hb2.cell (p := ⟨b, f, none⟩) (by show b < w1.heap.size; omega)).trans hc1
  clear hb2 hw O OR HB
  clear hA hn hcc hO hT hc0 hc1 HO HT ke
  rw [decide_eq_true HC.out.1]
  have h1p : (1 : Int) ≤ (p : Int) + 1 := by omega
  have hpb : ((p : Int) + 1 == 0) = false := by simp; omega
  have hpp : ¬ (p : Int) + 1 = 0 := by omega
  have hpc : (p : Int) + 1 ≤ (c : Int) := by omega
  have hp0 : (0 : Int) < (p : Int) + 1 := by omega
  go_wp2_with (first | (go_at_call 57; refine (refEnd_any _ _).mono ?_; rintro e w2 ⟨rfl, rfl⟩; rw [decide_eq_true (show IsEnd 1 from .inr rfl)]) | fail)
  refine region_C (by kernel_rfl) (W.heap.size + 1) [7] ?_
  replace O2 : Obl w2.drew W.heap.size 41 (oc o) := O2
  replace OR2 : Obl w2.drew (W.heap.size + 1) 41 (oc Ob.zero) := OR2
  replace HB2 : Hid (Below W.heap.size W w2.drew) := hide ⟨HB2.out.os, HB2.out.tape, HB2.out.output, HB2.out.size, HB2.out.block⟩
  replace HO2 : Hid (Bytes w2.drew W.heap.size o.q1.A o.q1.n Q) := HO2
  replace HT2 : Hid (Bytes w2.drew W.heap.size AR p D) := HT2
  clear kq hc2
  generalize w2.drew = u0 at *
  have hR0 := OR2.lt
  refine takeC 0 [0, 5, 6, 7] rfl (by kernel_rfl) (fun _ _ _ h => h) (by rfl) (by intro w' hg; exact exec_load_ob rfl rfl (O2.below hg (Nat.lt_succ_self _))) ?_
  refine takeX 1 rfl (by kernel_rfl) (fun _ _ _ h => h) (by rfl) (by intro w'; go_simp; try with_reducible rfl) ?_
  refine takeX 2 rfl (by kernel_rfl) (fun _ _ _ h => h) (by rfl) (by intro w'; go_simp; try with_reducible rfl) ?_
  refine takeX 3 rfl (by kernel_rfl) (fun _ _ _ h => h) (by rfl) (by intro w'; go_simp; try with_reducible rfl) ?_
  refine takeX 4 rfl (by kernel_rfl) (fun _ _ _ h => h) (by rfl) (by intro w'; go_simp; try with_reducible rfl) ?_
  go_simp
  refine onlyC 5 rfl (by kernel_rfl) (by rfl) ?_
  intro K hK
  go_simp
  refine (refQs0_any o AR p (c - 1) D Q _ (HT2.out.mono (by omega)) (HO2.out.mono (by omega)) (by omega) hon).mono ?_
  rintro e u1 ⟨s, t, rfl, hns, hnt, hb3⟩
  refine hK _ _ (fun _ => hb3.mono (by omega)) ?_
  clear hK K
  have O3 := O2.below hb3 O2.lt
  have OR3 := OR2.below hb3 OR2.lt
  have HB3 := hide (HB2.out.trans (hb3.mono HB2.out.size))
  have HNS := hide (hns.mono (show W.heap.size + 2 ≤ u0.heap.size by omega))
  have HNT := hide (hnt.mono (show W.heap.size + 2 ≤ u0.heap.size by omega))
  clear hb3 hns hnt HB2 O2 OR2 HO2 HT2
  refine takeX 6 rfl (by kernel_rfl) (fun _ _ _ h => h) (by rfl) (by intro w'; go_simp; try with_reducible rfl) ?_
  go_simp
  refine onlyC 7 rfl (by kernel_rfl) (by rfl) ?_
  intro K hK
  refine wp_store_two rfl qSize rfl (u := .slice s.A s.n s.c) (v := .slice t.A t.n t.c) rfl rfl rfl O3 (show (32 : Nat) ≤ 36 by decide) (k1 := 31) rfl ?_
  refine hK _ _ (fun h => absurd h (by decide)) ?_
  clear hK K
  have O5 := (O3.put 30 (.slice s.A s.n s.c)).put 31 (.slice t.A t.n t.c)
  have OR5 := (OR3.put_other (b' := W.heap.size) (by omega) 30 (.slice s.A s.n s.c)).put_other (b' := W.heap.size) (by omega) 31 (.slice t.A t.n t.c)
  have HB5 := hide ((HB3.out.setCell (p := ⟨W.heap.size, 30, none⟩) (Nat.le_refl _) (.slice s.A s.n s.c)).setCell (p := ⟨W.heap.size, 31, none⟩) (Nat.le_refl _) (.slice t.A t.n t.c))
  have HNS5 := hide (((HNS.out.mono (show W.heap.size + 1 ≤ W.heap.size + 2 by omega)).put 30 (.slice s.A s.n s.c)).put 31 (.slice t.A t.n t.c))
  have HNT5 := hide (((HNT.out.mono (show W.heap.size + 1 ≤ W.heap.size + 2 by omega)).put 30 (.slice s.A s.n s.c)).put 31 (.slice t.A t.n t.c))
  obtain ⟨u5, hu5⟩ : ∃ u5, (u1.setCell ⟨W.heap.size, 30, none⟩ (.slice s.A s.n s.c)).setCell ⟨W.heap.size, 31, none⟩ (.slice t.A t.n t.c) = u5 := ⟨_, rfl⟩
  rw [hu5] at O5 OR5 HB5 HNS5 HNT5 ⊢
  replace O5 : Obl u5 W.heap.size 41 (oc { o with q0 := s, q1 := t }) := O5
  replace HNS5 : Hid (New8 (W.heap.size + 2) u5 s D) := hide ⟨HNS5.out.1, HNS.out.2⟩
  replace HNT5 : Hid (New8 (W.heap.size + 2) u5 t Q) := hide ⟨HNT5.out.1, HNT.out.2⟩
  clear HNS HNT HB3 O3 OR3
  refine doneC (by kernel_rfl) ?_
  go_simp
  go_wp2_with fail
  refine region_B (by kernel_rfl) (W.heap.size + 1) ?_
  replace O5 : Obl u5.drew W.heap.size 41 (oc { o with q0 := s, q1 := t }) := O5
  replace OR5 : Obl u5.drew (W.heap.size + 1) 41 (oc Ob.zero) := OR5
  replace HB5 : Hid (Below W.heap.size W u5.drew) := hide ⟨HB5.out.os, HB5.out.tape, HB5.out.output, HB5.out.size, HB5.out.block⟩
  replace HNS5 : Hid (New8 (W.heap.size + 2) u5.drew s D) := HNS5
  replace HNT5 : Hid (New8 (W.heap.size + 2) u5.drew t Q) := HNT5
  generalize u5.drew = u6 at *
  refine takeB 0 rfl (by kernel_rfl) (fun _ _ _ h => h) (by rfl) (by intro w' hg; go_simp; try with_reducible rfl) ?_
  refine takeB 1 rfl (by kernel_rfl) (fun _ _ _ h => h) (by rfl) (by intro w' hg; go_simp; try with_reducible rfl) ?_
  refine takeB 2 rfl (by kernel_rfl) (fun _ _ _ h => h) (by rfl) (by intro w' hg; exact exec_load_ob rfl rfl (O5.below hg (Nat.lt_succ_self _))) ?_
  refine takeB 3 rfl (by kernel_rfl) (fun _ _ _ h => h) (by rfl) (by intro w' hg; go_simp; try with_reducible rfl) ?_
  go_simp
  refine onlyB 4 rfl (by kernel_rfl) (by rfl) ?_
  intro K hK
  refine wp_store_ch rfl rfl (c := { o with q0 := s, q1 := t }) rfl OR5 rfl ?_
  refine hK _ _ (below_row (Below.refl _ _) (Nat.le_refl _) _) ?_
  clear hK K
  have OR7 := OR5.row_same (oc { o with q0 := s, q1 := t })
  have HNS7 := hide (HNS5.out.row (oc { o with q0 := s, q1 := t }))
  have HNT7 := hide (HNT5.out.row (oc { o with q0 := s, q1 := t }))
  have HB7 := hide (below_row HB5.out (g := W.heap.size + 1) (by omega) (oc { o with q0 := s, q1 := t }))
  obtain ⟨u7, hu7⟩ : ∃ u7, u6.setRow (W.heap.size + 1) (oc { o with q0 := s, q1 := t }) = u7 := ⟨_, rfl⟩
  rw [hu7] at OR7 HNS7 HNT7 HB7 ⊢
  refine takeB 5 rfl (by kernel_rfl) (fun _ _ _ h => h) (by rfl) (by intro w' hg; go_simp; try with_reducible rfl) ?_
  refine doneB (by kernel_rfl) ?_
  go_simp
  go_wp2_with fail
  refine bodyPost_ret (ret_tob rfl _ rfl rfl OR7) rfl ?_
  exact ⟨s, t, rfl, HNS7.out.mono (by omega), HNT7.out.mono (by omega), HB7.out⟩
set_option maxRecDepth 100000 in
set_option maxHeartbeats 4000000 in
theorem refChWrite_no0 (o : Ob) (c : UInt8) (W : World) (hc : o.ChOk 0) (hn : o.chWr 0 ≠ 0) : Calls Try.prog 26 #[.agg (oc o), .int .i64 0, .int .u8 (c.toNat : Int)] W (PageNo (o.chWr 0) W) := by
  have HC := hide hc
  clear hc
  obtain ⟨w1, hw, O, OR, hb, hs⟩ := start_oz W o
  have HB := hide hb
  clear hb
  go_enter Try.func26, Try.ntmps26
  go_wp2_with (first | (refine load_ob rfl _ rfl rfl O ?_) | fail)
  refine (refChValid_any o _).mono ?_
  rintro e w2 ⟨rfl, hb2⟩
  have O2 := O.below hb2 O.lt
  have OR2 := OR.below hb2 OR.lt
  have HB2 := hide (HB.out.trans (hb2.mono HB.out.size))
  have hs2 := hb2.size
  have kq : w2.cell? ⟨W.heap.size, 30, none⟩ = some (.slice o.q0.A o.q0.n o.q0.c) := O2.cell 30
  have ke : w2.cell? ⟨W.heap.size, 33, none⟩ = some (.int .i64 o.e1) := O2.cell 33
  clear hb2 hw O OR HB
  rw [decide_eq_true HC.out.1]
  by_cases he : o.e1 = 0
  · have HE : Hid (o.chWr 0 = 13) := hide (by unfold Ob.chWr; rw [if_pos HC.out, if_pos (show o.eAt (1 - 0) = 0 from he)])
    rw [he] at ke
    clear he hn
    go_wp2_with (first | (go_at_call 57; refine (refEnd_any _ _).mono ?_; rintro e w2 ⟨rfl, rfl⟩; rw [decide_eq_true (show IsEnd 0 from .inl rfl)]) | (refine store_ob rfl _ _ rfl rfl (c := Ob.zero) rfl OR2 rfl ?_) | fail)
    refine bodyPost_ret (ret_ob2 rfl _ rfl (OR2.row_same _)) rfl ?_
    exact ⟨by rw [HE.out]; rfl, below_row HB2.out (by omega) _⟩
  · have hq : 64 ≤ o.q0.n := by
      by_cases h : 64 ≤ o.q0.n
      · exact h
      · exact absurd (by unfold Ob.chWr; rw [if_pos HC.out, if_neg (show ¬ o.eAt (1 - 0) = 0 from he), if_neg (show ¬ 64 ≤ (o.qAt 0).n from h)]) hn
    have HE : Hid (o.chWr 0 = 12) := hide (by unfold Ob.chWr; rw [if_pos HC.out, if_neg (show ¬ o.eAt (1 - 0) = 0 from he), if_pos (show 64 ≤ (o.qAt 0).n from hq)])
    have hq' : (64 : Int) ≤ (o.q0.n : Int) := by omega
    have hb0 : (o.e1 == 0) = false := by simpa using he
    clear he hn hq
    go_wp2_with (first | (go_at_call 57; refine (refEnd_any _ _).mono ?_; rintro e w2 ⟨rfl, rfl⟩; rw [decide_eq_true (show IsEnd 0 from .inl rfl)]) | (refine store_ob rfl _ _ rfl rfl (c := Ob.zero) rfl OR2 rfl ?_) | fail)
    refine bodyPost_ret (ret_ob2 rfl _ rfl (OR2.row_same _)) rfl ?_
    exact ⟨by rw [HE.out]; rfl, below_row HB2.out (by omega) _⟩
set_option maxRecDepth 100000 in
set_option maxHeartbeats 4000000 in
theorem refChWrite_ok0 (o : Ob) (c : UInt8) (P Q : List UInt8) (W : World) (hc : o.ChOk 0) (he : o.e1 ≠ 0) (hn : o.q0.n < 64) (hP : Bytes W W.heap.size o.q0.A o.q0.n P) (hQ : Bytes W W.heap.size o.q1.A o.q1.n Q) : Calls Try.prog 26 #[.agg (oc o), .int .i64 0, .int .u8 (c.toNat : Int)] W (RfWr o (P ++ [c]) Q W) := by
  have HC := hide hc
  have hb0 : (o.e1 == 0) = false := by simpa using he
  have hn' : ¬ (64 : Int) ≤ (o.q0.n : Int) := by omega
  have hon : o.q1.n ≤ 1000 := by have := hc.1.2.2.2.1; have := hc.1.2.2.2.2.1; omega
  clear hc he
  obtain ⟨w1, hw, O, OR, hb, hs⟩ := start_oz W o
  have HB := hide hb
  have HX := hide (hP.below hb)
  have HO := hide (hQ.below hb)
  clear hb
  go_enter Try.func26, Try.ntmps26
  go_wp2_with (first | (refine load_ob rfl _ rfl rfl O ?_) | fail)
  refine (refChValid_any o _).mono ?_
  rintro e w2 ⟨rfl, hb2⟩
  have O2 := O.below hb2 O.lt
  have OR2 := OR.below hb2 OR.lt
  have HB2 := hide (HB.out.trans (hb2.mono HB.out.size))
  have hs2 := hb2.size
  have kq : w2.cell? ⟨W.heap.size, 30, none⟩ = some (.slice o.q0.A o.q0.n o.q0.c) := O2.cell 30
  have ke : w2.cell? ⟨W.heap.size, 33, none⟩ = some (.int .i64 o.e1) := O2.cell 33
  have HX2 := hide (HX.out.belowLe hb2 (by omega))
  have HO2 := hide (HO.out.belowLe hb2 (by omega))
  clear hb2 hw O OR HB
  clear hP hQ HX HO
  rw [decide_eq_true HC.out.1]
  go_wp2_with (first | (go_at_call 57; refine (refEnd_any _ _).mono ?_; rintro e w2 ⟨rfl, rfl⟩; rw [decide_eq_true (show IsEnd 0 from .inl rfl)]) | fail)
  obtain ⟨n, hnn⟩ : ∃ n, o.q0.n = n := ⟨_, rfl⟩
  have hn1 : n < 64 := hnn ▸ hn
  refine region_C (by kernel_rfl) (W.heap.size + 1) [12] ?_
  replace O2 : Obl w2.drew W.heap.size 41 (oc o) := O2
  replace OR2 : Obl w2.drew (W.heap.size + 1) 41 (oc Ob.zero) := OR2
  replace HB2 : Hid (Below W.heap.size W w2.drew) := hide ⟨HB2.out.os, HB2.out.tape, HB2.out.output, HB2.out.size, HB2.out.block⟩
  replace HX2 : Hid (Bytes w2.drew W.heap.size o.q0.A n P) := hnn ▸ HX2
  replace HO2 : Hid (Bytes w2.drew W.heap.size o.q1.A o.q1.n Q) := HO2
  replace kq : w2.drew.cell? ⟨W.heap.size, 30, none⟩ = some (.slice o.q0.A n o.q0.c) := hnn ▸ kq
  clear ke hnn hn hn'
  generalize w2.drew = u0 at *
  have hR0 := OR2.lt
  refine takeC 0 [0, 10, 11, 12] rfl (by kernel_rfl) (fun _ _ _ h => h) (by rfl) (by intro w' hg; exact exec_load_ob rfl rfl (O2.below hg (Nat.lt_succ_self _))) ?_
  refine takeX 1 rfl (by kernel_rfl) (fun _ _ _ h => h) (by rfl) (by intro w'; go_simp; try with_reducible rfl) ?_
  refine takeX 2 rfl (by kernel_rfl) (fun _ _ _ h => h) (by rfl) (by intro w'; go_simp; try with_reducible rfl) ?_
  refine takeX 3 rfl (by kernel_rfl) (fun _ _ _ h => h) (by rfl) (by intro w'; go_simp; try with_reducible rfl) ?_
  refine takeX 4 rfl (by kernel_rfl) (fun _ _ _ h => h) (by rfl) (by intro w'; go_simp; try with_reducible rfl) ?_
  refine takeC 5 [5, 6, 9, 10, 11, 12] rfl (by kernel_rfl) (fun _ _ _ h => h) (by rfl) (by intro w' hg; have g0 := (hg.cell (p := ⟨W.heap.size, 30, none⟩) (Nat.lt_succ_self _)).trans kq; go_simp; try with_reducible rfl) ?_
  refine takeX 7 rfl (by kernel_rfl) (fun _ _ _ h => h) (by rfl) (by intro w'; go_simp; try with_reducible rfl) ?_
  clear kq
  go_simp
  refine twoC 6 8 rfl rfl (by kernel_rfl) (by rfl) (by rfl) ?_ ?_
  · intro K hK
    refine wp_append_rd _ _ _ rfl byteTy (A := none) (n := 0) (c := 0) (xs := []) (base := u0.heap.size) rfl own_none (S := o.q0.A) (m := n) (d := o.q0.c) (news := bv P) rfl (HX2.out).2 (bv_one _) (by unfold maxLen; omega) (by omega) (Nat.le_refl _) ?_
    intro A3 c3 u1 hown hg3 _
    rw [Nat.zero_add, List.nil_append] at hown
    rw [Nat.zero_add]
    have hb3 := below_none hg3
    refine hK _ _ (fun _ => hb3.mono (by omega)) ?_
    clear hK K
    have O3 := O2.below hb3 O2.lt
    have OR3 := OR2.below hb3 OR2.lt
    have HB3 := hide (HB2.out.trans (hb3.mono HB2.out.size))
    have HO3 := hide (HO2.out.belowLe hb3 (by omega))
    have hs3 := hb3.size
    have HW3 := hide hown
    clear hg3 hown hb3
    go_simp
    refine onlyC 8 rfl (by kernel_rfl) (by rfl) ?_
    intro K hK
    refine wp_yield (exec_one8 rfl rfl) ?_
    have hb4 := (Below.refl u1.heap.size u1).alloc (Nat.le_refl _) (.cells #[.int .u8 (c.toNat : Int)] 5)
    refine hK _ _ (fun _ => hb4.mono (by omega)) ?_
    clear hK K
    replace O2 := O3.below hb4 O3.lt
    replace OR2 := OR3.below hb4 OR3.lt
    replace HB2 := hide (HB3.out.trans (hb4.mono HB3.out.size))
    replace HO2 := hide (HO3.out.belowLe hb4 (by omega))
    have HOW := hide (own_below HW3.out hb4)
    have HRW := hide (Row.new u1 (.int .u8 (c.toNat : Int)) 5)
    have hg2 : u0.heap.size ≤ (u1.alloc (.cells #[.int .u8 (c.toNat : Int)] 5)).heap.size := by simp; omega
    clear hb4 O3 OR3 HB3 HO3 HW3 HX2
    generalize u1.alloc (.cells #[.int .u8 (c.toNat : Int)] 5) = u2 at *
    generalize u1.heap.size = g1 at *
    generalize u0.heap.size = g0 at *
    go_simp
    refine onlyC 9 rfl (by kernel_rfl) (by rfl) ?_
    intro K hK
    refine wp_append_rd _ _ _ rfl byteTy (base := g0) rfl HOW.out rfl HRW.out (by simp [Value.oneCell']) (by unfold maxLen; omega) (by omega) hg2 ?_
    intro A4 c4 u3 hown4 hg4 _
    rw [bv_snoc_u8] at hown4
    have hbW : ∀ p, A3 = some p → g0 ≤ p.block := above_own HOW.out
    refine hK _ _ (fun _ => below_own (Below.refl (W.heap.size + 1) u2) (own_weaken HOW.out (by omega)) hg4 (by omega)) ?_
    clear hK K
    have O3 := O2.grown hg4 (blk_ne (fun p hp e => by have := hbW p hp; omega))
    have OR3 := OR2.grown hg4 (blk_ne (fun p hp e => by have := hbW p hp; omega))
    have HB3 := hide (below_own HB2.out (own_weaken HOW.out (by omega)) hg4 HB2.out.size)
    have HO3 := hide (HO2.out.below (below_own (Below.refl W.heap.size u2) (own_weaken HOW.out (by omega)) hg4 (by omega)))
    have HN3 := hide (Bytes.of_own hown4)
    have hs3 := hg4.size
    clear hown4 hg4 hbW O2 OR2 HB2 HO2 HOW HRW
    go_simp
    refine onlyC 10 rfl (by kernel_rfl) (by rfl) ?_
    intro K hK
    go_simp
    refine (refQs0_any o A4 (n + 1) c4 (P ++ [c]) Q _ HN3.out (HO3.out.mono (by omega)) (by omega) hon).mono ?_
    rintro e u4 ⟨s, t, rfl, hns, hnt, hb4⟩
    refine hK _ _ (fun _ => hb4.mono (by omega)) ?_
    clear hK K
    have O4 := O3.below hb4 O3.lt
    have OR4 := OR3.below hb4 OR3.lt
    have HB4 := hide (HB3.out.trans (hb4.mono HB3.out.size))
    have HNS := hide (hns.mono (show W.heap.size + 2 ≤ u3.heap.size by omega))
    have HNT := hide (hnt.mono (show W.heap.size + 2 ≤ u3.heap.size by omega))
    clear hb4 hns hnt HB3 O3 OR3 HO3 HN3
    refine takeX 11 rfl (by kernel_rfl) (fun _ _ _ h => h) (by rfl) (by intro w'; go_simp; try with_reducible rfl) ?_
    go_simp
    refine onlyC 12 rfl (by kernel_rfl) (by rfl) ?_
    intro K hK
    refine wp_store_two rfl qSize rfl (u := .slice s.A s.n s.c) (v := .slice t.A t.n t.c) rfl rfl rfl O4 (show (32 : Nat) ≤ 36 by decide) (k1 := 31) rfl ?_
    refine hK _ _ (fun h => absurd h (by decide)) ?_
    clear hK K
    have O5 := (O4.put 30 (.slice s.A s.n s.c)).put 31 (.slice t.A t.n t.c)
    have OR5 := (OR4.put_other (b' := W.heap.size) (by omega) 30 (.slice s.A s.n s.c)).put_other (b' := W.heap.size) (by omega) 31 (.slice t.A t.n t.c)
    have HB5 := hide ((HB4.out.setCell (p := ⟨W.heap.size, 30, none⟩) (Nat.le_refl _) (.slice s.A s.n s.c)).setCell (p := ⟨W.heap.size, 31, none⟩) (Nat.le_refl _) (.slice t.A t.n t.c))
    have HNS5 := hide (((HNS.out.mono (show W.heap.size + 1 ≤ W.heap.size + 2 by omega)).put 30 (.slice s.A s.n s.c)).put 31 (.slice t.A t.n t.c))
    have HNT5 := hide (((HNT.out.mono (show W.heap.size + 1 ≤ W.heap.size + 2 by omega)).put 30 (.slice s.A s.n s.c)).put 31 (.slice t.A t.n t.c))
    obtain ⟨u5, hu5⟩ : ∃ u5, (u4.setCell ⟨W.heap.size, 30, none⟩ (.slice s.A s.n s.c)).setCell ⟨W.heap.size, 31, none⟩ (.slice t.A t.n t.c) = u5 := ⟨_, rfl⟩
    rw [hu5] at O5 OR5 HB5 HNS5 HNT5 ⊢
    replace O5 : Obl u5 W.heap.size 41 (oc { o with q0 := s, q1 := t }) := O5
    replace HNS5 : Hid (New8 (W.heap.size + 2) u5 s (P ++ [c])) := hide ⟨HNS5.out.1, HNS.out.2⟩
    replace HNT5 : Hid (New8 (W.heap.size + 2) u5 t Q) := hide ⟨HNT5.out.1, HNT.out.2⟩
    clear HNS HNT HB4 O4 OR4
    refine doneC (by kernel_rfl) ?_
    go_simp
    go_wp2_with (first | (refine load_ob rfl _ rfl rfl O5 ?_) | (refine store_ob rfl _ _ rfl rfl (c := { o with q0 := s, q1 := t }) rfl OR5 rfl ?_) | fail)
    refine bodyPost_ret (ret_ob2 rfl _ rfl (OR5.row_same _)) rfl ?_
    exact ⟨s, t, rfl, (HNS5.out.mono (show W.heap.size + 1 + 1 ≤ W.heap.size + 2 by omega)).row _ |>.mono (by omega), (HNT5.out.mono (show W.heap.size + 1 + 1 ≤ W.heap.size + 2 by omega)).row _ |>.mono (by omega), below_row HB5.out (by omega) _⟩
  · intro K hK
    refine wp_yield (exec_one8 rfl rfl) ?_
    have hb4 := (Below.refl u0.heap.size u0).alloc (Nat.le_refl _) (.cells #[.int .u8 (c.toNat : Int)] 5)
    refine hK _ _ (fun _ => hb4.mono (by omega)) ?_
    clear hK K
    have O3 := O2.below hb4 O2.lt
    have OR3 := OR2.below hb4 OR2.lt
    have HB3 := hide (HB2.out.trans (hb4.mono HB2.out.size))
    have HO3 := hide (HO2.out.belowLe hb4 (by omega))
    have HX3 := hide ((HX2.out.belowLe hb4 (by omega)))
    have HR3 := hide (Row.new u0 (.int .u8 (c.toNat : Int)) 5)
    have hs3 : u0.heap.size + 1 ≤ (u0.alloc (.cells #[.int .u8 (c.toNat : Int)] 5)).heap.size := by simp
    clear hb4 O2 OR2 HB2 HO2 HX2
    generalize u0.alloc (.cells #[.int .u8 (c.toNat : Int)] 5) = u1 at *
    generalize u0.heap.size = g1 at *
    go_simp
    refine onlyC 6 rfl (by kernel_rfl) (by rfl) ?_
    intro K hK
    refine wp_append_rd _ _ _ rfl byteTy (A := none) (n := 0) (c := 0) (xs := []) (base := u1.heap.size) rfl own_none (S := o.q0.A) (m := n) (d := o.q0.c) (news := bv P) rfl (HX3.out).2 (bv_one _) (by unfold maxLen; omega) (by omega) (Nat.le_refl _) ?_
    intro A3 c3 u2 hown hg3 _
    rw [Nat.zero_add, List.nil_append] at hown
    rw [Nat.zero_add]
    have hb3 := below_none hg3
    refine hK _ _ (fun _ => hb3.mono (by omega)) ?_
    clear hK K
    have O2 := O3.below hb3 O3.lt
    have OR2 := OR3.below hb3 OR3.lt
    have HB2 := hide (HB3.out.trans (hb3.mono HB3.out.size))
    have HO2 := hide (HO3.out.belowLe hb3 (by omega))
    have hg2 := hb3.size
    have HOW := hide hown
    have HRW := hide ((HR3.out.belowLe hb3 (by omega)))
    clear hg3 hown hb3 O3 OR3 HB3 HO3 HX3 HR3
    generalize u1.heap.size = g0 at *
    go_simp
    refine onlyC 9 rfl (by kernel_rfl) (by rfl) ?_
    intro K hK
    refine wp_append_rd _ _ _ rfl byteTy (base := g0) rfl HOW.out rfl HRW.out (by simp [Value.oneCell']) (by unfold maxLen; omega) (by omega) hg2 ?_
    intro A4 c4 u3 hown4 hg4 _
    rw [bv_snoc_u8] at hown4
    have hbW : ∀ p, A3 = some p → g0 ≤ p.block := above_own HOW.out
    refine hK _ _ (fun _ => below_own (Below.refl (W.heap.size + 1) u2) (own_weaken HOW.out (by omega)) hg4 (by omega)) ?_
    clear hK K
    have O3 := O2.grown hg4 (blk_ne (fun p hp e => by have := hbW p hp; omega))
    have OR3 := OR2.grown hg4 (blk_ne (fun p hp e => by have := hbW p hp; omega))
    have HB3 := hide (below_own HB2.out (own_weaken HOW.out (by omega)) hg4 HB2.out.size)
    have HO3 := hide (HO2.out.below (below_own (Below.refl W.heap.size u2) (own_weaken HOW.out (by omega)) hg4 (by omega)))
    have HN3 := hide (Bytes.of_own hown4)
    have hs3 := hg4.size
    clear hown4 hg4 hbW O2 OR2 HB2 HO2 HOW HRW
    go_simp
    refine onlyC 10 rfl (by kernel_rfl) (by rfl) ?_
    intro K hK
    go_simp
    refine (refQs0_any o A4 (n + 1) c4 (P ++ [c]) Q _ HN3.out (HO3.out.mono (by omega)) (by omega) hon).mono ?_
    rintro e u4 ⟨s, t, rfl, hns, hnt, hb4⟩
    refine hK _ _ (fun _ => hb4.mono (by omega)) ?_
    clear hK K
    have O4 := O3.below hb4 O3.lt
    have OR4 := OR3.below hb4 OR3.lt
    have HB4 := hide (HB3.out.trans (hb4.mono HB3.out.size))
    have HNS := hide (hns.mono (show W.heap.size + 2 ≤ u3.heap.size by omega))
    have HNT := hide (hnt.mono (show W.heap.size + 2 ≤ u3.heap.size by omega))
    clear hb4 hns hnt HB3 O3 OR3 HO3 HN3
    refine takeX 11 rfl (by kernel_rfl) (fun _ _ _ h => h) (by rfl) (by intro w'; go_simp; try with_reducible rfl) ?_
    go_simp
    refine onlyC 12 rfl (by kernel_rfl) (by rfl) ?_
    intro K hK
    refine wp_store_two rfl qSize rfl (u := .slice s.A s.n s.c) (v := .slice t.A t.n t.c) rfl rfl rfl O4 (show (32 : Nat) ≤ 36 by decide) (k1 := 31) rfl ?_
    refine hK _ _ (fun h => absurd h (by decide)) ?_
    clear hK K
    have O5 := (O4.put 30 (.slice s.A s.n s.c)).put 31 (.slice t.A t.n t.c)
    have OR5 := (OR4.put_other (b' := W.heap.size) (by omega) 30 (.slice s.A s.n s.c)).put_other (b' := W.heap.size) (by omega) 31 (.slice t.A t.n t.c)
    have HB5 := hide ((HB4.out.setCell (p := ⟨W.heap.size, 30, none⟩) (Nat.le_refl _) (.slice s.A s.n s.c)).setCell (p := ⟨W.heap.size, 31, none⟩) (Nat.le_refl _) (.slice t.A t.n t.c))
    have HNS5 := hide (((HNS.out.mono (show W.heap.size + 1 ≤ W.heap.size + 2 by omega)).put 30 (.slice s.A s.n s.c)).put 31 (.slice t.A t.n t.c))
    have HNT5 := hide (((HNT.out.mono (show W.heap.size + 1 ≤ W.heap.size + 2 by omega)).put 30 (.slice s.A s.n s.c)).put 31 (.slice t.A t.n t.c))
    obtain ⟨u5, hu5⟩ : ∃ u5, (u4.setCell ⟨W.heap.size, 30, none⟩ (.slice s.A s.n s.c)).setCell ⟨W.heap.size, 31, none⟩ (.slice t.A t.n t.c) = u5 := ⟨_, rfl⟩
    rw [hu5] at O5 OR5 HB5 HNS5 HNT5 ⊢
    replace O5 : Obl u5 W.heap.size 41 (oc { o with q0 := s, q1 := t }) := O5
    replace HNS5 : Hid (New8 (W.heap.size + 2) u5 s (P ++ [c])) := hide ⟨HNS5.out.1, HNS.out.2⟩
    replace HNT5 : Hid (New8 (W.heap.size + 2) u5 t Q) := hide ⟨HNT5.out.1, HNT.out.2⟩
    clear HNS HNT HB4 O4 OR4
    refine doneC (by kernel_rfl) ?_
    go_simp
    go_wp2_with (first | (refine load_ob rfl _ rfl rfl O5 ?_) | (refine store_ob rfl _ _ rfl rfl (c := { o with q0 := s, q1 := t }) rfl OR5 rfl ?_) | fail)
    refine bodyPost_ret (ret_ob2 rfl _ rfl (OR5.row_same _)) rfl ?_
    exact ⟨s, t, rfl, (HNS5.out.mono (show W.heap.size + 1 + 1 ≤ W.heap.size + 2 by omega)).row _ |>.mono (by omega), (HNT5.out.mono (show W.heap.size + 1 + 1 ≤ W.heap.size + 2 by omega)).row _ |>.mono (by omega), below_row HB5.out (by omega) _⟩
set_option maxRecDepth 100000 in
set_option maxHeartbeats 4000000 in
theorem refChWrite_no1 (o : Ob) (c : UInt8) (W : World) (hc : o.ChOk 1) (hn : o.chWr 1 ≠ 0) : Calls Try.prog 26 #[.agg (oc o), .int .i64 1, .int .u8 (c.toNat : Int)] W (PageNo (o.chWr 1) W) := by
  have HC := hide hc
  clear hc
  obtain ⟨w1, hw, O, OR, hb, hs⟩ := start_oz W o
  have HB := hide hb
  clear hb
  go_enter Try.func26, Try.ntmps26
  go_wp2_with (first | (refine load_ob rfl _ rfl rfl O ?_) | fail)
  refine (refChValid_any o _).mono ?_
  rintro e w2 ⟨rfl, hb2⟩
  have O2 := O.below hb2 O.lt
  have OR2 := OR.below hb2 OR.lt
  have HB2 := hide (HB.out.trans (hb2.mono HB.out.size))
  have hs2 := hb2.size
  have kq : w2.cell? ⟨W.heap.size, 31, none⟩ = some (.slice o.q1.A o.q1.n o.q1.c) := O2.cell 31
  have ke : w2.cell? ⟨W.heap.size, 32, none⟩ = some (.int .i64 o.e0) := O2.cell 32
  clear hb2 hw O OR HB
  rw [decide_eq_true HC.out.1]
  by_cases he : o.e0 = 0
  · have HE : Hid (o.chWr 1 = 13) := hide (by unfold Ob.chWr; rw [if_pos HC.out, if_pos (show o.eAt (1 - 1) = 0 from he)])
    rw [he] at ke
    clear he hn
    go_wp2_with (first | (go_at_call 57; refine (refEnd_any _ _).mono ?_; rintro e w2 ⟨rfl, rfl⟩; rw [decide_eq_true (show IsEnd 1 from .inr rfl)]) | (refine store_ob rfl _ _ rfl rfl (c := Ob.zero) rfl OR2 rfl ?_) | fail)
    refine bodyPost_ret (ret_ob2 rfl _ rfl (OR2.row_same _)) rfl ?_
    exact ⟨by rw [HE.out]; rfl, below_row HB2.out (by omega) _⟩
  · have hq : 64 ≤ o.q1.n := by
      by_cases h : 64 ≤ o.q1.n
      · exact h
      · exact absurd (by unfold Ob.chWr; rw [if_pos HC.out, if_neg (show ¬ o.eAt (1 - 1) = 0 from he), if_neg (show ¬ 64 ≤ (o.qAt 1).n from h)]) hn
    have HE : Hid (o.chWr 1 = 12) := hide (by unfold Ob.chWr; rw [if_pos HC.out, if_neg (show ¬ o.eAt (1 - 1) = 0 from he), if_pos (show 64 ≤ (o.qAt 1).n from hq)])
    have hq' : (64 : Int) ≤ (o.q1.n : Int) := by omega
    have hb0 : (o.e0 == 0) = false := by simpa using he
    clear he hn hq
    go_wp2_with (first | (go_at_call 57; refine (refEnd_any _ _).mono ?_; rintro e w2 ⟨rfl, rfl⟩; rw [decide_eq_true (show IsEnd 1 from .inr rfl)]) | (refine store_ob rfl _ _ rfl rfl (c := Ob.zero) rfl OR2 rfl ?_) | fail)
    refine bodyPost_ret (ret_ob2 rfl _ rfl (OR2.row_same _)) rfl ?_
    exact ⟨by rw [HE.out]; rfl, below_row HB2.out (by omega) _⟩
set_option maxRecDepth 100000 in
set_option maxHeartbeats 4000000 in
theorem refChWrite_ok1 (o : Ob) (c : UInt8) (P Q : List UInt8) (W : World) (hc : o.ChOk 1) (he : o.e0 ≠ 0) (hn : o.q1.n < 64) (hP : Bytes W W.heap.size o.q0.A o.q0.n P) (hQ : Bytes W W.heap.size o.q1.A o.q1.n Q) : Calls Try.prog 26 #[.agg (oc o), .int .i64 1, .int .u8 (c.toNat : Int)] W (RfWr o P (Q ++ [c]) W) := by
  have HC := hide hc
  have hb0 : (o.e0 == 0) = false := by simpa using he
  have hn' : ¬ (64 : Int) ≤ (o.q1.n : Int) := by omega
  have hon : o.q0.n ≤ 1000 := by have := hc.1.2.2.2.1; have := hc.1.2.2.2.2.1; omega
  clear hc he
  obtain ⟨w1, hw, O, OR, hb, hs⟩ := start_oz W o
  have HB := hide hb
  have HX := hide (hQ.below hb)
  have HO := hide (hP.below hb)
  clear hb
  go_enter Try.func26, Try.ntmps26
  go_wp2_with (first | (refine load_ob rfl _ rfl rfl O ?_) | fail)
  refine (refChValid_any o _).mono ?_
  rintro e w2 ⟨rfl, hb2⟩
  have O2 := O.below hb2 O.lt
  have OR2 := OR.below hb2 OR.lt
  have HB2 := hide (HB.out.trans (hb2.mono HB.out.size))
  have hs2 := hb2.size
  have kq : w2.cell? ⟨W.heap.size, 31, none⟩ = some (.slice o.q1.A o.q1.n o.q1.c) := O2.cell 31
  have ke : w2.cell? ⟨W.heap.size, 32, none⟩ = some (.int .i64 o.e0) := O2.cell 32
  have HX2 := hide (HX.out.belowLe hb2 (by omega))
  have HO2 := hide (HO.out.belowLe hb2 (by omega))
  clear hb2 hw O OR HB
  clear hP hQ HX HO
  rw [decide_eq_true HC.out.1]
  go_wp2_with (first | (go_at_call 57; refine (refEnd_any _ _).mono ?_; rintro e w2 ⟨rfl, rfl⟩; rw [decide_eq_true (show IsEnd 1 from .inr rfl)]) | fail)
  obtain ⟨n, hnn⟩ : ∃ n, o.q1.n = n := ⟨_, rfl⟩
  have hn1 : n < 64 := hnn ▸ hn
  refine region_C (by kernel_rfl) (W.heap.size + 1) [12] ?_
  replace O2 : Obl w2.drew W.heap.size 41 (oc o) := O2
  replace OR2 : Obl w2.drew (W.heap.size + 1) 41 (oc Ob.zero) := OR2
  replace HB2 : Hid (Below W.heap.size W w2.drew) := hide ⟨HB2.out.os, HB2.out.tape, HB2.out.output, HB2.out.size, HB2.out.block⟩
  replace HX2 : Hid (Bytes w2.drew W.heap.size o.q1.A n Q) := hnn ▸ HX2
  replace HO2 : Hid (Bytes w2.drew W.heap.size o.q0.A o.q0.n P) := HO2
  replace kq : w2.drew.cell? ⟨W.heap.size, 31, none⟩ = some (.slice o.q1.A n o.q1.c) := hnn ▸ kq
  clear ke hnn hn hn'
  generalize w2.drew = u0 at *
  have hR0 := OR2.lt
  refine takeC 0 [0, 10, 11, 12] rfl (by kernel_rfl) (fun _ _ _ h => h) (by rfl) (by intro w' hg; exact exec_load_ob rfl rfl (O2.below hg (Nat.lt_succ_self _))) ?_
  refine takeX 1 rfl (by kernel_rfl) (fun _ _ _ h => h) (by rfl) (by intro w'; go_simp; try with_reducible rfl) ?_
  refine takeX 2 rfl (by kernel_rfl) (fun _ _ _ h => h) (by rfl) (by intro w'; go_simp; try with_reducible rfl) ?_
  refine takeX 3 rfl (by kernel_rfl) (fun _ _ _ h => h) (by rfl) (by intro w'; go_simp; try with_reducible rfl) ?_
  refine takeX 4 rfl (by kernel_rfl) (fun _ _ _ h => h) (by rfl) (by intro w'; go_simp; try with_reducible rfl) ?_
  refine takeC 5 [5, 6, 9, 10, 11, 12] rfl (by kernel_rfl) (fun _ _ _ h => h) (by rfl) (by intro w' hg; have g0 := (hg.cell (p := ⟨W.heap.size, 31, none⟩) (Nat.lt_succ_self _)).trans kq; go_simp; try with_reducible rfl) ?_
  refine takeX 7 rfl (by kernel_rfl) (fun _ _ _ h => h) (by rfl) (by intro w'; go_simp; try with_reducible rfl) ?_
  clear kq
  go_simp
  refine twoC 6 8 rfl rfl (by kernel_rfl) (by rfl) (by rfl) ?_ ?_
  · intro K hK
    refine wp_append_rd _ _ _ rfl byteTy (A := none) (n := 0) (c := 0) (xs := []) (base := u0.heap.size) rfl own_none (S := o.q1.A) (m := n) (d := o.q1.c) (news := bv Q) rfl (HX2.out).2 (bv_one _) (by unfold maxLen; omega) (by omega) (Nat.le_refl _) ?_
    intro A3 c3 u1 hown hg3 _
    rw [Nat.zero_add, List.nil_append] at hown
    rw [Nat.zero_add]
    have hb3 := below_none hg3
    refine hK _ _ (fun _ => hb3.mono (by omega)) ?_
    clear hK K
    have O3 := O2.below hb3 O2.lt
    have OR3 := OR2.below hb3 OR2.lt
    have HB3 := hide (HB2.out.trans (hb3.mono HB2.out.size))
    have HO3 := hide (HO2.out.belowLe hb3 (by omega))
    have hs3 := hb3.size
    have HW3 := hide hown
    clear hg3 hown hb3
    go_simp
    refine onlyC 8 rfl (by kernel_rfl) (by rfl) ?_
    intro K hK
    refine wp_yield (exec_one8 rfl rfl) ?_
    have hb4 := (Below.refl u1.heap.size u1).alloc (Nat.le_refl _) (.cells #[.int .u8 (c.toNat : Int)] 5)
    refine hK _ _ (fun _ => hb4.mono (by omega)) ?_
    clear hK K
    replace O2 := O3.below hb4 O3.lt
    replace OR2 := OR3.below hb4 OR3.lt
    replace HB2 := hide (HB3.out.trans (hb4.mono HB3.out.size))
    replace HO2 := hide (HO3.out.belowLe hb4 (by omega))
    have HOW := hide (own_below HW3.out hb4)
    have HRW := hide (Row.new u1 (.int .u8 (c.toNat : Int)) 5)
    have hg2 : u0.heap.size ≤ (u1.alloc (.cells #[.int .u8 (c.toNat : Int)] 5)).heap.size := by simp; omega
    clear hb4 O3 OR3 HB3 HO3 HW3 HX2
    generalize u1.alloc (.cells #[.int .u8 (c.toNat : Int)] 5) = u2 at *
    generalize u1.heap.size = g1 at *
    generalize u0.heap.size = g0 at *
    go_simp
    refine onlyC 9 rfl (by kernel_rfl) (by rfl) ?_
    intro K hK
    refine wp_append_rd _ _ _ rfl byteTy (base := g0) rfl HOW.out rfl HRW.out (by simp [Value.oneCell']) (by unfold maxLen; omega) (by omega) hg2 ?_
    intro A4 c4 u3 hown4 hg4 _
    rw [bv_snoc_u8] at hown4
    have hbW : ∀ p, A3 = some p → g0 ≤ p.block := above_own HOW.out
    refine hK _ _ (fun _ => below_own (Below.refl (W.heap.size + 1) u2) (own_weaken HOW.out (by omega)) hg4 (by omega)) ?_
    clear hK K
    have O3 := O2.grown hg4 (blk_ne (fun p hp e => by have := hbW p hp; omega))
    have OR3 := OR2.grown hg4 (blk_ne (fun p hp e => by have := hbW p hp; omega))
    have HB3 := hide (below_own HB2.out (own_weaken HOW.out (by omega)) hg4 HB2.out.size)
    have HO3 := hide (HO2.out.below (below_own (Below.refl W.heap.size u2) (own_weaken HOW.out (by omega)) hg4 (by omega)))
    have HN3 := hide (Bytes.of_own hown4)
    have hs3 := hg4.size
    clear hown4 hg4 hbW O2 OR2 HB2 HO2 HOW HRW
    go_simp
    refine onlyC 10 rfl (by kernel_rfl) (by rfl) ?_
    intro K hK
    go_simp
    refine (refQs1_any o A4 (n + 1) c4 (Q ++ [c]) P _ HN3.out (HO3.out.mono (by omega)) (by omega) hon).mono ?_
    rintro e u4 ⟨s, t, rfl, hns, hnt, hb4⟩
    refine hK _ _ (fun _ => hb4.mono (by omega)) ?_
    clear hK K
    have O4 := O3.below hb4 O3.lt
    have OR4 := OR3.below hb4 OR3.lt
    have HB4 := hide (HB3.out.trans (hb4.mono HB3.out.size))
    have HNS := hide (hns.mono (show W.heap.size + 2 ≤ u3.heap.size by omega))
    have HNT := hide (hnt.mono (show W.heap.size + 2 ≤ u3.heap.size by omega))
    clear hb4 hns hnt HB3 O3 OR3 HO3 HN3
    refine takeX 11 rfl (by kernel_rfl) (fun _ _ _ h => h) (by rfl) (by intro w'; go_simp; try with_reducible rfl) ?_
    go_simp
    refine onlyC 12 rfl (by kernel_rfl) (by rfl) ?_
    intro K hK
    refine wp_store_two rfl qSize rfl (u := .slice s.A s.n s.c) (v := .slice t.A t.n t.c) rfl rfl rfl O4 (show (32 : Nat) ≤ 36 by decide) (k1 := 31) rfl ?_
    refine hK _ _ (fun h => absurd h (by decide)) ?_
    clear hK K
    have O5 := (O4.put 30 (.slice s.A s.n s.c)).put 31 (.slice t.A t.n t.c)
    have OR5 := (OR4.put_other (b' := W.heap.size) (by omega) 30 (.slice s.A s.n s.c)).put_other (b' := W.heap.size) (by omega) 31 (.slice t.A t.n t.c)
    have HB5 := hide ((HB4.out.setCell (p := ⟨W.heap.size, 30, none⟩) (Nat.le_refl _) (.slice s.A s.n s.c)).setCell (p := ⟨W.heap.size, 31, none⟩) (Nat.le_refl _) (.slice t.A t.n t.c))
    have HNS5 := hide (((HNS.out.mono (show W.heap.size + 1 ≤ W.heap.size + 2 by omega)).put 30 (.slice s.A s.n s.c)).put 31 (.slice t.A t.n t.c))
    have HNT5 := hide (((HNT.out.mono (show W.heap.size + 1 ≤ W.heap.size + 2 by omega)).put 30 (.slice s.A s.n s.c)).put 31 (.slice t.A t.n t.c))
    obtain ⟨u5, hu5⟩ : ∃ u5, (u4.setCell ⟨W.heap.size, 30, none⟩ (.slice s.A s.n s.c)).setCell ⟨W.heap.size, 31, none⟩ (.slice t.A t.n t.c) = u5 := ⟨_, rfl⟩
    rw [hu5] at O5 OR5 HB5 HNS5 HNT5 ⊢
    replace O5 : Obl u5 W.heap.size 41 (oc { o with q0 := s, q1 := t }) := O5
    replace HNS5 : Hid (New8 (W.heap.size + 2) u5 s P) := hide ⟨HNS5.out.1, HNS.out.2⟩
    replace HNT5 : Hid (New8 (W.heap.size + 2) u5 t (Q ++ [c])) := hide ⟨HNT5.out.1, HNT.out.2⟩
    clear HNS HNT HB4 O4 OR4
    refine doneC (by kernel_rfl) ?_
    go_simp
    go_wp2_with (first | (refine load_ob rfl _ rfl rfl O5 ?_) | (refine store_ob rfl _ _ rfl rfl (c := { o with q0 := s, q1 := t }) rfl OR5 rfl ?_) | fail)
    refine bodyPost_ret (ret_ob2 rfl _ rfl (OR5.row_same _)) rfl ?_
    exact ⟨s, t, rfl, (HNS5.out.mono (show W.heap.size + 1 + 1 ≤ W.heap.size + 2 by omega)).row _ |>.mono (by omega), (HNT5.out.mono (show W.heap.size + 1 + 1 ≤ W.heap.size + 2 by omega)).row _ |>.mono (by omega), below_row HB5.out (by omega) _⟩
  · intro K hK
    refine wp_yield (exec_one8 rfl rfl) ?_
    have hb4 := (Below.refl u0.heap.size u0).alloc (Nat.le_refl _) (.cells #[.int .u8 (c.toNat : Int)] 5)
    refine hK _ _ (fun _ => hb4.mono (by omega)) ?_
    clear hK K
    have O3 := O2.below hb4 O2.lt
    have OR3 := OR2.below hb4 OR2.lt
    have HB3 := hide (HB2.out.trans (hb4.mono HB2.out.size))
    have HO3 := hide (HO2.out.belowLe hb4 (by omega))
    have HX3 := hide ((HX2.out.belowLe hb4 (by omega)))
    have HR3 := hide (Row.new u0 (.int .u8 (c.toNat : Int)) 5)
    have hs3 : u0.heap.size + 1 ≤ (u0.alloc (.cells #[.int .u8 (c.toNat : Int)] 5)).heap.size := by simp
    clear hb4 O2 OR2 HB2 HO2 HX2
    generalize u0.alloc (.cells #[.int .u8 (c.toNat : Int)] 5) = u1 at *
    generalize u0.heap.size = g1 at *
    go_simp
    refine onlyC 6 rfl (by kernel_rfl) (by rfl) ?_
    intro K hK
    refine wp_append_rd _ _ _ rfl byteTy (A := none) (n := 0) (c := 0) (xs := []) (base := u1.heap.size) rfl own_none (S := o.q1.A) (m := n) (d := o.q1.c) (news := bv Q) rfl (HX3.out).2 (bv_one _) (by unfold maxLen; omega) (by omega) (Nat.le_refl _) ?_
    intro A3 c3 u2 hown hg3 _
    rw [Nat.zero_add, List.nil_append] at hown
    rw [Nat.zero_add]
    have hb3 := below_none hg3
    refine hK _ _ (fun _ => hb3.mono (by omega)) ?_
    clear hK K
    have O2 := O3.below hb3 O3.lt
    have OR2 := OR3.below hb3 OR3.lt
    have HB2 := hide (HB3.out.trans (hb3.mono HB3.out.size))
    have HO2 := hide (HO3.out.belowLe hb3 (by omega))
    have hg2 := hb3.size
    have HOW := hide hown
    have HRW := hide ((HR3.out.belowLe hb3 (by omega)))
    clear hg3 hown hb3 O3 OR3 HB3 HO3 HX3 HR3
    generalize u1.heap.size = g0 at *
    go_simp
    refine onlyC 9 rfl (by kernel_rfl) (by rfl) ?_
    intro K hK
    refine wp_append_rd _ _ _ rfl byteTy (base := g0) rfl HOW.out rfl HRW.out (by simp [Value.oneCell']) (by unfold maxLen; omega) (by omega) hg2 ?_
    intro A4 c4 u3 hown4 hg4 _
    rw [bv_snoc_u8] at hown4
    have hbW : ∀ p, A3 = some p → g0 ≤ p.block := above_own HOW.out
    refine hK _ _ (fun _ => below_own (Below.refl (W.heap.size + 1) u2) (own_weaken HOW.out (by omega)) hg4 (by omega)) ?_
    clear hK K
    have O3 := O2.grown hg4 (blk_ne (fun p hp e => by have := hbW p hp; omega))
    have OR3 := OR2.grown hg4 (blk_ne (fun p hp e => by have := hbW p hp; omega))
    have HB3 := hide (below_own HB2.out (own_weaken HOW.out (by omega)) hg4 HB2.out.size)
    have HO3 := hide (HO2.out.below (below_own (Below.refl W.heap.size u2) (own_weaken HOW.out (by omega)) hg4 (by omega)))
    have HN3 := hide (Bytes.of_own hown4)
    have hs3 := hg4.size
    clear hown4 hg4 hbW O2 OR2 HB2 HO2 HOW HRW
    go_simp
    refine onlyC 10 rfl (by kernel_rfl) (by rfl) ?_
    intro K hK
    go_simp
    refine (refQs1_any o A4 (n + 1) c4 (Q ++ [c]) P _ HN3.out (HO3.out.mono (by omega)) (by omega) hon).mono ?_
    rintro e u4 ⟨s, t, rfl, hns, hnt, hb4⟩
    refine hK _ _ (fun _ => hb4.mono (by omega)) ?_
    clear hK K
    have O4 := O3.below hb4 O3.lt
    have OR4 := OR3.below hb4 OR3.lt
    have HB4 := hide (HB3.out.trans (hb4.mono HB3.out.size))
    have HNS := hide (hns.mono (show W.heap.size + 2 ≤ u3.heap.size by omega))
    have HNT := hide (hnt.mono (show W.heap.size + 2 ≤ u3.heap.size by omega))
    clear hb4 hns hnt HB3 O3 OR3 HO3 HN3
    refine takeX 11 rfl (by kernel_rfl) (fun _ _ _ h => h) (by rfl) (by intro w'; go_simp; try with_reducible rfl) ?_
    go_simp
    refine onlyC 12 rfl (by kernel_rfl) (by rfl) ?_
    intro K hK
    refine wp_store_two rfl qSize rfl (u := .slice s.A s.n s.c) (v := .slice t.A t.n t.c) rfl rfl rfl O4 (show (32 : Nat) ≤ 36 by decide) (k1 := 31) rfl ?_
    refine hK _ _ (fun h => absurd h (by decide)) ?_
    clear hK K
    have O5 := (O4.put 30 (.slice s.A s.n s.c)).put 31 (.slice t.A t.n t.c)
    have OR5 := (OR4.put_other (b' := W.heap.size) (by omega) 30 (.slice s.A s.n s.c)).put_other (b' := W.heap.size) (by omega) 31 (.slice t.A t.n t.c)
    have HB5 := hide ((HB4.out.setCell (p := ⟨W.heap.size, 30, none⟩) (Nat.le_refl _) (.slice s.A s.n s.c)).setCell (p := ⟨W.heap.size, 31, none⟩) (Nat.le_refl _) (.slice t.A t.n t.c))
    have HNS5 := hide (((HNS.out.mono (show W.heap.size + 1 ≤ W.heap.size + 2 by omega)).put 30 (.slice s.A s.n s.c)).put 31 (.slice t.A t.n t.c))
    have HNT5 := hide (((HNT.out.mono (show W.heap.size + 1 ≤ W.heap.size + 2 by omega)).put 30 (.slice s.A s.n s.c)).put 31 (.slice t.A t.n t.c))
    obtain ⟨u5, hu5⟩ : ∃ u5, (u4.setCell ⟨W.heap.size, 30, none⟩ (.slice s.A s.n s.c)).setCell ⟨W.heap.size, 31, none⟩ (.slice t.A t.n t.c) = u5 := ⟨_, rfl⟩
    rw [hu5] at O5 OR5 HB5 HNS5 HNT5 ⊢
    replace O5 : Obl u5 W.heap.size 41 (oc { o with q0 := s, q1 := t }) := O5
    replace HNS5 : Hid (New8 (W.heap.size + 2) u5 s P) := hide ⟨HNS5.out.1, HNS.out.2⟩
    replace HNT5 : Hid (New8 (W.heap.size + 2) u5 t (Q ++ [c])) := hide ⟨HNT5.out.1, HNT.out.2⟩
    clear HNS HNT HB4 O4 OR4
    refine doneC (by kernel_rfl) ?_
    go_simp
    go_wp2_with (first | (refine load_ob rfl _ rfl rfl O5 ?_) | (refine store_ob rfl _ _ rfl rfl (c := { o with q0 := s, q1 := t }) rfl OR5 rfl ?_) | fail)
    refine bodyPost_ret (ret_ob2 rfl _ rfl (OR5.row_same _)) rfl ?_
    exact ⟨s, t, rfl, (HNS5.out.mono (show W.heap.size + 1 + 1 ≤ W.heap.size + 2 by omega)).row _ |>.mono (by omega), (HNT5.out.mono (show W.heap.size + 1 + 1 ≤ W.heap.size + 2 by omega)).row _ |>.mono (by omega), below_row HB5.out (by omega) _⟩
end Go.Proofs.Yteaippnffmhhnaa
