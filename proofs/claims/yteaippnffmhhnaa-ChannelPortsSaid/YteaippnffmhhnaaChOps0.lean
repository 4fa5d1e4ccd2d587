/- Layer 12, package channel: New, NewPort, hasEnd, copied, withQueues, withBacklog: contracts. -/
import Derived.Test.YteaippnffmhhnaaChValid
import Derived.Test.YteaippnffmhhnaaRegionX
import Derived.Test.YteaippnffmhhnaaObOwn
namespace Go.Proofs.Yteaippnffmhhnaa
open Go.RowKit

/-- An object comes back. -/
def GivesOb (o : Ob) (w : World) (e : Ending) (w' : World) : Prop := e = .returned (.agg (oc o)) ∧ Below w.heap.size w w'
theorem ret_tob {k : IntKind} {v : Int} {w : World} {fn : Func} {s p u : Tmp} (hr : fn.results = #[.tmp s, .cell p 41, .tmp u]) (tmps : Array Value) (hs : tmps.getD s undef = .int k v) {g : Nat} (hp : tmps.getD p undef = .pointer (some ⟨g, 0, none⟩)) {y : Ob} {t : TypeId} (h : Obl w g t (oc y)) :
    (results fn tmps).run Try.prog w = .ok (.tuple #[.int k v, .agg (oc y), tmps.getD u undef]) w := by
  rw [← hs]
  exact results_tcell_3 hr tmps hp h Try.underlying41 rfl obSize
theorem wp_store_ch {o : Oper} {a : Act} {w : World} {Q : Exit → Act → World → Prop} {K : Act → World → Prop} {x y : Operand} (ho : o.op = .store 41 x y) {g : Nat} (hx : a.eval x = .pointer (some ⟨g, 0, none⟩)) {c : Ob} (hy : a.eval y = .agg (oc c)) {old : Array Value} {t : TypeId} (h : Obl w g t old) (hold : old.size = 36)
    (hK : K (a.put o.dst undef) (w.setRow g (oc c))) : o.wp Try.prog a w K Q := wp_store_row _ x y ho g (oc c) hx hy t old h obSize hold (oc_one c) hK
set_option maxRecDepth 100000 in
set_option maxHeartbeats 4000000 in
theorem chNew_any (id : Int) (W : World) : Calls Try.prog 29 #[.int .u64 id] W (GivesOb (Ob.chan id 1 1 noSl noSl) W) := by
  obtain ⟨w1, hw, O, hb, hs⟩ := start_z W
  have HB := hide hb
  clear hb
  go_enter Try.func29, Try.ntmps29
  go_wp2_with (first | (refine store_ob rfl _ _ rfl rfl (c := Ob.chan id 1 1 noSl noSl) rfl O rfl ?_) | fail)
  refine bodyPost_ret (ret_ob rfl _ rfl (O.row_same _)) rfl ?_
  exact ⟨rfl, below_row HB.out (Nat.le_refl _) _⟩
set_option maxRecDepth 100000 in
set_option maxHeartbeats 4000000 in
theorem chNewPort_any (id : Int) (W : World) : Calls Try.prog 20 #[.int .u64 id] W (GivesOb (Ob.port id 1 noSl) W) := by
  obtain ⟨w1, hw, O, hb, hs⟩ := start_z W
  have HB := hide hb
  clear hb
  go_enter Try.func20, Try.ntmps20
  go_wp2_with (first | (refine store_ob rfl _ _ rfl rfl (c := Ob.port id 1 noSl) rfl O rfl ?_) | fail)
  refine bodyPost_ret (ret_ob rfl _ rfl (O.row_same _)) rfl ?_
  exact ⟨rfl, below_row HB.out (Nat.le_refl _) _⟩
set_option maxRecDepth 100000 in
set_option maxHeartbeats 4000000 in
theorem chBack_any (o : Ob) (A : Option Addr) (n c : Nat) (W : World) : Calls Try.prog 45 #[.agg (oc o), .slice A n c] W (GivesOb (Ob.port o.id o.refs ⟨A, n, c⟩) W) := by
  obtain ⟨w1, hw, O, OR, hb, hs⟩ := start_oz W o
  have k0 : w1.cell? ⟨W.heap.size, 0, none⟩ = some (.int .u64 o.id) := O.cell 0
  have k2 : w1.cell? ⟨W.heap.size, 2, none⟩ = some (.int .i64 o.refs) := O.cell 2
  have HB := hide hb
  clear hb
  go_enter Try.func45, Try.ntmps45
  go_wp2_with (first | (refine store_ob rfl _ _ rfl rfl (c := Ob.port o.id o.refs ⟨A, n, c⟩) rfl OR rfl ?_) | fail)
  refine bodyPost_ret (ret_ob rfl _ rfl (OR.row_same _)) rfl ?_
  exact ⟨rfl, below_row HB.out (by omega) _⟩
theorem built_chan (id a b : Int) (s t : Sl) : Try.prog.built 41 [(0, .int .u64 id), (1, .int .i64 7), (12, .agg (nv .i64 [a, b]).toArray), (11, .agg (qc s t))] = some (oc (Ob.chan id a b s t)) := by kernel_rfl
set_option maxRecDepth 100000 in
set_option maxHeartbeats 4000000 in
theorem chQs_any (o : Ob) (s t : Sl) (W : World) : Calls Try.prog 56 #[.agg (oc o), .agg (qc s t)] W (GivesOb (Ob.chan o.id o.e0 o.e1 s t) W) := by
  obtain ⟨w0, hw0, O0, hb0, hs0⟩ : ∃ w0, (W.alloc (.cells (oc o) 41)).alloc (.cells (qc s t) 37) = w0 ∧ Obl w0 W.heap.size 41 (oc o) ∧ Below W.heap.size W w0 ∧ w0.heap.size = W.heap.size + 2 :=
    ⟨_, rfl, (Obl.make W _ _).alloc _, ((Below.refl _ _).alloc (Nat.le_refl _) _).alloc (by simp) _, by simp⟩
  have OQ0 : Obl w0 (W.heap.size + 1) 37 (qc s t) := by
    rw [← hw0]
    have := Obl.make (W.alloc (.cells (oc o) 41)) 37 (qc s t)
    rwa [World.size_alloc] at this
  obtain ⟨w1, hw, OR, hb1, hs1⟩ := start_z w0
  have O := O0.below hb1 (by omega)
  have OQ := OQ0.below hb1 (by omega)
  have k0 : w1.cell? ⟨W.heap.size, 0, none⟩ = some (.int .u64 o.id) := O.cell 0
  have HB := hide (hb0.trans (hb1.mono hb0.size))
  rw [hs0] at OR
  clear hb0 hb1 O0 OQ0
  go_enter Try.func56, Try.ntmps56
  go_wp2_with (first | (refine load_ends rfl _ rfl rfl O ?_) | (refine load_q rfl _ rfl rfl OQ ?_) | (refine wpList_val (by rfl) (exec_build rfl (vs := [(0, .int .u64 o.id), (1, .int .i64 7), (12, .agg (nv .i64 [o.e0, o.e1]).toArray), (11, .agg (qc s t))]) (by go_simp) (built_chan _ _ _ _ _)) ?_) | (refine store_ob rfl _ _ rfl rfl (c := Ob.chan o.id o.e0 o.e1 s t) rfl OR rfl ?_) | fail)
  refine bodyPost_ret (ret_ob rfl _ rfl (OR.row_same _)) rfl ?_
  exact ⟨rfl, below_row HB.out (by omega) _⟩
set_option maxRecDepth 100000 in
set_option maxHeartbeats 4000000 in
theorem chHasEnd_any (o : Ob) (k : Int) (W : World) : Calls Try.prog 54 #[.agg (oc o), .int .i64 k] W (BoolPost (decide (o.ChOk k)) W) := by
  obtain ⟨w1, hw, O, hb⟩ : ∃ w1, W.alloc (.cells (oc o) 41) = w1 ∧ Obl w1 W.heap.size 41 (oc o) ∧ Below W.heap.size W w1 := ⟨_, rfl, Obl.make W _ _, (Below.refl _ _).alloc (Nat.le_refl _) _⟩
  have HB := hide hb
  clear hb
  by_cases hc : o.Chan
  · have HC := hide hc
    clear hc
    by_cases h0 : k = 0
    · subst h0
      go_enter Try.func54, Try.ntmps54
      go_wp2_with (first | (refine load_ob rfl _ rfl rfl O ?_) | (go_at_call 27; refine (chValid_any o _).mono ?_; rintro e w2 ⟨rfl, hb2⟩; rw [decide_eq_true HC.out]) | fail)
      go_ret
      exact ⟨ret_bool (decide_eq_true (show o.ChOk 0 from ⟨HC.out, .inl rfl⟩)).symm, HB.out.trans (hb2.mono HB.out.size)⟩
    · have b0 : (k == 0) = false := by simpa using h0
      by_cases h1 : k = 1
      · subst h1
        go_enter Try.func54, Try.ntmps54
        go_wp2_with (first | (refine load_ob rfl _ rfl rfl O ?_) | (go_at_call 27; refine (chValid_any o _).mono ?_; rintro e w2 ⟨rfl, hb2⟩; rw [decide_eq_true HC.out]) | fail)
        go_ret
        exact ⟨ret_bool (decide_eq_true (show o.ChOk 1 from ⟨HC.out, .inr rfl⟩)).symm, HB.out.trans (hb2.mono HB.out.size)⟩
      · have b1 : (k == 1) = false := by simpa using h1
        have HN : Hid (¬ o.ChOk k) := hide (fun hh => hh.2.elim h0 h1)
        clear h0 h1
        go_enter Try.func54, Try.ntmps54
        go_wp2_with (first | (refine load_ob rfl _ rfl rfl O ?_) | (go_at_call 27; refine (chValid_any o _).mono ?_; rintro e w2 ⟨rfl, hb2⟩; rw [decide_eq_true HC.out]) | fail)
        go_ret
        exact ⟨ret_bool (decide_eq_false HN.out).symm, HB.out.trans (hb2.mono HB.out.size)⟩
  · have HC := hide hc
    have HN : Hid (¬ o.ChOk k) := hide (fun hh => hc hh.1)
    clear hc
    go_enter Try.func54, Try.ntmps54
    go_wp2_with (first | (refine load_ob rfl _ rfl rfl O ?_) | (go_at_call 27; refine (chValid_any o _).mono ?_; rintro e w2 ⟨rfl, hb2⟩; rw [decide_eq_false HC.out]) | fail)
    go_ret
    exact ⟨ret_bool (decide_eq_false HN.out).symm, HB.out.trans (hb2.mono HB.out.size)⟩
/-- Both queues again, in rows of the call's own. -/
def QsPost (P Q : List UInt8) (w : World) (e : Ending) (w' : World) : Prop := ∃ s t : Sl, e = .returned (.agg (qc s t)) ∧ w'.ownsRow w.heap.size 5 1 (.slice s.A s.n s.c) s.n (bv P) ∧ w'.ownsRow w.heap.size 5 1 (.slice t.A t.n t.c) t.n (bv Q) ∧ Apart s.A t.A ∧ Below w.heap.size w w'
/-- The first queue is copied. -/
def CopyOne (W w : World) (s : Sl) (P : List UInt8) : Prop := ∃ A c, Obl w (W.heap.size + 1) 37 (qc noSl noSl) ∧ Obl w (W.heap.size + 2) 37 (qc ⟨A, s.n, c⟩ noSl) ∧ w.ownsRow (W.heap.size + 3) 5 1 (.slice A s.n c) s.n (bv P) ∧ Below W.heap.size W w
def CopyTwo (W w : World) (s t : Sl) (P Q : List UInt8) : Prop := ∃ A c B d, Obl w (W.heap.size + 1) 37 (qc noSl noSl) ∧ Obl w (W.heap.size + 2) 37 (qc ⟨A, s.n, c⟩ ⟨B, t.n, d⟩) ∧ w.ownsRow (W.heap.size + 3) 5 1 (.slice A s.n c) s.n (bv P) ∧ w.ownsRow (W.heap.size + 3) 5 1 (.slice B t.n d) t.n (bv Q) ∧ Apart A B ∧ Below W.heap.size W w
set_option maxRecDepth 100000 in
set_option maxHeartbeats 4000000 in
theorem chCopied_any (s t : Sl) (P Q : List UInt8) (W : World) (hP : Bytes W W.heap.size s.A s.n P) (hQ : Bytes W W.heap.size t.A t.n Q) (hs : s.n ≤ 1000) (ht : t.n ≤ 1000) : Calls Try.prog 55 #[.agg (qc s t)] W (QsPost P Q W) := by
  obtain ⟨w1, hw, OA, OR, OQ, hb, hs3⟩ : ∃ w1, ((W.alloc (.cells (qc s t) 37)).alloc (.cells #[.slice none 0 0, .slice none 0 0] 37)).alloc (.cells #[.slice none 0 0, .slice none 0 0] 37) = w1 ∧ Obl w1 W.heap.size 37 (qc s t) ∧ Obl w1 (W.heap.size + 1) 37 (qc noSl noSl) ∧ Obl w1 (W.heap.size + 2) 37 (qc noSl noSl) ∧ Below W.heap.size W w1 ∧ w1.heap.size = W.heap.size + 3 := by
    refine ⟨_, rfl, ((Obl.make W _ _).alloc _).alloc _, ?_, ?_, (((Below.refl _ _).alloc (Nat.le_refl _) _).alloc (by simp) _).alloc (by simp; omega) _, by simp⟩
    · have := Obl.make (W.alloc (.cells (qc s t) 37)) 37 (qc noSl noSl)
      rw [World.size_alloc] at this
      exact this.alloc _
    · have := Obl.make ((W.alloc (.cells (qc s t) 37)).alloc (.cells #[.slice none 0 0, .slice none 0 0] 37)) 37 (qc noSl noSl)
      rw [World.size_alloc, World.size_alloc] at this
      exact this
  have HP := hide hP
  have HQ := hide hQ
  have HB := hide hb
  have i0 : ∀ w, (Instr.index 37 (.agg (qc s t)) (.int .i64 0)).run Try.prog w = .ok (.slice s.A s.n s.c) w := fun w => run_index_q _ _ _ 0 (by decide) rfl
  have i1 : ∀ w, (Instr.index 37 (.agg (qc s t)) (.int .i64 1)).run Try.prog w = .ok (.slice t.A t.n t.c) w := fun w => run_index_q _ _ _ 1 (by decide) rfl
  have HR := hide OR
  have HO := hide OQ
  clear hb hP hQ OR OQ
  go_enter Try.func55, Try.ntmps55
  go_wp2_with (first | (refine load_q rfl _ rfl rfl OA ?_) | fail)
  clear hw OA
  go_loopw [7] (fun s7 wr => (s7 = .int .i64 0 ∧ wr = w1) ∨ (s7 = .int .i64 1 ∧ Hid (CopyOne W wr s P)) ∨ (s7 = .int .i64 2 ∧ Hid (CopyTwo W wr s t P Q))) (fun s7 _ => 2 - (intOf s7).toNat)
  case atStart => exact .inl ⟨rfl, rfl⟩
  case round =>
    rcases hrel with ⟨rfl, rfl⟩ | ⟨rfl, H⟩ | ⟨rfl, H⟩
    · have HX := hide ((HP.out.below HB.out).mono HB.out.size)
      have O1 := HO.out
      have k0 : wr.cell? ⟨W.heap.size + 2, 0, none⟩ = some (.slice none 0 0) := O1.cell 0
      go_wp2_with (first | (at_builtin; refine wpList_append_rd rfl _ _ _ rfl byteTy (A := none) (n := 0) (c := 0) (xs := []) (base := wr.heap.size) rfl own_none (S := s.A) (m := s.n) (d := s.c) (news := bv P) rfl HX.out.2 (bv_one _) (by unfold maxLen; omega) (by omega) (Nat.le_refl _) ?_; intro A3 c3 w3 hown3 hg3 _; rw [Nat.zero_add, List.nil_append] at hown3; rw [Nat.zero_add]; have hb3 := below_none hg3; have O3 := O1.below hb3 O1.lt; have R3 := HR.out.below hb3 HR.out.lt; have z3 := O3.free 0; have k3 : w3.cell? ⟨W.heap.size + 2, 0, none⟩ = some (.slice none 0 0) := O3.cell 0; have H2 : Hid (CopyOne W (w3.setCell ⟨W.heap.size + 2, 0, none⟩ (.slice A3 s.n c3)) s P) := hide ⟨A3, c3, R3.put_other (b' := W.heap.size + 2) (by omega) 0 _, O3.put 0 _, own_weaken (own_keep hown3 (keep_put (m := W.heap.size + 2) (by omega) 0 _)) (by omega), (HB.out.trans (hb3.mono HB.out.size)).setCell (p := ⟨W.heap.size + 2, 0, none⟩) (by simp only; omega) _⟩; clear hown3 hg3 hb3 O3 R3) | fail)
      go_roundw
      case rel => exact .inr (.inl ⟨rfl, H2⟩)
      case measure => simp [intOf]
    · obtain ⟨A, c, R1, O1, hown, hb1⟩ := H.out
      have HB1 := hide hb1
      have HR1 := hide R1
      have HO1 := hide hown
      have HX := hide ((HQ.out.below HB1.out).mono HB1.out.size)
      have k0 : wr.cell? ⟨W.heap.size + 2, 1, none⟩ = some (.slice none 0 0) := O1.cell 1
      have hlt := O1.lt
      clear R1 hown hb1 HB HR HO H
      go_wp2_with (first | (at_builtin; refine wpList_append_rd rfl _ _ _ rfl byteTy (A := none) (n := 0) (c := 0) (xs := []) (base := wr.heap.size) rfl own_none (S := t.A) (m := t.n) (d := t.c) (news := bv Q) rfl HX.out.2 (bv_one _) (by unfold maxLen; omega) (by omega) (Nat.le_refl _) ?_; intro A3 c3 w3 hown3 hg3 _; rw [Nat.zero_add, List.nil_append] at hown3; rw [Nat.zero_add]; have hb3 := below_none hg3; have O3 := O1.below hb3 O1.lt; have R3 := HR1.out.below hb3 HR1.out.lt; have z3 := O3.free 1; have k3 : w3.cell? ⟨W.heap.size + 2, 1, none⟩ = some (.slice none 0 0) := O3.cell 1; have H2 : Hid (CopyTwo W (w3.setCell ⟨W.heap.size + 2, 1, none⟩ (.slice A3 t.n c3)) s t P Q) := hide ⟨A, c, A3, c3, R3.put_other (b' := W.heap.size + 2) (by omega) 1 _, O3.put 1 _, own_keep (own_below HO1.out hb3) (keep_put (m := W.heap.size + 2) (by omega) 1 _), own_weaken (own_keep hown3 (keep_put (m := W.heap.size + 2) (by omega) 1 _)) (by omega), (fun p q hp hq => by have h1 := own_block_lt HO1.out p hp; have h2 := above_own hown3 q hq; omega), (HB1.out.trans (hb3.mono HB1.out.size)).setCell (p := ⟨W.heap.size + 2, 1, none⟩) (by simp only; omega) _⟩; clear hown3 hg3 hb3 O3 R3) | fail)
      go_roundw
      case rel => exact .inr (.inr ⟨rfl, H2⟩)
      case measure => simp [intOf]
    · obtain ⟨A, c, B, d, R1, O1, hown, hownQ, hap, hb1⟩ := H.out
      have HB1 := hide hb1
      have HO1 := hide hown
      have HO2 := hide hownQ
      clear hown hownQ hb1 HB HR HO H
      go_wp2_with (first | (refine load_q rfl _ rfl rfl O1 ?_) | (refine store_q rfl _ _ rfl rfl (s := ⟨A, s.n, c⟩) (u := ⟨B, t.n, d⟩) rfl R1 rfl ?_) | fail)
      refine bodyPost_ret (ret_q rfl _ rfl (R1.row_same _)) rfl ?_
      exact ⟨⟨A, s.n, c⟩, ⟨B, t.n, d⟩, rfl, own_weaken (own_keep HO1.out (keep_row (m := W.heap.size + 1) (by omega) _)) (by omega), own_weaken (own_keep HO2.out (keep_row (m := W.heap.size + 1) (by omega) _)) (by omega), hap, below_row HB1.out (by omega) _⟩
end Go.Proofs.Yteaippnffmhhnaa
