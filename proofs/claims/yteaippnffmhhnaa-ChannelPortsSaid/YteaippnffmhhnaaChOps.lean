/- Layer 12, package channel: Read and Write: contracts (written by tools/mkchops.py). -/
import Derived.Test.YteaippnffmhhnaaChOps0
namespace Go.Proofs.Yteaippnffmhhnaa
open Go.RowKit

/-- Two queues that came back, laid in a new block. -/
theorem laid_q (s t : Sl) (w1 : World) : ∃ w2, w1.alloc (.cells #[.slice none 0 0, .slice none 0 0] 37) = w2 ∧ ∃ m, w1.heap.size = m ∧ ∃ w3, w2.setRow m (qc s t) = w3 ∧ Obl w2 m 37 (qc noSl noSl) ∧ Obl w3 m 37 (qc s t) ∧ Below w1.heap.size w1 w3 ∧ w3.heap.size = m + 1 :=
  ⟨_, rfl, _, rfl, _, rfl, Obl.make _ _ _, (Obl.make w1 37 (qc noSl noSl)).row_same _, below_row ((Below.refl _ _).alloc (Nat.le_refl _) _) (Nat.le_refl _) _, by simp [World.setRow]⟩
/-- Nothing is read, and an error. -/
def ReadNo (r : Int) (w : World) (e : Ending) (w' : World) : Prop := e = .returned (.tuple #[.int .i64 0, .agg (oc Ob.zero), .int .i64 r]) ∧ Below w.heap.size w w'
/-- Bytes of the call's own, in a slice that knows its capacity. -/
def New8 (B : Nat) (w : World) (s : Sl) (P : List UInt8) : Prop := Bytes w w.heap.size s.A s.n P ∧ Above B s.A ∧ s.n ≤ s.c
theorem New8.below {B : Nat} {w w' : World} {s : Sl} {P : List UInt8} (h : New8 B w s P) (hb : Below w.heap.size w w') : New8 B w' s P := ⟨(h.1.below hb).mono hb.size, h.2.1, h.2.2⟩
theorem New8.row {m : Nat} {w : World} {s : Sl} {P : List UInt8} (h : New8 (m + 1) w s P) (cells : Array Value) : New8 (m + 1) (w.setRow m cells) s P := ⟨by rw [setRow_size]; exact h.1.keep_above h.2.1, h.2.1, h.2.2⟩
theorem New8.put {m : Nat} {w : World} {s : Sl} {P : List UInt8} (h : New8 (m + 1) w s P) (i : Nat) (v : Value) : New8 (m + 1) (w.setCell ⟨m, i, none⟩ v) s P := ⟨by rw [World.size_setCell]; exact h.1.put_above h.2.1, h.2.1, h.2.2⟩
theorem New8.mono {B B' : Nat} {w : World} {s : Sl} {P : List UInt8} (h : New8 B w s P) (hB : B' ≤ B) : New8 B' w s P := ⟨h.1, h.2.1.mono hB, h.2.2⟩
theorem New8.own {B n c : Nat} {w : World} {A : Option Addr} {e : TypeId} {P : List UInt8} (h : w.ownsRow B e 1 (.slice A n c) n (bv P)) : New8 B w ⟨A, n, c⟩ P := ⟨Bytes.of_own h, above_own h, own_cap h⟩
/-- The channel with these ends and bytes comes back, behind what was read. -/
def ChRd (id a b v : Int) (P Q : List UInt8) (w : World) (e : Ending) (w' : World) : Prop := ∃ s t : Sl, e = .returned (.tuple #[.int .i64 v, .agg (oc (Ob.chan id a b s t)), .int .i64 0]) ∧ New8 w.heap.size w' s P ∧ New8 w.heap.size w' t Q ∧ Below w.heap.size w w'
def ChWr (id a b : Int) (P Q : List UInt8) (w : World) (e : Ending) (w' : World) : Prop := ∃ s t : Sl, e = .returned (.tuple #[.agg (oc (Ob.chan id a b s t)), .int .i64 0]) ∧ New8 w.heap.size w' s P ∧ New8 w.heap.size w' t Q ∧ Below w.heap.size w w'
set_option maxRecDepth 100000 in
set_option maxHeartbeats 4000000 in
theorem chRead_bad (o : Ob) (k : Int) (P Q : List UInt8) (W : World) (hc : ¬ o.ChOk k) (hP : Bytes W W.heap.size o.q0.A o.q0.n P) (hQ : Bytes W W.heap.size o.q1.A o.q1.n Q) : Calls Try.prog 23 #[.agg (oc o), .int .i64 k] W (ReadNo 1 W) := by
  obtain ⟨w1, hw, O, OR, hb, hs⟩ := start_oz W o
  have HB := hide hb
  have HP := hide (hP.below hb)
  have HQ := hide (hQ.below hb)
  clear hb hP hQ
  go_enter Try.func23, Try.ntmps23
  go_wp2_with (first | (refine load_ob rfl _ rfl rfl O ?_) | fail)
  refine (chHasEnd_any o k _).mono ?_
  rintro e w2 ⟨rfl, hb2⟩
  have O2 := O.below hb2 O.lt
  have OR2 := OR.below hb2 OR.lt
  have HB2 := hide (HB.out.trans (hb2.mono HB.out.size))
  have hs2 := hb2.size
  have HP2 := hide ((HP.out.belowLe hb2 (by omega)).mono (show W.heap.size ≤ w2.heap.size by omega))
  have HQ2 := hide ((HQ.out.belowLe hb2 (by omega)).mono (show W.heap.size ≤ w2.heap.size by omega))
  clear hb2 hw O OR HP HQ HB
  rw [decide_eq_false hc]
  clear hc
  go_wp2_with (first | (refine store_ob rfl _ _ rfl rfl (c := Ob.zero) rfl OR2 rfl ?_) | fail)
  refine bodyPost_ret (ret_tob rfl _ rfl rfl (OR2.row_same _)) rfl ?_
  exact ⟨rfl, below_row HB2.out (by omega) _⟩
set_option maxRecDepth 100000 in
set_option maxHeartbeats 4000000 in
theorem chWrite_bad (o : Ob) (k : Int) (c : UInt8) (P Q : List UInt8) (W : World) (hc : ¬ o.ChOk k) (hP : Bytes W W.heap.size o.q0.A o.q0.n P) (hQ : Bytes W W.heap.size o.q1.A o.q1.n Q) : Calls Try.prog 25 #[.agg (oc o), .int .i64 k, .int .u8 (c.toNat : Int)] W (PageNo 1 W) := by
  obtain ⟨w1, hw, O, OR, hb, hs⟩ := start_oz W o
  have HB := hide hb
  have HP := hide (hP.below hb)
  have HQ := hide (hQ.below hb)
  clear hb hP hQ
  go_enter Try.func25, Try.ntmps25
  go_wp2_with (first | (refine load_ob rfl _ rfl rfl O ?_) | fail)
  refine (chHasEnd_any o k _).mono ?_
  rintro e w2 ⟨rfl, hb2⟩
  have O2 := O.below hb2 O.lt
  have OR2 := OR.below hb2 OR.lt
  have HB2 := hide (HB.out.trans (hb2.mono HB.out.size))
  have hs2 := hb2.size
  have HP2 := hide ((HP.out.belowLe hb2 (by omega)).mono (show W.heap.size ≤ w2.heap.size by omega))
  have HQ2 := hide ((HQ.out.belowLe hb2 (by omega)).mono (show W.heap.size ≤ w2.heap.size by omega))
  clear hb2 hw O OR HP HQ HB
  rw [decide_eq_false hc]
  clear hc
  go_wp2_with (first | (refine store_ob rfl _ _ rfl rfl (c := Ob.zero) rfl OR2 rfl ?_) | fail)
  refine bodyPost_ret (ret_ob2 rfl _ rfl (OR2.row_same _)) rfl ?_
  exact ⟨rfl, below_row HB2.out (by omega) _⟩
set_option maxRecDepth 100000 in
set_option maxHeartbeats 4000000 in
theorem chRead_wait0 (o : Ob) (P Q : List UInt8) (W : World) (hc : o.ChOk 0) (hn : o.q1.n = 0) (he : 0 < o.e1) (hP : Bytes W W.heap.size o.q0.A o.q0.n P) (hQ : Bytes W W.heap.size o.q1.A o.q1.n Q) : Calls Try.prog 23 #[.agg (oc o), .int .i64 0] W (ReadNo 12 W) := by
  have HC := hide hc
  have HE := hide he
  have HL : Hid (Q = []) := hide (List.eq_nil_of_length_eq_zero (by rw [hQ.len, hn]))
  clear hc he
  obtain ⟨w1, hw, O, OR, hb, hs⟩ := start_oz W o
  have HB := hide hb
  have HP := hide (hP.below hb)
  have HQ := hide (hQ.below hb)
  clear hb hP hQ
  go_enter Try.func23, Try.ntmps23
  go_wp2_with (first | (refine load_ob rfl _ rfl rfl O ?_) | fail)
  refine (chHasEnd_any o 0 _).mono ?_
  rintro e w2 ⟨rfl, hb2⟩
  have O2 := O.below hb2 O.lt
  have OR2 := OR.below hb2 OR.lt
  have HB2 := hide (HB.out.trans (hb2.mono HB.out.size))
  have hs2 := hb2.size
  have HP2 := hide ((HP.out.belowLe hb2 (by omega)).mono (show W.heap.size ≤ w2.heap.size by omega))
  have HQ2 := hide ((HQ.out.belowLe hb2 (by omega)).mono (show W.heap.size ≤ w2.heap.size by omega))
  clear hb2 hw O OR HP HQ HB
  rw [decide_eq_true HC.out]
  go_wp2_with (first | (refine load_qs rfl _ rfl rfl O2 ?_) | fail)
  refine (chCopied_any o.q0 o.q1 P Q _ HP2.out HQ2.out (by have := HC.out.1.2.2.2.1; omega) (by have := HC.out.1.2.2.2.2.1; omega)).mono ?_
  rintro e w3 ⟨s, t, rfl, hown, hown', hst, hb3⟩
  have NS := New8.own hown
  have NT := New8.own hown'
  replace O2 := O2.below hb3 O2.lt
  replace OR2 := OR2.below hb3 OR2.lt
  have HB3 := hide (HB2.out.trans (hb3.mono HB2.out.size))
  obtain ⟨w4, hw4, g, hg, w5, hw5, OZ, OQ, hb5, hs5⟩ := laid_q s t w3
  have hgW : W.heap.size + 2 ≤ g := by have := hb3.size; omega
  replace O2 := O2.below hb5 O2.lt
  replace OR2 := OR2.below hb5 OR2.lt
  have HNS := hide ((NS.below hb5).mono (show W.heap.size + 2 ≤ w2.heap.size by omega))
  have HNT := hide ((NT.below hb5).mono (show W.heap.size + 2 ≤ w2.heap.size by omega))
  have HB5 := hide (HB3.out.trans (hb5.mono HB3.out.size))
  have GS := hide (show Bytes w3 g s.A s.n P from hg ▸ NS.1)
  have GT := hide (show Bytes w3 g t.A t.n Q from hg ▸ NT.1)
  rw [hg] at hb5
  have GS5 := hide (GS.out.below hb5)
  have GT5 := hide (GT.out.below hb5)
  clear GS GT NS NT hown hown' hb3 hb5 HB3 HP2 HQ2 HB2 hst
  have hz : t.n = 0 := by have := GT5.out.len; rw [HL.out] at this; exact this.symm
  have kq : w5.cell? ⟨g, 1, none⟩ = some (.slice t.A 0 t.c) := (OQ.cell 1).trans (by show some (Value.slice t.A t.n t.c) = _; rw [hz])
  have ke : w5.cell? ⟨W.heap.size, 33, none⟩ = some (.int .i64 o.e1) := O2.cell 33
  have he' : (0 : Int) < o.e1 := HE.out
  clear hz
  go_wp2_with (first | (refine store_q rfl _ _ rfl rfl (s := s) (u := t) rfl OZ rfl ?_; rw [hw5]) | (refine store_ob rfl _ _ rfl rfl (c := Ob.zero) rfl OR2 rfl ?_) | fail)
  refine bodyPost_ret (ret_tob rfl _ rfl rfl (OR2.row_same _)) rfl ?_
  exact ⟨rfl, below_row HB5.out (by omega) _⟩
set_option maxRecDepth 100000 in
set_option maxHeartbeats 4000000 in
theorem chRead_end0 (o : Ob) (P Q : List UInt8) (W : World) (hc : o.ChOk 0) (hn : o.q1.n = 0) (he : o.e1 ≤ 0) (hP : Bytes W W.heap.size o.q0.A o.q0.n P) (hQ : Bytes W W.heap.size o.q1.A o.q1.n Q) : Calls Try.prog 23 #[.agg (oc o), .int .i64 0] W (ChRd o.id o.e0 o.e1 (-1) P Q W) := by
  have HC := hide hc
  have HE := hide he
  have HL : Hid (Q = []) := hide (List.eq_nil_of_length_eq_zero (by rw [hQ.len, hn]))
  clear hc he
  obtain ⟨w1, hw, O, OR, hb, hs⟩ := start_oz W o
  have HB := hide hb
  have HP := hide (hP.below hb)
  have HQ := hide (hQ.below hb)
  clear hb hP hQ
  go_enter Try.func23, Try.ntmps23
  go_wp2_with (first | (refine load_ob rfl _ rfl rfl O ?_) | fail)
  refine (chHasEnd_any o 0 _).mono ?_
  rintro e w2 ⟨rfl, hb2⟩
  have O2 := O.below hb2 O.lt
  have OR2 := OR.below hb2 OR.lt
  have HB2 := hide (HB.out.trans (hb2.mono HB.out.size))
  have hs2 := hb2.size
  have HP2 := hide ((HP.out.belowLe hb2 (by omega)).mono (show W.heap.size ≤ w2.heap.size by omega))
  have HQ2 := hide ((HQ.out.belowLe hb2 (by omega)).mono (show W.heap.size ≤ w2.heap.size by omega))
  clear hb2 hw O OR HP HQ HB
  rw [decide_eq_true HC.out]
  go_wp2_with (first | (refine load_qs rfl _ rfl rfl O2 ?_) | fail)
  refine (chCopied_any o.q0 o.q1 P Q _ HP2.out HQ2.out (by have := HC.out.1.2.2.2.1; omega) (by have := HC.out.1.2.2.2.2.1; omega)).mono ?_
  rintro e w3 ⟨s, t, rfl, hown, hown', hst, hb3⟩
  have NS := New8.own hown
  have NT := New8.own hown'
  replace O2 := O2.below hb3 O2.lt
  replace OR2 := OR2.below hb3 OR2.lt
  have HB3 := hide (HB2.out.trans (hb3.mono HB2.out.size))
  obtain ⟨w4, hw4, g, hg, w5, hw5, OZ, OQ, hb5, hs5⟩ := laid_q s t w3
  have hgW : W.heap.size + 2 ≤ g := by have := hb3.size; omega
  replace O2 := O2.below hb5 O2.lt
  replace OR2 := OR2.below hb5 OR2.lt
  have HNS := hide ((NS.below hb5).mono (show W.heap.size + 2 ≤ w2.heap.size by omega))
  have HNT := hide ((NT.below hb5).mono (show W.heap.size + 2 ≤ w2.heap.size by omega))
  have HB5 := hide (HB3.out.trans (hb5.mono HB3.out.size))
  have GS := hide (show Bytes w3 g s.A s.n P from hg ▸ NS.1)
  have GT := hide (show Bytes w3 g t.A t.n Q from hg ▸ NT.1)
  rw [hg] at hb5
  have GS5 := hide (GS.out.below hb5)
  have GT5 := hide (GT.out.below hb5)
  clear GS GT NS NT hown hown' hb3 hb5 HB3 HP2 HQ2 HB2 hst
  have hz : t.n = 0 := by have := GT5.out.len; rw [HL.out] at this; exact this.symm
  have kq : w5.cell? ⟨g, 1, none⟩ = some (.slice t.A 0 t.c) := (OQ.cell 1).trans (by show some (Value.slice t.A t.n t.c) = _; rw [hz])
  have ke : w5.cell? ⟨W.heap.size, 33, none⟩ = some (.int .i64 o.e1) := O2.cell 33
  have he' : ¬ (0 : Int) < o.e1 := by have := HE.out; omega
  clear hz
  go_wp2_with (first | (refine store_q rfl _ _ rfl rfl (s := s) (u := t) rfl OZ rfl ?_; rw [hw5]) | (refine load_ob rfl _ rfl rfl O2 ?_) | (refine load_q rfl _ rfl rfl OQ ?_) | fail)
  refine (chQs_any o s t _).mono ?_
  rintro e w6 ⟨rfl, hb6⟩
  replace OR2 := OR2.below hb6 OR2.lt
  have HB6 := hide (HB5.out.trans (hb6.mono HB5.out.size))
  have HS6 := hide (HNS.out.below hb6)
  have HT6 := hide (HNT.out.below hb6)
  clear hb6 HB5 HNS HNT
  go_wp2_with (first | (refine store_ob rfl _ _ rfl rfl (c := Ob.chan o.id o.e0 o.e1 s t) rfl OR2 rfl ?_) | fail)
  refine bodyPost_ret (ret_tob rfl _ rfl rfl (OR2.row_same _)) rfl ?_
  exact ⟨s, t, rfl, (HS6.out.row _).mono (by omega), (HT6.out.row _).mono (by omega), below_row HB6.out (by omega) _⟩
set_option maxRecDepth 100000 in
set_option maxHeartbeats 4000000 in
theorem chRead_ok0 (o : Ob) (x : UInt8) (P D : List UInt8) (W : World) (hc : o.ChOk 0) (hP : Bytes W W.heap.size o.q0.A o.q0.n P) (hQ : Bytes W W.heap.size o.q1.A o.q1.n (x :: D)) : Calls Try.prog 23 #[.agg (oc o), .int .i64 0] W (ChRd o.id o.e0 o.e1 (x.toNat : Int) P D W) := by
  have HC := hide hc
  have hwx : IntKind.i64.wrap (x.toNat : Int) = (x.toNat : Int) := by have := x.toNat_lt; rw [IntKind.wrap_i64]; omega
  clear hc
  obtain ⟨w1, hw, O, OR, hb, hs⟩ := start_oz W o
  have HB := hide hb
  have HP := hide (hP.below hb)
  have HQ := hide (hQ.below hb)
  clear hb hP hQ
  go_enter Try.func23, Try.ntmps23
  go_wp2_with (first | (refine load_ob rfl _ rfl rfl O ?_) | fail)
  refine (chHasEnd_any o 0 _).mono ?_
  rintro e w2 ⟨rfl, hb2⟩
  have O2 := O.below hb2 O.lt
  have OR2 := OR.below hb2 OR.lt
  have HB2 := hide (HB.out.trans (hb2.mono HB.out.size))
  have hs2 := hb2.size
  have HP2 := hide ((HP.out.belowLe hb2 (by omega)).mono (show W.heap.size ≤ w2.heap.size by omega))
  have HQ2 := hide ((HQ.out.belowLe hb2 (by omega)).mono (show W.heap.size ≤ w2.heap.size by omega))
  clear hb2 hw O OR HP HQ HB
  rw [decide_eq_true HC.out]
  go_wp2_with (first | (refine load_qs rfl _ rfl rfl O2 ?_) | fail)
  refine (chCopied_any o.q0 o.q1 P (x :: D) _ HP2.out HQ2.out (by have := HC.out.1.2.2.2.1; omega) (by have := HC.out.1.2.2.2.2.1; omega)).mono ?_
  rintro e w3 ⟨s, t, rfl, hown, hown', hst, hb3⟩
  have NS := New8.own hown
  have NT := New8.own hown'
  replace O2 := O2.below hb3 O2.lt
  replace OR2 := OR2.below hb3 OR2.lt
  have HB3 := hide (HB2.out.trans (hb3.mono HB2.out.size))
  obtain ⟨w4, hw4, g, hg, w5, hw5, OZ, OQ, hb5, hs5⟩ := laid_q s t w3
  have hgW : W.heap.size + 2 ≤ g := by have := hb3.size; omega
  replace O2 := O2.below hb5 O2.lt
  replace OR2 := OR2.below hb5 OR2.lt
  have HNS := hide ((NS.below hb5).mono (show W.heap.size + 2 ≤ w2.heap.size by omega))
  have HNT := hide ((NT.below hb5).mono (show W.heap.size + 2 ≤ w2.heap.size by omega))
  have HB5 := hide (HB3.out.trans (hb5.mono HB3.out.size))
  have GS := hide (show Bytes w3 g s.A s.n P from hg ▸ NS.1)
  have GT := hide (show Bytes w3 g t.A t.n (x :: D) from hg ▸ NT.1)
  rw [hg] at hb5
  have GS5 := hide (GS.out.below hb5)
  have GT5 := hide (GT.out.below hb5)
  clear GS GT NS NT hown hown' hb3 hb5 HB3 HP2 HQ2 HB2 hst
  obtain ⟨A, n, c⟩ := t
  obtain ⟨p, rfl⟩ : ∃ p, n = p + 1 := ⟨D.length, by have := GT5.out.len; simpa using this.symm⟩
  have hcap : p + 1 ≤ c := HNT.out.2.2
  obtain ⟨b, f, hl, rfl, hlt, hc0⟩ := GT5.out.at_ (k := 0) (by show 0 < p + 1; omega)
  rw [Nat.add_zero] at hc0
  replace hc0 : w5.cell? ⟨b, f, none⟩ = some (.int .u8 (x.toNat : Int)) := hc0
  obtain ⟨AR, hAR⟩ : ∃ AR : Option Addr, (if c = 1 then some (⟨b, f, none⟩ : Addr) else some (⟨b, f + 1, none⟩ : Addr)) = AR := ⟨_, rfl⟩
  have hT : Bytes w5 g AR p D := by
    by_cases hc : c = 1
    · have hp0 : p = 0 := by omega
      subst hp0
      have : D = [] := List.eq_nil_of_length_eq_zero (by have := GT5.out.1; simp at this; simp [this])
      rw [this]
      exact Bytes.nil
    · rw [if_neg hc] at hAR
      subst hAR
      exact GT5.out.tail
  have hAb : Above (W.heap.size + 2) AR := by
    have hA := HNT.out.2.1
    intro q hq
    rw [← hAR] at hq
    split at hq
    · cases hq; exact hA _ rfl
    · cases hq; exact hA ⟨b, f, none⟩ rfl
  have HX := hide (show New8 (W.heap.size + 2) w5 ⟨AR, p, c - 1⟩ D from ⟨hT.mono (by omega), hAb, by show p ≤ c - 1; omega⟩)
  have HTB := hide hT
  have kq : w5.cell? ⟨g, 1, none⟩ = some (.slice (some ⟨b, f, none⟩) (p + 1) c) := OQ.cell 1
  have zq := OQ.free 1
  have OQ6 := OQ.put 1 (.slice AR p (c - 1))
  have O6 := O2.put_other (b' := g) (by omega) 1 (.slice AR p (c - 1))
  have OR6 := OR2.put_other (b' := g) (by omega) 1 (.slice AR p (c - 1))
  have HB6 := hide (HB5.out.setCell (p := ⟨g, 1, none⟩) (show W.heap.size ≤ g by omega) (.slice AR p (c - 1)))
  have hbg : Below g w5 (w5.setCell ⟨g, 1, none⟩ (.slice AR p (c - 1))) := (Below.refl _ _).setCell (p := ⟨g, 1, none⟩) (Nat.le_refl g) _
  obtain ⟨w6, hw6⟩ : ∃ w6, w5.setCell ⟨g, 1, none⟩ (.slice AR p (c - 1)) = w6 := ⟨_, rfl⟩
  rw [hw6] at OQ6 O6 OR6 HB6 hbg
  have hgl := hbg.size
  have HX6 := hide (show New8 (W.heap.size + 2) w6 ⟨AR, p, c - 1⟩ D from ⟨(HTB.out.below hbg).mono (by omega), HX.out.2.1, HX.out.2.2⟩)
  have HY6 := hide (show New8 (W.heap.size + 2) w6 s P from ⟨(GS5.out.below hbg).mono (by omega), HNS.out.2.1, HNS.out.2.2⟩)
  replace OQ6 : Obl w6 g 37 (qc s ⟨AR, p, c - 1⟩) := OQ6
  have h1p : (1 : Int) ≤ (p : Int) + 1 := by omega
  have hpp : (0 : Int) < (p : Int) + 1 := by omega
  have hpc : (p : Int) + 1 ≤ (c : Int) := by omega
  clear hT hAb HX HTB hbg HNS HNT GS5 GT5 hl
  go_wp2_with (first | (refine store_q rfl _ _ rfl rfl (s := s) (u := ⟨some ⟨b, f, none⟩, p + 1, c⟩) rfl OZ rfl ?_; rw [hw5]) | (refine load_ob rfl _ rfl rfl O6 ?_) | (refine load_q rfl _ rfl rfl OQ6 ?_) | fail)
  refine (chQs_any o s ⟨AR, p, c - 1⟩ _).mono ?_
  rintro e w7 ⟨rfl, hb7⟩
  replace OR6 := OR6.below hb7 OR6.lt
  have HB7 := hide (HB6.out.trans (hb7.mono HB6.out.size))
  have HX7 := hide (HX6.out.below hb7)
  have HY7 := hide (HY6.out.below hb7)
  clear hb7 HB6 HX6 HY6
  go_wp2_with (first | (refine store_ob rfl _ _ rfl rfl (c := Ob.chan o.id o.e0 o.e1 s ⟨AR, p, c - 1⟩) rfl OR6 rfl ?_) | fail)
  refine bodyPost_ret (ret_tob rfl _ rfl rfl (OR6.row_same _)) rfl ?_
  exact ⟨s, ⟨AR, p, c - 1⟩, rfl, (HY7.out.row _).mono (by omega), (HX7.out.row _).mono (by omega), below_row HB7.out (by omega) _⟩
set_option maxRecDepth 100000 in
set_option maxHeartbeats 4000000 in
theorem chWrite_no0 (o : Ob) (c : UInt8) (P Q : List UInt8) (W : World) (hc : o.ChOk 0) (hn : o.chWr 0 ≠ 0) (hP : Bytes W W.heap.size o.q0.A o.q0.n P) (hQ : Bytes W W.heap.size o.q1.A o.q1.n Q) : Calls Try.prog 25 #[.agg (oc o), .int .i64 0, .int .u8 (c.toNat : Int)] W (PageNo (o.chWr 0) W) := by
  have HC := hide hc
  clear hc
  obtain ⟨w1, hw, O, OR, hb, hs⟩ := start_oz W o
  have HB := hide hb
  have HP := hide (hP.below hb)
  have HQ := hide (hQ.below hb)
  clear hb hP hQ
  go_enter Try.func25, Try.ntmps25
  go_wp2_with (first | (refine load_ob rfl _ rfl rfl O ?_) | fail)
  refine (chHasEnd_any o 0 _).mono ?_
  rintro e w2 ⟨rfl, hb2⟩
  have O2 := O.below hb2 O.lt
  have OR2 := OR.below hb2 OR.lt
  have HB2 := hide (HB.out.trans (hb2.mono HB.out.size))
  have hs2 := hb2.size
  have HP2 := hide ((HP.out.belowLe hb2 (by omega)).mono (show W.heap.size ≤ w2.heap.size by omega))
  have HQ2 := hide ((HQ.out.belowLe hb2 (by omega)).mono (show W.heap.size ≤ w2.heap.size by omega))
  clear hb2 hw O OR HP HQ HB
  rw [decide_eq_true HC.out]
  have ke : w2.cell? ⟨W.heap.size, 33, none⟩ = some (.int .i64 o.e1) := O2.cell 33
  have kq : w2.cell? ⟨W.heap.size, 30, none⟩ = some (.slice o.q0.A o.q0.n o.q0.c) := O2.cell 30
  by_cases he : o.e1 = 0
  · have HE : Hid (o.chWr 0 = 13) := hide (by unfold Ob.chWr; rw [if_pos HC.out, if_pos (show o.eAt (1 - 0) = 0 from he)])
    rw [he] at ke
    clear he hn
    go_wp2_with (first | (refine store_ob rfl _ _ rfl rfl (c := Ob.zero) rfl OR2 rfl ?_) | fail)
    refine bodyPost_ret (ret_ob2 rfl _ rfl (OR2.row_same _)) rfl ?_
    exact ⟨by rw [HE.out]; rfl, below_row HB2.out (by omega) _⟩
  · have hq : 64 ≤ o.q0.n := by
      by_cases h : 64 ≤ o.q0.n
      · exact h
      · exact absurd (by unfold Ob.chWr; rw [if_pos HC.out, if_neg (show ¬ o.eAt (1 - 0) = 0 from he), if_neg (show ¬ 64 ≤ (o.qAt 0).n from h)]) hn
    have HE : Hid (o.chWr 0 = 12) := hide (by unfold Ob.chWr; rw [if_pos HC.out, if_neg (show ¬ o.eAt (1 - 0) = 0 from he), if_pos (show 64 ≤ (o.qAt 0).n from hq)])
    have hq' : (64 : Int) ≤ (o.q0.n : Int) := by omega
    have hb0 : (o.e1 == 0) = false := by simpa using he
    clear he hn hq
    go_wp2_with (first | (refine store_ob rfl _ _ rfl rfl (c := Ob.zero) rfl OR2 rfl ?_) | fail)
    refine bodyPost_ret (ret_ob2 rfl _ rfl (OR2.row_same _)) rfl ?_
    exact ⟨by rw [HE.out]; rfl, below_row HB2.out (by omega) _⟩
set_option maxRecDepth 100000 in
set_option maxHeartbeats 4000000 in
theorem chWrite_ok0 (o : Ob) (c : UInt8) (P Q : List UInt8) (W : World) (hc : o.ChOk 0) (he : o.e1 ≠ 0) (hn : o.q0.n < 64) (hP : Bytes W W.heap.size o.q0.A o.q0.n P) (hQ : Bytes W W.heap.size o.q1.A o.q1.n Q) : Calls Try.prog 25 #[.agg (oc o), .int .i64 0, .int .u8 (c.toNat : Int)] W (ChWr o.id o.e0 o.e1 (P ++ [c]) Q W) := by
  have HC := hide hc
  have hn' : ¬ (64 : Int) ≤ (o.q0.n : Int) := by omega
  have hb0 : (o.e1 == 0) = false := by simpa using he
  have HL : Hid (P.length < 64) := hide (by rw [hP.len]; exact hn)
  clear hc he hn
  obtain ⟨w1, hw, O, OR, hb, hs⟩ := start_oz W o
  have HB := hide hb
  have HP := hide (hP.below hb)
  have HQ := hide (hQ.below hb)
  clear hb hP hQ
  go_enter Try.func25, Try.ntmps25
  go_wp2_with (first | (refine load_ob rfl _ rfl rfl O ?_) | fail)
  refine (chHasEnd_any o 0 _).mono ?_
  rintro e w2 ⟨rfl, hb2⟩
  have O2 := O.below hb2 O.lt
  have OR2 := OR.below hb2 OR.lt
  have HB2 := hide (HB.out.trans (hb2.mono HB.out.size))
  have hs2 := hb2.size
  have HP2 := hide ((HP.out.belowLe hb2 (by omega)).mono (show W.heap.size ≤ w2.heap.size by omega))
  have HQ2 := hide ((HQ.out.belowLe hb2 (by omega)).mono (show W.heap.size ≤ w2.heap.size by omega))
  clear hb2 hw O OR HP HQ HB
  rw [decide_eq_true HC.out]
  have ke : w2.cell? ⟨W.heap.size, 33, none⟩ = some (.int .i64 o.e1) := O2.cell 33
  have kq : w2.cell? ⟨W.heap.size, 30, none⟩ = some (.slice o.q0.A o.q0.n o.q0.c) := O2.cell 30
  go_wp2_with (first | (refine load_qs rfl _ rfl rfl O2 ?_) | fail)
  clear ke kq
  refine (chCopied_any o.q0 o.q1 P Q _ HP2.out HQ2.out (by have := HC.out.1.2.2.2.1; omega) (by have := HC.out.1.2.2.2.2.1; omega)).mono ?_
  rintro e w3 ⟨s, t, rfl, hown, hown', hst, hb3⟩
  have NS := New8.own hown
  have NT := New8.own hown'
  replace O2 := O2.below hb3 O2.lt
  replace OR2 := OR2.below hb3 OR2.lt
  have HB3 := hide (HB2.out.trans (hb3.mono HB2.out.size))
  obtain ⟨w4, hw4, g, hg, w5, hw5, OZ, OQ, hb5, hs5⟩ := laid_q s t w3
  have hgW : W.heap.size + 2 ≤ g := by have := hb3.size; omega
  replace O2 := O2.below hb5 O2.lt
  replace OR2 := OR2.below hb5 OR2.lt
  have HNS := hide ((NS.below hb5).mono (show W.heap.size + 2 ≤ w2.heap.size by omega))
  have HNT := hide ((NT.below hb5).mono (show W.heap.size + 2 ≤ w2.heap.size by omega))
  have HB5 := hide (HB3.out.trans (hb5.mono HB3.out.size))
  have GS := hide (show Bytes w3 g s.A s.n P from hg ▸ NS.1)
  have GT := hide (show Bytes w3 g t.A t.n Q from hg ▸ NT.1)
  rw [hg] at hb5
  have GS5 := hide (GS.out.below hb5)
  have GT5 := hide (GT.out.below hb5)
  have HO5 := hide (own_weaken (own_below hown (hg ▸ hb5)) (show W.heap.size + 2 ≤ w2.heap.size by omega))
  have HLT := hide (own_block_lt hown)
  rw [hg] at HLT
  have HAP := hide (hst)
  clear GS GT NS NT hown hown' hb3 hb5 HB3 HP2 HQ2 HB2 hst
  obtain ⟨A, n, cc⟩ := s
  obtain rfl : P.length = n := GS5.out.len
  have hl64 : P.length ≤ 1000 := by have := HL.out; omega
  have kq : w5.cell? ⟨g, 0, none⟩ = some (.slice A P.length cc) := OQ.cell 0
  have hsz : W.heap.size + 2 ≤ w5.heap.size := by omega
  have hb6 := (Below.refl w5.heap.size w5).alloc (Nat.le_refl _) (.cells #[.int .u8 (c.toNat : Int)] 5)
  have O6 := O2.below hb6 O2.lt
  have OR6 := OR2.below hb6 OR2.lt
  have OQ6 := OQ.below hb6 OQ.lt
  have HO6 := hide (own_below HO5.out hb6)
  have GY6 := hide (GT5.out.below (hb6.mono (by omega)))
  have HB6 := hide (HB5.out.trans (hb6.mono HB5.out.size))
  have hRow := hide (Row.new w5 (.int .u8 (c.toNat : Int)) 5)
  have HYA := hide HNT.out.2
  obtain ⟨w6, hw6⟩ : ∃ w6, w5.alloc (.cells #[.int .u8 (c.toNat : Int)] 5) = w6 := ⟨_, rfl⟩
  have hw6s : w6.heap.size = w5.heap.size + 1 := by rw [← hw6]; simp
  rw [hw6] at O6 OR6 OQ6 HO6 GY6 HB6 hRow
  rw [← hw6s, hs5] at hRow
  have hg6 : g + 2 ≤ w6.heap.size := by omega
  clear hb6 HNS HNT GS5 GT5 HO5 HB5 hw6s
  go_wp2_with (first
    | (refine store_q rfl _ _ rfl rfl (s := ⟨A, P.length, cc⟩) (u := t) rfl OZ rfl ?_; rw [hw5])
    | (at_builtin; refine wpList_append_rd rfl _ _ _ rfl byteTy (base := W.heap.size + 2) rfl HO6.out rfl hRow.out (by simp [Value.oneCell']) (by unfold maxLen; omega) (by omega) (by omega) ?_; intro A4 c4 w7 hown4 hg4 _; rw [bv_snoc_u8] at hown4; have hbA : ∀ p, A = some p → p.block < g := HLT.out; have hbW : ∀ p, A = some p → W.heap.size + 2 ≤ p.block := above_own HO6.out; have OQ7 := OQ6.grown hg4 (blk_ne (fun p hp e => by have := hbA p hp; omega)); have O7 := O6.grown hg4 (blk_ne (fun p hp e => by have := hbW p hp; omega)); have OR7 := OR6.grown hg4 (blk_ne (fun p hp e => by have := hbW p hp; omega)); have HB7 := hide (below_own HB6.out (own_weaken HO6.out (by omega)) hg4 HB6.out.size); have GY7 := GY6.out.grown hg4 (by omega) HAP.out; have hs7 := hg4.size; have zq := OQ7.free 0; have kq7 : w7.cell? ⟨g, 0, none⟩ = some (.slice A P.length cc) := OQ7.cell 0; have hne := OQ7.apart hown4 (by decide); have HO8 := hide (own_put_other (b := g) (i := 0) hown4 (fun e => hne (by rw [ownBlock_slice] at e; exact e.symm)) (.slice A4 (P.length + 1) c4)); have hbg : Below g w7 (w7.setCell ⟨g, 0, none⟩ (.slice A4 (P.length + 1) c4)) := (Below.refl _ _).setCell (p := ⟨g, 0, none⟩) (Nat.le_refl g) _; have GY8 := hide (GY7.below hbg); have OQ8 := OQ7.put 0 (.slice A4 (P.length + 1) c4); have O8 := O7.put_other (b' := g) (by omega) 0 (.slice A4 (P.length + 1) c4); have OR8 := OR7.put_other (b' := g) (by omega) 0 (.slice A4 (P.length + 1) c4); have HB8 := hide (HB7.out.setCell (p := ⟨g, 0, none⟩) (show W.heap.size ≤ g by omega) (.slice A4 (P.length + 1) c4)); obtain ⟨w8, hw8⟩ : ∃ w8, w7.setCell ⟨g, 0, none⟩ (.slice A4 (P.length + 1) c4) = w8 := ⟨_, rfl⟩; rw [hw8] at HO8 GY8 OQ8 O8 OR8 HB8 hbg; have hs8 := hbg.size; replace OQ8 : Obl w8 g 37 (qc ⟨A4, P.length + 1, c4⟩ t) := OQ8; clear hbA hbW OQ7 O7 OR7 HB7 GY7 hne hbg hown4 hg4 HO6 HB6 GY6 O6 OR6 OQ6)
    | (refine load_ob rfl _ rfl rfl O8 ?_)
    | (refine load_q rfl _ rfl rfl OQ8 ?_)
    | fail)
  have HX8 := hide (New8.own HO8.out)
  have HY8 := hide (show New8 (W.heap.size + 2) w8 t Q from ⟨GY8.out.mono (by omega), HYA.out⟩)
  refine (chQs_any o ⟨A4, P.length + 1, c4⟩ t _).mono ?_
  rintro e w9 ⟨rfl, hb9⟩
  replace OR8 := OR8.below hb9 OR8.lt
  have HB9 := hide (HB8.out.trans (hb9.mono HB8.out.size))
  have HX9 := hide (HX8.out.below hb9)
  have HY9 := hide (HY8.out.below hb9)
  clear hb9 HB8 HX8 HY8 kq7 zq
  go_wp2_with (first | (refine store_ob rfl _ _ rfl rfl (c := Ob.chan o.id o.e0 o.e1 ⟨A4, P.length + 1, c4⟩ t) rfl OR8 rfl ?_) | fail)
  refine bodyPost_ret (ret_ob2 rfl _ rfl (OR8.row_same _)) rfl ?_
  exact ⟨⟨A4, P.length + 1, c4⟩, t, rfl, (HX9.out.row _).mono (by omega), (HY9.out.row _).mono (by omega), below_row HB9.out (by omega) _⟩
set_option maxRecDepth 100000 in
set_option maxHeartbeats 4000000 in
theorem chRead_wait1 (o : Ob) (P Q : List UInt8) (W : World) (hc : o.ChOk 1) (hn : o.q0.n = 0) (he : 0 < o.e0) (hP : Bytes W W.heap.size o.q0.A o.q0.n P) (hQ : Bytes W W.heap.size o.q1.A o.q1.n Q) : Calls Try.prog 23 #[.agg (oc o), .int .i64 1] W (ReadNo 12 W) := by
  have HC := hide hc
  have HE := hide he
  have HL : Hid (P = []) := hide (List.eq_nil_of_length_eq_zero (by rw [hP.len, hn]))
  clear hc he
  obtain ⟨w1, hw, O, OR, hb, hs⟩ := start_oz W o
  have HB := hide hb
  have HP := hide (hP.below hb)
  have HQ := hide (hQ.below hb)
  clear hb hP hQ
  go_enter Try.func23, Try.ntmps23
  go_wp2_with (first | (refine load_ob rfl _ rfl rfl O ?_) | fail)
  refine (chHasEnd_any o 1 _).mono ?_
  rintro e w2 ⟨rfl, hb2⟩
  have O2 := O.below hb2 O.lt
  have OR2 := OR.below hb2 OR.lt
  have HB2 := hide (HB.out.trans (hb2.mono HB.out.size))
  have hs2 := hb2.size
  have HP2 := hide ((HP.out.belowLe hb2 (by omega)).mono (show W.heap.size ≤ w2.heap.size by omega))
  have HQ2 := hide ((HQ.out.belowLe hb2 (by omega)).mono (show W.heap.size ≤ w2.heap.size by omega))
  clear hb2 hw O OR HP HQ HB
  rw [decide_eq_true HC.out]
  go_wp2_with (first | (refine load_qs rfl _ rfl rfl O2 ?_) | fail)
  refine (chCopied_any o.q0 o.q1 P Q _ HP2.out HQ2.out (by have := HC.out.1.2.2.2.1; omega) (by have := HC.out.1.2.2.2.2.1; omega)).mono ?_
  rintro e w3 ⟨s, t, rfl, hown, hown', hst, hb3⟩
  have NS := New8.own hown
  have NT := New8.own hown'
  replace O2 := O2.below hb3 O2.lt
  replace OR2 := OR2.below hb3 OR2.lt
  have HB3 := hide (HB2.out.trans (hb3.mono HB2.out.size))
  obtain ⟨w4, hw4, g, hg, w5, hw5, OZ, OQ, hb5, hs5⟩ := laid_q s t w3
  have hgW : W.heap.size + 2 ≤ g := by have := hb3.size; omega
  replace O2 := O2.below hb5 O2.lt
  replace OR2 := OR2.below hb5 OR2.lt
  have HNS := hide ((NS.below hb5).mono (show W.heap.size + 2 ≤ w2.heap.size by omega))
  have HNT := hide ((NT.below hb5).mono (show W.heap.size + 2 ≤ w2.heap.size by omega))
  have HB5 := hide (HB3.out.trans (hb5.mono HB3.out.size))
  have GS := hide (show Bytes w3 g s.A s.n P from hg ▸ NS.1)
  have GT := hide (show Bytes w3 g t.A t.n Q from hg ▸ NT.1)
  rw [hg] at hb5
  have GS5 := hide (GS.out.below hb5)
  have GT5 := hide (GT.out.below hb5)
  clear GS GT NS NT hown hown' hb3 hb5 HB3 HP2 HQ2 HB2 hst
  have hz : s.n = 0 := by have := GS5.out.len; rw [HL.out] at this; exact this.symm
  have kq : w5.cell? ⟨g, 0, none⟩ = some (.slice s.A 0 s.c) := (OQ.cell 0).trans (by show some (Value.slice s.A s.n s.c) = _; rw [hz])
  have ke : w5.cell? ⟨W.heap.size, 32, none⟩ = some (.int .i64 o.e0) := O2.cell 32
  have he' : (0 : Int) < o.e0 := HE.out
  clear hz
  go_wp2_with (first | (refine store_q rfl _ _ rfl rfl (s := s) (u := t) rfl OZ rfl ?_; rw [hw5]) | (refine store_ob rfl _ _ rfl rfl (c := Ob.zero) rfl OR2 rfl ?_) | fail)
  refine bodyPost_ret (ret_tob rfl _ rfl rfl (OR2.row_same _)) rfl ?_
  exact ⟨rfl, below_row HB5.out (by omega) _⟩
set_option maxRecDepth 100000 in
set_option maxHeartbeats 4000000 in
theorem chRead_end1 (o : Ob) (P Q : List UInt8) (W : World) (hc : o.ChOk 1) (hn : o.q0.n = 0) (he : o.e0 ≤ 0) (hP : Bytes W W.heap.size o.q0.A o.q0.n P) (hQ : Bytes W W.heap.size o.q1.A o.q1.n Q) : Calls Try.prog 23 #[.agg (oc o), .int .i64 1] W (ChRd o.id o.e0 o.e1 (-1) P Q W) := by
  have HC := hide hc
  have HE := hide he
  have HL : Hid (P = []) := hide (List.eq_nil_of_length_eq_zero (by rw [hP.len, hn]))
  clear hc he
  obtain ⟨w1, hw, O, OR, hb, hs⟩ := start_oz W o
  have HB := hide hb
  have HP := hide (hP.below hb)
  have HQ := hide (hQ.below hb)
  clear hb hP hQ
  go_enter Try.func23, Try.ntmps23
  go_wp2_with (first | (refine load_ob rfl _ rfl rfl O ?_) | fail)
  refine (chHasEnd_any o 1 _).mono ?_
  rintro e w2 ⟨rfl, hb2⟩
  have O2 := O.below hb2 O.lt
  have OR2 := OR.below hb2 OR.lt
  have HB2 := hide (HB.out.trans (hb2.mono HB.out.size))
  have hs2 := hb2.size
  have HP2 := hide ((HP.out.belowLe hb2 (by omega)).mono (show W.heap.size ≤ w2.heap.size by omega))
  have HQ2 := hide ((HQ.out.belowLe hb2 (by omega)).mono (show W.heap.size ≤ w2.heap.size by omega))
  clear hb2 hw O OR HP HQ HB
  rw [decide_eq_true HC.out]
  go_wp2_with (first | (refine load_qs rfl _ rfl rfl O2 ?_) | fail)
  refine (chCopied_any o.q0 o.q1 P Q _ HP2.out HQ2.out (by have := HC.out.1.2.2.2.1; omega) (by have := HC.out.1.2.2.2.2.1; omega)).mono ?_
  rintro e w3 ⟨s, t, rfl, hown, hown', hst, hb3⟩
  have NS := New8.own hown
  have NT := New8.own hown'
  replace O2 := O2.below hb3 O2.lt
  replace OR2 := OR2.below hb3 OR2.lt
  have HB3 := hide (HB2.out.trans (hb3.mono HB2.out.size))
  obtain ⟨w4, hw4, g, hg, w5, hw5, OZ, OQ, hb5, hs5⟩ := laid_q s t w3
  have hgW : W.heap.size + 2 ≤ g := by have := hb3.size; omega
  replace O2 := O2.below hb5 O2.lt
  replace OR2 := OR2.below hb5 OR2.lt
  have HNS := hide ((NS.below hb5).mono (show W.heap.size + 2 ≤ w2.heap.size by omega))
  have HNT := hide ((NT.below hb5).mono (show W.heap.size + 2 ≤ w2.heap.size by omega))
  have HB5 := hide (HB3.out.trans (hb5.mono HB3.out.size))
  have GS := hide (show Bytes w3 g s.A s.n P from hg ▸ NS.1)
  have GT := hide (show Bytes w3 g t.A t.n Q from hg ▸ NT.1)
  rw [hg] at hb5
  have GS5 := hide (GS.out.below hb5)
  have GT5 := hide (GT.out.below hb5)
  clear GS GT NS NT hown hown' hb3 hb5 HB3 HP2 HQ2 HB2 hst
  have hz : s.n = 0 := by have := GS5.out.len; rw [HL.out] at this; exact this.symm
  have kq : w5.cell? ⟨g, 0, none⟩ = some (.slice s.A 0 s.c) := (OQ.cell 0).trans (by show some (Value.slice s.A s.n s.c) = _; rw [hz])
  have ke : w5.cell? ⟨W.heap.size, 32, none⟩ = some (.int .i64 o.e0) := O2.cell 32
  have he' : ¬ (0 : Int) < o.e0 := by have := HE.out; omega
  clear hz
  go_wp2_with (first | (refine store_q rfl _ _ rfl rfl (s := s) (u := t) rfl OZ rfl ?_; rw [hw5]) | (refine load_ob rfl _ rfl rfl O2 ?_) | (refine load_q rfl _ rfl rfl OQ ?_) | fail)
  refine (chQs_any o s t _).mono ?_
  rintro e w6 ⟨rfl, hb6⟩
  replace OR2 := OR2.below hb6 OR2.lt
  have HB6 := hide (HB5.out.trans (hb6.mono HB5.out.size))
  have HS6 := hide (HNS.out.below hb6)
  have HT6 := hide (HNT.out.below hb6)
  clear hb6 HB5 HNS HNT
  go_wp2_with (first | (refine store_ob rfl _ _ rfl rfl (c := Ob.chan o.id o.e0 o.e1 s t) rfl OR2 rfl ?_) | fail)
  refine bodyPost_ret (ret_tob rfl _ rfl rfl (OR2.row_same _)) rfl ?_
  exact ⟨s, t, rfl, (HS6.out.row _).mono (by omega), (HT6.out.row _).mono (by omega), below_row HB6.out (by omega) _⟩
set_option maxRecDepth 100000 in
set_option maxHeartbeats 4000000 in
theorem chRead_ok1 (o : Ob) (x : UInt8) (Q D : List UInt8) (W : World) (hc : o.ChOk 1) (hP : Bytes W W.heap.size o.q0.A o.q0.n (x :: D)) (hQ : Bytes W W.heap.size o.q1.A o.q1.n Q) : Calls Try.prog 23 #[.agg (oc o), .int .i64 1] W (ChRd o.id o.e0 o.e1 (x.toNat : Int) D Q W) := by
  have HC := hide hc
  have hwx : IntKind.i64.wrap (x.toNat : Int) = (x.toNat : Int) := by have := x.toNat_lt; rw [IntKind.wrap_i64]; omega
  clear hc
  obtain ⟨w1, hw, O, OR, hb, hs⟩ := start_oz W o
  have HB := hide hb
  have HP := hide (hP.below hb)
  have HQ := hide (hQ.below hb)
  clear hb hP hQ
  go_enter Try.func23, Try.ntmps23
  go_wp2_with (first | (refine load_ob rfl _ rfl rfl O ?_) | fail)
  refine (chHasEnd_any o 1 _).mono ?_
  rintro e w2 ⟨rfl, hb2⟩
  have O2 := O.below hb2 O.lt
  have OR2 := OR.below hb2 OR.lt
  have HB2 := hide (HB.out.trans (hb2.mono HB.out.size))
  have hs2 := hb2.size
  have HP2 := hide ((HP.out.belowLe hb2 (by omega)).mono (show W.heap.size ≤ w2.heap.size by omega))
  have HQ2 := hide ((HQ.out.belowLe hb2 (by omega)).mono (show W.heap.size ≤ w2.heap.size by omega))
  clear hb2 hw O OR HP HQ HB
  rw [decide_eq_true HC.out]
  go_wp2_with (first | (refine load_qs rfl _ rfl rfl O2 ?_) | fail)
  refine (chCopied_any o.q0 o.q1 (x :: D) Q _ HP2.out HQ2.out (by have := HC.out.1.2.2.2.1; omega) (by have := HC.out.1.2.2.2.2.1; omega)).mono ?_
  rintro e w3 ⟨s, t, rfl, hown, hown', hst, hb3⟩
  have NS := New8.own hown
  have NT := New8.own hown'
  replace O2 := O2.below hb3 O2.lt
  replace OR2 := OR2.below hb3 OR2.lt
  have HB3 := hide (HB2.out.trans (hb3.mono HB2.out.size))
  obtain ⟨w4, hw4, g, hg, w5, hw5, OZ, OQ, hb5, hs5⟩ := laid_q s t w3
  have hgW : W.heap.size + 2 ≤ g := by have := hb3.size; omega
  replace O2 := O2.below hb5 O2.lt
  replace OR2 := OR2.below hb5 OR2.lt
  have HNS := hide ((NS.below hb5).mono (show W.heap.size + 2 ≤ w2.heap.size by omega))
  have HNT := hide ((NT.below hb5).mono (show W.heap.size + 2 ≤ w2.heap.size by omega))
  have HB5 := hide (HB3.out.trans (hb5.mono HB3.out.size))
  have GS := hide (show Bytes w3 g s.A s.n (x :: D) from hg ▸ NS.1)
  have GT := hide (show Bytes w3 g t.A t.n Q from hg ▸ NT.1)
  rw [hg] at hb5
  have GS5 := hide (GS.out.below hb5)
  have GT5 := hide (GT.out.below hb5)
  clear GS GT NS NT hown hown' hb3 hb5 HB3 HP2 HQ2 HB2 hst
  obtain ⟨A, n, c⟩ := s
  obtain ⟨p, rfl⟩ : ∃ p, n = p + 1 := ⟨D.length, by have := GS5.out.len; simpa using this.symm⟩
  have hcap : p + 1 ≤ c := HNS.out.2.2
  obtain ⟨b, f, hl, rfl, hlt, hc0⟩ := GS5.out.at_ (k := 0) (by show 0 < p + 1; omega)
  rw [Nat.add_zero] at hc0
  replace hc0 : w5.cell? ⟨b, f, none⟩ = some (.int .u8 (x.toNat : Int)) := hc0
  obtain ⟨AR, hAR⟩ : ∃ AR : Option Addr, (if c = 1 then some (⟨b, f, none⟩ : Addr) else some (⟨b, f + 1, none⟩ : Addr)) = AR := ⟨_, rfl⟩
  have hT : Bytes w5 g AR p D := by
    by_cases hc : c = 1
    · have hp0 : p = 0 := by omega
      subst hp0
      have : D = [] := List.eq_nil_of_length_eq_zero (by have := GS5.out.1; simp at this; simp [this])
      rw [this]
      exact Bytes.nil
    · rw [if_neg hc] at hAR
      subst hAR
      exact GS5.out.tail
  have hAb : Above (W.heap.size + 2) AR := by
    have hA := HNS.out.2.1
    intro q hq
    rw [← hAR] at hq
    split at hq
    · cases hq; exact hA _ rfl
    · cases hq; exact hA ⟨b, f, none⟩ rfl
  have HX := hide (show New8 (W.heap.size + 2) w5 ⟨AR, p, c - 1⟩ D from ⟨hT.mono (by omega), hAb, by show p ≤ c - 1; omega⟩)
  have HTB := hide hT
  have kq : w5.cell? ⟨g, 0, none⟩ = some (.slice (some ⟨b, f, none⟩) (p + 1) c) := OQ.cell 0
  have zq := OQ.free 0
  have OQ6 := OQ.put 0 (.slice AR p (c - 1))
  have O6 := O2.put_other (b' := g) (by omega) 0 (.slice AR p (c - 1))
  have OR6 := OR2.put_other (b' := g) (by omega) 0 (.slice AR p (c - 1))
  have HB6 := hide (HB5.out.setCell (p := ⟨g, 0, none⟩) (show W.heap.size ≤ g by omega) (.slice AR p (c - 1)))
  have hbg : Below g w5 (w5.setCell ⟨g, 0, none⟩ (.slice AR p (c - 1))) := (Below.refl _ _).setCell (p := ⟨g, 0, none⟩) (Nat.le_refl g) _
  obtain ⟨w6, hw6⟩ : ∃ w6, w5.setCell ⟨g, 0, none⟩ (.slice AR p (c - 1)) = w6 := ⟨_, rfl⟩
  rw [hw6] at OQ6 O6 OR6 HB6 hbg
  have hgl := hbg.size
  have HX6 := hide (show New8 (W.heap.size + 2) w6 ⟨AR, p, c - 1⟩ D from ⟨(HTB.out.below hbg).mono (by omega), HX.out.2.1, HX.out.2.2⟩)
  have HY6 := hide (show New8 (W.heap.size + 2) w6 t Q from ⟨(GT5.out.below hbg).mono (by omega), HNT.out.2.1, HNT.out.2.2⟩)
  replace OQ6 : Obl w6 g 37 (qc ⟨AR, p, c - 1⟩ t) := OQ6
  have h1p : (1 : Int) ≤ (p : Int) + 1 := by omega
  have hpp : (0 : Int) < (p : Int) + 1 := by omega
  have hpc : (p : Int) + 1 ≤ (c : Int) := by omega
  clear hT hAb HX HTB hbg HNS HNT GS5 GT5 hl
  go_wp2_with (first | (refine store_q rfl _ _ rfl rfl (s := ⟨some ⟨b, f, none⟩, p + 1, c⟩) (u := t) rfl OZ rfl ?_; rw [hw5]) | (refine load_ob rfl _ rfl rfl O6 ?_) | (refine load_q rfl _ rfl rfl OQ6 ?_) | fail)
  refine (chQs_any o ⟨AR, p, c - 1⟩ t _).mono ?_
  rintro e w7 ⟨rfl, hb7⟩
  replace OR6 := OR6.below hb7 OR6.lt
  have HB7 := hide (HB6.out.trans (hb7.mono HB6.out.size))
  have HX7 := hide (HX6.out.below hb7)
  have HY7 := hide (HY6.out.below hb7)
  clear hb7 HB6 HX6 HY6
  go_wp2_with (first | (refine store_ob rfl _ _ rfl rfl (c := Ob.chan o.id o.e0 o.e1 ⟨AR, p, c - 1⟩ t) rfl OR6 rfl ?_) | fail)
  refine bodyPost_ret (ret_tob rfl _ rfl rfl (OR6.row_same _)) rfl ?_
  exact ⟨⟨AR, p, c - 1⟩, t, rfl, (HX7.out.row _).mono (by omega), (HY7.out.row _).mono (by omega), below_row HB7.out (by omega) _⟩
set_option maxRecDepth 100000 in
set_option maxHeartbeats 4000000 in
theorem chWrite_no1 (o : Ob) (c : UInt8) (P Q : List UInt8) (W : World) (hc : o.ChOk 1) (hn : o.chWr 1 ≠ 0) (hP : Bytes W W.heap.size o.q0.A o.q0.n P) (hQ : Bytes W W.heap.size o.q1.A o.q1.n Q) : Calls Try.prog 25 #[.agg (oc o), .int .i64 1, .int .u8 (c.toNat : Int)] W (PageNo (o.chWr 1) W) := by
  have HC := hide hc
  clear hc
  obtain ⟨w1, hw, O, OR, hb, hs⟩ := start_oz W o
  have HB := hide hb
  have HP := hide (hP.below hb)
  have HQ := hide (hQ.below hb)
  clear hb hP hQ
  go_enter Try.func25, Try.ntmps25
  go_wp2_with (first | (refine load_ob rfl _ rfl rfl O ?_) | fail)
  refine (chHasEnd_any o 1 _).mono ?_
  rintro e w2 ⟨rfl, hb2⟩
  have O2 := O.below hb2 O.lt
  have OR2 := OR.below hb2 OR.lt
  have HB2 := hide (HB.out.trans (hb2.mono HB.out.size))
  have hs2 := hb2.size
  have HP2 := hide ((HP.out.belowLe hb2 (by omega)).mono (show W.heap.size ≤ w2.heap.size by omega))
  have HQ2 := hide ((HQ.out.belowLe hb2 (by omega)).mono (show W.heap.size ≤ w2.heap.size by omega))
  clear hb2 hw O OR HP HQ HB
  rw [decide_eq_true HC.out]
  have ke : w2.cell? ⟨W.heap.size, 32, none⟩ = some (.int .i64 o.e0) := O2.cell 32
  have kq : w2.cell? ⟨W.heap.size, 31, none⟩ = some (.slice o.q1.A o.q1.n o.q1.c) := O2.cell 31
  by_cases he : o.e0 = 0
  · have HE : Hid (o.chWr 1 = 13) := hide (by unfold Ob.chWr; rw [if_pos HC.out, if_pos (show o.eAt (1 - 1) = 0 from he)])
    rw [he] at ke
    clear he hn
    go_wp2_with (first | (refine store_ob rfl _ _ rfl rfl (c := Ob.zero) rfl OR2 rfl ?_) | fail)
    refine bodyPost_ret (ret_ob2 rfl _ rfl (OR2.row_same _)) rfl ?_
    exact ⟨by rw [HE.out]; rfl, below_row HB2.out (by omega) _⟩
  · have hq : 64 ≤ o.q1.n := by
      by_cases h : 64 ≤ o.q1.n
      · exact h
      · exact absurd (by unfold Ob.chWr; rw [if_pos HC.out, if_neg (show ¬ o.eAt (1 - 1) = 0 from he), if_neg (show ¬ 64 ≤ (o.qAt 1).n from h)]) hn
    have HE : Hid (o.chWr 1 = 12) := hide (by unfold Ob.chWr; rw [if_pos HC.out, if_neg (show ¬ o.eAt (1 - 1) = 0 from he), if_pos (show 64 ≤ (o.qAt 1).n from hq)])
    have hq' : (64 : Int) ≤ (o.q1.n : Int) := by omega
    have hb0 : (o.e0 == 0) = false := by simpa using he
    clear he hn hq
    go_wp2_with (first | (refine store_ob rfl _ _ rfl rfl (c := Ob.zero) rfl OR2 rfl ?_) | fail)
    refine bodyPost_ret (ret_ob2 rfl _ rfl (OR2.row_same _)) rfl ?_
    exact ⟨by rw [HE.out]; rfl, below_row HB2.out (by omega) _⟩
set_option maxRecDepth 100000 in
set_option maxHeartbeats 4000000 in
theorem chWrite_ok1 (o : Ob) (c : UInt8) (P Q : List UInt8) (W : World) (hc : o.ChOk 1) (he : o.e0 ≠ 0) (hn : o.q1.n < 64) (hP : Bytes W W.heap.size o.q0.A o.q0.n P) (hQ : Bytes W W.heap.size o.q1.A o.q1.n Q) : Calls Try.prog 25 #[.agg (oc o), .int .i64 1, .int .u8 (c.toNat : Int)] W (ChWr o.id o.e0 o.e1 P (Q ++ [c]) W) := by
  have HC := hide hc
  have hn' : ¬ (64 : Int) ≤ (o.q1.n : Int) := by omega
  have hb0 : (o.e0 == 0) = false := by simpa using he
  have HL : Hid (Q.length < 64) := hide (by rw [hQ.len]; exact hn)
  clear hc he hn
  obtain ⟨w1, hw, O, OR, hb, hs⟩ := start_oz W o
  have HB := hide hb
  have HP := hide (hP.below hb)
  have HQ := hide (hQ.below hb)
  clear hb hP hQ
  go_enter Try.func25, Try.ntmps25
  go_wp2_with (first | (refine load_ob rfl _ rfl rfl O ?_) | fail)
  refine (chHasEnd_any o 1 _).mono ?_
  rintro e w2 ⟨rfl, hb2⟩
  have O2 := O.below hb2 O.lt
  have OR2 := OR.below hb2 OR.lt
  have HB2 := hide (HB.out.trans (hb2.mono HB.out.size))
  have hs2 := hb2.size
  have HP2 := hide ((HP.out.belowLe hb2 (by omega)).mono (show W.heap.size ≤ w2.heap.size by omega))
  have HQ2 := hide ((HQ.out.belowLe hb2 (by omega)).mono (show W.heap.size ≤ w2.heap.size by omega))
  clear hb2 hw O OR HP HQ HB
  rw [decide_eq_true HC.out]
  have ke : w2.cell? ⟨W.heap.size, 32, none⟩ = some (.int .i64 o.e0) := O2.cell 32
  have kq : w2.cell? ⟨W.heap.size, 31, none⟩ = some (.slice o.q1.A o.q1.n o.q1.c) := O2.cell 31
  go_wp2_with (first | (refine load_qs rfl _ rfl rfl O2 ?_) | fail)
  clear ke kq
  refine (chCopied_any o.q0 o.q1 P Q _ HP2.out HQ2.out (by have := HC.out.1.2.2.2.1; omega) (by have := HC.out.1.2.2.2.2.1; omega)).mono ?_
  rintro e w3 ⟨s, t, rfl, hown, hown', hst, hb3⟩
  have NS := New8.own hown
  have NT := New8.own hown'
  replace O2 := O2.below hb3 O2.lt
  replace OR2 := OR2.below hb3 OR2.lt
  have HB3 := hide (HB2.out.trans (hb3.mono HB2.out.size))
  obtain ⟨w4, hw4, g, hg, w5, hw5, OZ, OQ, hb5, hs5⟩ := laid_q s t w3
  have hgW : W.heap.size + 2 ≤ g := by have := hb3.size; omega
  replace O2 := O2.below hb5 O2.lt
  replace OR2 := OR2.below hb5 OR2.lt
  have HNS := hide ((NS.below hb5).mono (show W.heap.size + 2 ≤ w2.heap.size by omega))
  have HNT := hide ((NT.below hb5).mono (show W.heap.size + 2 ≤ w2.heap.size by omega))
  have HB5 := hide (HB3.out.trans (hb5.mono HB3.out.size))
  have GS := hide (show Bytes w3 g s.A s.n P from hg ▸ NS.1)
  have GT := hide (show Bytes w3 g t.A t.n Q from hg ▸ NT.1)
  rw [hg] at hb5
  have GS5 := hide (GS.out.below hb5)
  have GT5 := hide (GT.out.below hb5)
  have HO5 := hide (own_weaken (own_below hown' (hg ▸ hb5)) (show W.heap.size + 2 ≤ w2.heap.size by omega))
  have HLT := hide (own_block_lt hown')
  rw [hg] at HLT
  have HAP := hide (hst.symm)
  clear GS GT NS NT hown hown' hb3 hb5 HB3 HP2 HQ2 HB2 hst
  obtain ⟨A, n, cc⟩ := t
  obtain rfl : Q.length = n := GT5.out.len
  have hl64 : Q.length ≤ 1000 := by have := HL.out; omega
  have kq : w5.cell? ⟨g, 1, none⟩ = some (.slice A Q.length cc) := OQ.cell 1
  have hsz : W.heap.size + 2 ≤ w5.heap.size := by omega
  have hb6 := (Below.refl w5.heap.size w5).alloc (Nat.le_refl _) (.cells #[.int .u8 (c.toNat : Int)] 5)
  have O6 := O2.below hb6 O2.lt
  have OR6 := OR2.below hb6 OR2.lt
  have OQ6 := OQ.below hb6 OQ.lt
  have HO6 := hide (own_below HO5.out hb6)
  have GY6 := hide (GS5.out.below (hb6.mono (by omega)))
  have HB6 := hide (HB5.out.trans (hb6.mono HB5.out.size))
  have hRow := hide (Row.new w5 (.int .u8 (c.toNat : Int)) 5)
  have HYA := hide HNS.out.2
  obtain ⟨w6, hw6⟩ : ∃ w6, w5.alloc (.cells #[.int .u8 (c.toNat : Int)] 5) = w6 := ⟨_, rfl⟩
  have hw6s : w6.heap.size = w5.heap.size + 1 := by rw [← hw6]; simp
  rw [hw6] at O6 OR6 OQ6 HO6 GY6 HB6 hRow
  rw [← hw6s, hs5] at hRow
  have hg6 : g + 2 ≤ w6.heap.size := by omega
  clear hb6 HNS HNT GS5 GT5 HO5 HB5 hw6s
  go_wp2_with (first
    | (refine store_q rfl _ _ rfl rfl (s := s) (u := ⟨A, Q.length, cc⟩) rfl OZ rfl ?_; rw [hw5])
    | (at_builtin; refine wpList_append_rd rfl _ _ _ rfl byteTy (base := W.heap.size + 2) rfl HO6.out rfl hRow.out (by simp [Value.oneCell']) (by unfold maxLen; omega) (by omega) (by omega) ?_; intro A4 c4 w7 hown4 hg4 _; rw [bv_snoc_u8] at hown4; have hbA : ∀ p, A = some p → p.block < g := HLT.out; have hbW : ∀ p, A = some p → W.heap.size + 2 ≤ p.block := above_own HO6.out; have OQ7 := OQ6.grown hg4 (blk_ne (fun p hp e => by have := hbA p hp; omega)); have O7 := O6.grown hg4 (blk_ne (fun p hp e => by have := hbW p hp; omega)); have OR7 := OR6.grown hg4 (blk_ne (fun p hp e => by have := hbW p hp; omega)); have HB7 := hide (below_own HB6.out (own_weaken HO6.out (by omega)) hg4 HB6.out.size); have GY7 := GY6.out.grown hg4 (by omega) HAP.out; have hs7 := hg4.size; have zq := OQ7.free 1; have kq7 : w7.cell? ⟨g, 1, none⟩ = some (.slice A Q.length cc) := OQ7.cell 1; have hne := OQ7.apart hown4 (by decide); have HO8 := hide (own_put_other (b := g) (i := 1) hown4 (fun e => hne (by rw [ownBlock_slice] at e; exact e.symm)) (.slice A4 (Q.length + 1) c4)); have hbg : Below g w7 (w7.setCell ⟨g, 1, none⟩ (.slice A4 (Q.length + 1) c4)) := (Below.refl _ _).setCell (p := ⟨g, 1, none⟩) (Nat.le_refl g) _; have GY8 := hide (GY7.below hbg); have OQ8 := OQ7.put 1 (.slice A4 (Q.length + 1) c4); have O8 := O7.put_other (b' := g) (by omega) 1 (.slice A4 (Q.length + 1) c4); have OR8 := OR7.put_other (b' := g) (by omega) 1 (.slice A4 (Q.length + 1) c4); have HB8 := hide (HB7.out.setCell (p := ⟨g, 1, none⟩) (show W.heap.size ≤ g by omega) (.slice A4 (Q.length + 1) c4)); obtain ⟨w8, hw8⟩ : ∃ w8, w7.setCell ⟨g, 1, none⟩ (.slice A4 (Q.length + 1) c4) = w8 := ⟨_, rfl⟩; rw [hw8] at HO8 GY8 OQ8 O8 OR8 HB8 hbg; have hs8 := hbg.size; replace OQ8 : Obl w8 g 37 (qc s ⟨A4, Q.length + 1, c4⟩) := OQ8; clear hbA hbW OQ7 O7 OR7 HB7 GY7 hne hbg hown4 hg4 HO6 HB6 GY6 O6 OR6 OQ6)
    | (refine load_ob rfl _ rfl rfl O8 ?_)
    | (refine load_q rfl _ rfl rfl OQ8 ?_)
    | fail)
  have HX8 := hide (New8.own HO8.out)
  have HY8 := hide (show New8 (W.heap.size + 2) w8 s P from ⟨GY8.out.mono (by omega), HYA.out⟩)
  refine (chQs_any o s ⟨A4, Q.length + 1, c4⟩ _).mono ?_
  rintro e w9 ⟨rfl, hb9⟩
  replace OR8 := OR8.below hb9 OR8.lt
  have HB9 := hide (HB8.out.trans (hb9.mono HB8.out.size))
  have HX9 := hide (HX8.out.below hb9)
  have HY9 := hide (HY8.out.below hb9)
  clear hb9 HB8 HX8 HY8 kq7 zq
  go_wp2_with (first | (refine store_ob rfl _ _ rfl rfl (c := Ob.chan o.id o.e0 o.e1 s ⟨A4, Q.length + 1, c4⟩) rfl OR8 rfl ?_) | fail)
  refine bodyPost_ret (ret_ob2 rfl _ rfl (OR8.row_same _)) rfl ?_
  exact ⟨s, ⟨A4, Q.length + 1, c4⟩, rfl, (HY9.out.row _).mono (by omega), (HX9.out.row _).mono (by omega), below_row HB9.out (by omega) _⟩
end Go.Proofs.Yteaippnffmhhnaa
