/- The reference of pipes: New, Read, Write: contracts. -/
import Derived.Test.YtpibdfgcfhopaaaPpRefV
import Derived.Test.YtpibdfgcfhopaaaPpOps
namespace Go.Proofs.Ytpibdfgcfhopaaa
open Go.RowKit

set_option maxRecDepth 100000 in
set_option maxHeartbeats 4000000 in
theorem refPpNew_any (id : Int) (W : World) : Calls Try.prog 20 #[.int .u64 id] W (GivesOb (Ob.pipe id 1 1 ⟨none, 0, 0⟩) W) := by
  obtain ⟨w1, hw, O, hb, hs⟩ := start_z W
  have HB := hide hb
  clear hb
  go_enter Try.func20, Try.ntmps20
  go_wp2_with (first | (refine store_ob rfl _ _ rfl rfl (c := Ob.pipe id 1 1 ⟨none, 0, 0⟩) rfl O rfl ?_) | fail)
  refine bodyPost_ret (ret_ob rfl _ rfl (O.row_same _)) rfl ?_
  exact ⟨rfl, below_row HB.out (Nat.le_refl _) _⟩
set_option maxRecDepth 100000 in
set_option maxHeartbeats 4000000 in
theorem refPpRead_no (o : Ob) (W : World) (hc : o.rdErr ≠ 0) : Calls Try.prog 13 #[.agg (oc o)] W (ReadNo o.rdErr W) := by
  obtain ⟨w1, hw, O, OR, hb, hs⟩ := start_oz W o
  have HB := hide hb
  clear hb
  go_enter Try.func13, Try.ntmps13
  go_wp2_with (first | (refine load_ob rfl _ rfl rfl O ?_) | fail)
  refine (refPpValid_any o _).mono ?_
  rintro e w2 ⟨rfl, hb2⟩
  have O2 := O.below hb2 O.lt
  have OR2 := OR.below hb2 OR.lt
  have HF := hide (below_row (HB.out.trans (hb2.mono HB.out.size)) (g := W.heap.size + 1) (by omega) (oc Ob.zero))
  have k24 : w2.cell? ⟨W.heap.size, 24, none⟩ = some (.slice o.data.A o.data.n o.data.c) := O2.cell 24
  have k28 : w2.cell? ⟨W.heap.size, 28, none⟩ = some (.int .i64 o.writers) := O2.cell 28
  clear hb2 hw O2 hs
  by_cases hp : o.Pipe
  · have hn : o.data.n = 0 := by
      by_cases h : o.data.n = 0
      · exact h
      · exact absurd (Ob.rdErr_ok hp (.inl h)) hc
    have hu : 0 < o.writers := by
      by_cases h : 0 < o.writers
      · exact h
      · exact absurd (Ob.rdErr_ok hp (.inr (by omega))) hc
    have HC := hide (Ob.rdErr_wait hp hn hu)
    rw [decide_eq_true hp]
    rw [hn] at k24
    clear hc hp hn
    go_wp2_with (first | (refine store_ob rfl _ _ rfl rfl (c := Ob.zero) rfl OR2 rfl ?_) | fail)
    refine bodyPost_ret (ret_tob rfl _ rfl (OR2.row_same _)) rfl ?_
    exact ⟨by rw [HC.out]; rfl, HF.out⟩
  · have HC := hide (Ob.rdErr_bad hp)
    rw [decide_eq_false hp]
    clear hc hp
    go_wp2_with (first | (refine store_ob rfl _ _ rfl rfl (c := Ob.zero) rfl OR2 rfl ?_) | fail)
    refine bodyPost_ret (ret_tob rfl _ rfl (OR2.row_same _)) rfl ?_
    exact ⟨by rw [HC.out]; rfl, HF.out⟩
set_option maxRecDepth 100000 in
set_option maxHeartbeats 4000000 in
theorem refPpRead_end (o : Ob) (W : World) (hp : o.Pipe) (hn : o.data.n = 0) (hu : o.writers ≤ 0) : Calls Try.prog 13 #[.agg (oc o)] W (ReadEnd o W) := by
  obtain ⟨w1, hw, O, OR, hb, hs⟩ := start_oz W o
  have HB := hide hb
  have HP := hide hp
  clear hb hp
  go_enter Try.func13, Try.ntmps13
  go_wp2_with (first | (refine load_ob rfl _ rfl rfl O ?_) | fail)
  refine (refPpValid_any o _).mono ?_
  rintro e w2 ⟨rfl, hb2⟩
  rw [decide_eq_true HP.out]
  have O2 := O.below hb2 O.lt
  have OR2 := OR.below hb2 OR.lt
  have HF := hide (HB.out.trans (hb2.mono HB.out.size))
  have k24 : w2.cell? ⟨W.heap.size, 24, none⟩ = some (.slice o.data.A 0 o.data.c) := by rw [← hn]; exact O2.cell 24
  have k28 : w2.cell? ⟨W.heap.size, 28, none⟩ = some (.int .i64 o.writers) := O2.cell 28
  have hu' : ¬ 0 < o.writers := by omega
  clear hb2 hw hs O OR hn hu
  go_wp2_with fail
  refine region_B (by kernel_rfl) (W.heap.size + 1) ?_
  replace O2 : Obl w2.drew W.heap.size 41 (oc o) := O2
  replace OR2 : Obl w2.drew (W.heap.size + 1) 41 (oc Ob.zero) := OR2
  replace HF : Hid (Below W.heap.size W w2.drew) := hide ⟨HF.out.os, HF.out.tape, HF.out.output, HF.out.size, HF.out.block⟩
  clear k24 k28
  generalize w2.drew = u0 at *
  refine takeB 0 rfl (by kernel_rfl) (fun _ _ _ h => h) (by rfl) (by intro w' hg; exact exec_load_ob rfl rfl (O2.below hg (Nat.lt_succ_self _))) ?_
  refine takeB 1 rfl (by kernel_rfl) (fun _ _ _ h => h) (by rfl) (by intro w' hg; go_simp; try with_reducible rfl) ?_
  go_simp
  refine onlyB 2 rfl (by kernel_rfl) (by rfl) ?_
  intro K hK
  refine wp_store_pp rfl rfl (c := o) rfl OR2 rfl ?_
  refine hK _ _ (below_row (Below.refl _ _) (Nat.le_refl _) _) ?_
  clear hK K
  have OR5 := OR2.row_same (oc o)
  have HF5 := hide (below_row HF.out (g := W.heap.size + 1) (by omega) (oc o))
  obtain ⟨u5, hu5⟩ : ∃ u5, u0.setRow (W.heap.size + 1) (oc o) = u5 := ⟨_, rfl⟩
  rw [hu5] at OR5 HF5 ⊢
  refine takeB 3 rfl (by kernel_rfl) (fun _ _ _ h => h) (by rfl) (by intro w' hg; go_simp; try with_reducible rfl) ?_
  refine doneB (by kernel_rfl) ?_
  go_simp
  go_wp2_with fail
  refine bodyPost_ret (ret_tob rfl _ rfl OR5) rfl ?_
  exact ⟨rfl, HF5.out⟩
set_option maxRecDepth 100000 in
set_option maxHeartbeats 4000000 in
theorem refPpRead_ok (o : Ob) (x : UInt8) (D : List UInt8) (W : World) (hp : o.Pipe) (hD : Bytes W W.heap.size o.data.A o.data.n (x :: D)) (hcap : o.data.n ≤ o.data.c) : Calls Try.prog 13 #[.agg (oc o)] W (ReadOk o (x.toNat : Int) D W) := by
  obtain ⟨w1, hw, O, OR, hb, hs⟩ := start_oz W o
  have HB := hide hb
  have HP := hide hp
  obtain ⟨p, hn⟩ : ∃ p, o.data.n = p + 1 := ⟨D.length, by have := hD.len; simpa using this.symm⟩
  rw [hn] at hD hcap
  have hp64 : p ≤ 1000 := by have := hp.2.2.2.1; omega
  obtain ⟨b, f, hl, hA, hlt, hc⟩ := hD.at_ (k := 0) (by omega)
  rw [Nat.add_zero] at hc
  replace hc : W.cell? ⟨b, f, none⟩ = some (.int .u8 (x.toNat : Int)) := hc
  have hwx : IntKind.i64.wrap (x.toNat : Int) = (x.toNat : Int) := by have := x.toNat_lt; rw [IntKind.wrap_i64]; omega
  have hcW := HB.out.cell (p := ⟨b, f, none⟩) hlt
  rw [hc] at hcW
  rw [hA] at hD
  obtain ⟨AR, hAR⟩ : ∃ AR : Option Addr, (if o.data.c = 1 then some (⟨b, f, none⟩ : Addr) else some (⟨b, f + 1, none⟩ : Addr)) = AR := ⟨_, rfl⟩
  have hT : Bytes W W.heap.size AR p D := by
    by_cases hc : o.data.c = 1
    · have hp0 : p = 0 := by omega
      subst hp0
      have : D = [] := List.eq_nil_of_length_eq_zero (by have := hD.1; simp at this; simp [this])
      rw [this]
      exact Bytes.nil
    · rw [if_neg hc] at hAR
      subst hAR
      exact hD.tail
  have HD := hide (hT.below HB.out)
  have h1p : (1 : Int) ≤ (p : Int) + 1 := by omega
  clear hb hp hD hc hl hT
  go_enter Try.func13, Try.ntmps13
  go_wp2_with (first | (refine load_ob rfl _ rfl rfl O ?_) | fail)
  refine (refPpValid_any o _).mono ?_
  rintro e w2 ⟨rfl, hb2⟩
  rw [decide_eq_true HP.out]
  have hWl : W.heap.size + 2 ≤ w1.heap.size := by omega
  have O2 := O.below hb2 O.lt
  have OR2 := OR.below hb2 OR.lt
  have HF := hide (HB.out.trans (hb2.mono HB.out.size))
  have hcX := (hb2.cell (p := ⟨b, f, none⟩) (by show b < w1.heap.size; omega)).trans hcW
  have HX := hide (HD.out.belowLe hb2 (by omega))
  have k24 : w2.cell? ⟨W.heap.size, 24, none⟩ = some (.slice (some ⟨b, f, none⟩) (p + 1) o.data.c) := by rw [← hn, ← hA]; exact O2.cell 24
  have hpp : ¬ (p : Int) + 1 = 0 := by omega
  have hW2 : W.heap.size + 2 ≤ w2.heap.size := by have := hb2.size; omega
  clear hb2 hw hs O OR hn HD hcW HB hA hWl
  go_wp2_with (first | (at_builtin; refine wpList_append_rd rfl _ _ _ rfl byteTy (A := none) (n := 0) (c := 0) (xs := []) (base := w2.heap.size) rfl own_none (S := AR) (m := p) (d := o.data.c - 1) (news := bv D) rfl HX.out.2 (bv_one _) (by unfold maxLen; omega) (by omega) (Nat.le_refl _) ?_; intro A3 c3 w3 hown3 hg3 _; rw [Nat.zero_add, List.nil_append] at hown3; rw [Nat.zero_add]; have hb3 := below_none hg3; have O3 := O2.below hb3 O2.lt; have OR3 := OR2.below hb3 OR2.lt; have z3 := O3.free 24; have k3 : w3.cell? ⟨W.heap.size, 24, none⟩ = some (.slice (some ⟨b, f, none⟩) (p + 1) o.data.c) := (hb3.cell (p := ⟨W.heap.size, 24, none⟩) O2.lt).trans k24; have HB3 := hide (HF.out.trans (hb3.mono HF.out.size)); have HO4 := hide (own_keep hown3 (keep_put (m := W.heap.size) (by omega) 24 (.slice A3 p c3))); have O4 := O3.put 24 (.slice A3 p c3); have OR4 := OR3.put_other (b' := W.heap.size) (by omega) 24 (.slice A3 p c3); have HB4 := hide (HB3.out.setCell (p := ⟨W.heap.size, 24, none⟩) (Nat.le_refl _) (.slice A3 p c3)); replace O4 : Obl (w3.setCell ⟨W.heap.size, 24, none⟩ (.slice A3 p c3)) W.heap.size 41 (oc { o with data := ⟨A3, p, c3⟩ }) := O4; obtain ⟨w4, hw4⟩ : ∃ w4, w3.setCell ⟨W.heap.size, 24, none⟩ (.slice A3 p c3) = w4 := ⟨_, rfl⟩; rw [hw4] at HO4 O4 OR4 HB4; clear hown3 hg3 hb3 O3 OR3 HB3 k24 HX O2 OR2 HF) | fail)
  refine region_B (by kernel_rfl) (W.heap.size + 1) ?_
  replace O4 : Obl w4.drew W.heap.size 41 (oc { o with data := ⟨A3, p, c3⟩ }) := O4
  replace OR4 : Obl w4.drew (W.heap.size + 1) 41 (oc Ob.zero) := OR4
  replace HB4 : Hid (Below W.heap.size W w4.drew) := hide ⟨HB4.out.os, HB4.out.tape, HB4.out.output, HB4.out.size, HB4.out.block⟩
  replace HO4 : Hid (w4.drew.ownsRow w2.heap.size 5 1 (.slice A3 p c3) p (bv D)) := HO4
  generalize w4.drew = u0 at *
  refine takeB 0 rfl (by kernel_rfl) (fun _ _ _ h => h) (by rfl) (by intro w' hg; go_simp; try with_reducible rfl) ?_
  refine takeB 1 rfl (by kernel_rfl) (fun _ _ _ h => h) (by rfl) (by intro w' hg; go_simp; try with_reducible rfl) ?_
  refine takeB 2 rfl (by kernel_rfl) (fun _ _ _ h => h) (by rfl) (by intro w' hg; exact exec_load_ob rfl rfl (O4.below hg (Nat.lt_succ_self _))) ?_
  refine takeB 3 rfl (by kernel_rfl) (fun _ _ _ h => h) (by rfl) (by intro w' hg; go_simp; try with_reducible rfl) ?_
  go_simp
  refine onlyB 4 rfl (by kernel_rfl) (by rfl) ?_
  intro K hK
  refine wp_store_pp rfl rfl (c := { o with data := ⟨A3, p, c3⟩ }) rfl OR4 rfl ?_
  refine hK _ _ (below_row (Below.refl _ _) (Nat.le_refl _) _) ?_
  clear hK K
  have OR5 := OR4.row_same (oc { o with data := ⟨A3, p, c3⟩ })
  have HO5 := hide (own_keep HO4.out (keep_row (m := W.heap.size + 1) (by omega) (oc { o with data := ⟨A3, p, c3⟩ })))
  have HF5 := hide (below_row HB4.out (g := W.heap.size + 1) (by omega) (oc { o with data := ⟨A3, p, c3⟩ }))
  obtain ⟨u5, hu5⟩ : ∃ u5, u0.setRow (W.heap.size + 1) (oc { o with data := ⟨A3, p, c3⟩ }) = u5 := ⟨_, rfl⟩
  rw [hu5] at OR5 HO5 HF5 ⊢
  refine takeB 5 rfl (by kernel_rfl) (fun _ _ _ h => h) (by rfl) (by intro w' hg; go_simp; try with_reducible rfl) ?_
  refine doneB (by kernel_rfl) ?_
  go_simp
  go_wp2_with fail
  refine bodyPost_ret (ret_tob rfl _ rfl OR5) rfl ?_
  exact ⟨A3, p, c3, rfl, own_weaken HO5.out (by omega), HF5.out⟩
set_option maxRecDepth 100000 in
set_option maxHeartbeats 4000000 in
theorem refPpWrite_no (o : Ob) (c : UInt8) (W : World) (hc : o.wrErr ≠ 0) : Calls Try.prog 15 #[.agg (oc o), .int .u8 (c.toNat : Int)] W (PageNo o.wrErr W) := by
  obtain ⟨w1, hw, O, OR, hb, hs⟩ := start_oz W o
  have HB := hide hb
  clear hb
  go_enter Try.func15, Try.ntmps15
  go_wp2_with (first | (refine load_ob rfl _ rfl rfl O ?_) | fail)
  refine (refPpValid_any o _).mono ?_
  rintro e w2 ⟨rfl, hb2⟩
  have O2 := O.below hb2 O.lt
  have OR2 := OR.below hb2 OR.lt
  have HF := hide (below_row (HB.out.trans (hb2.mono HB.out.size)) (g := W.heap.size + 1) (by omega) (oc Ob.zero))
  have k24 : w2.cell? ⟨W.heap.size, 24, none⟩ = some (.slice o.data.A o.data.n o.data.c) := O2.cell 24
  have k27 : w2.cell? ⟨W.heap.size, 27, none⟩ = some (.int .i64 o.readers) := O2.cell 27
  clear hb2 hw O2 hs
  by_cases hp : o.Pipe
  · rw [decide_eq_true hp]
    by_cases hr : o.readers = 0
    · have HC := hide (Ob.wrErr_closed hp hr)
      rw [hr] at k27
      clear hc hp hr
      go_wp2_with (first | (refine store_ob rfl _ _ rfl rfl (c := Ob.zero) rfl OR2 rfl ?_) | fail)
      refine bodyPost_ret (ret_ob2 rfl _ rfl (OR2.row_same _)) rfl ?_
      exact ⟨by rw [HC.out]; rfl, HF.out⟩
    · have hn : 64 ≤ o.data.n := by
        by_cases h : o.data.n < 64
        · exact absurd (Ob.wrErr_ok hp hr h) hc
        · omega
      have HC := hide (Ob.wrErr_full hp hr hn)
      have hn' : (64 : Int) ≤ (o.data.n : Int) := by omega
      have br : (o.readers == 0) = false := by simpa using hr
      clear hc hp hr hn
      go_wp2_with (first | (refine store_ob rfl _ _ rfl rfl (c := Ob.zero) rfl OR2 rfl ?_) | fail)
      refine bodyPost_ret (ret_ob2 rfl _ rfl (OR2.row_same _)) rfl ?_
      exact ⟨by rw [HC.out]; rfl, HF.out⟩
  · have HC := hide (Ob.wrErr_bad hp)
    rw [decide_eq_false hp]
    clear hc hp
    go_wp2_with (first | (refine store_ob rfl _ _ rfl rfl (c := Ob.zero) rfl OR2 rfl ?_) | fail)
    refine bodyPost_ret (ret_ob2 rfl _ rfl (OR2.row_same _)) rfl ?_
    exact ⟨by rw [HC.out]; rfl, HF.out⟩
set_option maxRecDepth 100000 in
set_option maxHeartbeats 4000000 in
theorem refPpWrite_ok (o : Ob) (c : UInt8) (D : List UInt8) (W : World) (hp : o.Pipe) (hr : o.readers ≠ 0) (hn : o.data.n < 64) (hD : Bytes W W.heap.size o.data.A o.data.n D) : Calls Try.prog 15 #[.agg (oc o), .int .u8 (c.toNat : Int)] W (WriteOk o (D ++ [c]) W) := by
  obtain ⟨w1, hw, O, OR, hb, hs⟩ := start_oz W o
  have HB := hide hb
  have HP := hide hp
  have HD := hide (hD.below hb)
  have hn' : ¬ (64 : Int) ≤ (o.data.n : Int) := by omega
  have br : (o.readers == 0) = false := by simpa using hr
  have hn64 : o.data.n ≤ 64 := by omega
  clear hb hp hD hr hn
  go_enter Try.func15, Try.ntmps15
  go_wp2_with (first | (refine load_ob rfl _ rfl rfl O ?_) | fail)
  refine (refPpValid_any o _).mono ?_
  rintro e w2 ⟨rfl, hb2⟩
  rw [decide_eq_true HP.out]
  have hWl : W.heap.size + 2 ≤ w1.heap.size := by omega
  have O2 := O.below hb2 O.lt
  have OR2 := OR.below hb2 OR.lt
  have HF := hide (HB.out.trans (hb2.mono HB.out.size))
  have HX := hide (HD.out.belowLe hb2 (by omega))
  have k24 : w2.cell? ⟨W.heap.size, 24, none⟩ = some (.slice o.data.A o.data.n o.data.c) := O2.cell 24
  have k27 : w2.cell? ⟨W.heap.size, 27, none⟩ = some (.int .i64 o.readers) := O2.cell 27
  have hW2 : W.heap.size + 2 ≤ w2.heap.size := by have := hb2.size; omega
  clear hb2 hw hs O OR HD HB hWl
  go_wp2_with (first
    | (at_builtin; refine wpList_append_rd rfl _ _ _ rfl byteTy (A := none) (n := 0) (c := 0) (xs := []) (base := w2.heap.size) rfl own_none (S := o.data.A) (m := o.data.n) (d := o.data.c) (news := bv D) rfl HX.out.2 (bv_one _) (by unfold maxLen; omega) (by omega) (Nat.le_refl _) ?_; intro A3 c3 w3 hown3 hg3 _; rw [Nat.zero_add, List.nil_append] at hown3; rw [Nat.zero_add]; have hb3 := below_none hg3; have O3 := O2.below hb3 O2.lt; have OR3 := OR2.below hb3 OR2.lt; have HB3 := hide (HF.out.trans (hb3.mono HF.out.size)); have HO3 := hide hown3; have hs3 := hb3.size; clear hown3 hg3 hb3 HF HX k24 k27 O2 OR2)
    | (at_builtin; refine wpList_append_rd rfl _ _ _ rfl byteTy (base := w2.heap.size) rfl (HO3.out.alloc (.cells #[.int .u8 (c.toNat : Int)] 5)) rfl (Row.new w3 (.int .u8 (c.toNat : Int)) 5) (by simp [Value.oneCell']) (by unfold maxLen; omega) (by omega) (by simp; omega) ?_; intro A4 c4 w4 hown4 hg4 _; rw [bv_snoc_u8] at hown4; have hb4 := (Below.refl w2.heap.size w3).alloc hs3 (.cells #[.int .u8 (c.toNat : Int)] 5); have hb4 := below_own hb4 (HO3.out.alloc (.cells #[.int .u8 (c.toNat : Int)] 5)) hg4 (by simp; omega); have O4 := O3.below hb4 (show W.heap.size < w2.heap.size by omega); have OR4 := OR3.below hb4 (show W.heap.size + 1 < w2.heap.size by omega); have z4 := O4.free 24; have k4 : w4.cell? ⟨W.heap.size, 24, none⟩ = some (.slice o.data.A o.data.n o.data.c) := O4.cell 24; have HB4 := hide (HB3.out.trans (hb4.mono (by omega))); have HO5 := hide (own_keep hown4 (keep_put (m := W.heap.size) (by omega) 24 (.slice A4 (o.data.n + 1) c4))); have O5 : Obl (w4.setCell ⟨W.heap.size, 24, none⟩ (.slice A4 (o.data.n + 1) c4)) W.heap.size 41 (oc { o with data := ⟨A4, o.data.n + 1, c4⟩ }) := O4.put 24 (.slice A4 (o.data.n + 1) c4); have OR5 := OR4.put_other (b' := W.heap.size) (by omega) 24 (.slice A4 (o.data.n + 1) c4); have HB5 := hide (HB4.out.setCell (p := ⟨W.heap.size, 24, none⟩) (Nat.le_refl _) (.slice A4 (o.data.n + 1) c4)); obtain ⟨w5, hw5⟩ : ∃ w5, w4.setCell ⟨W.heap.size, 24, none⟩ (.slice A4 (o.data.n + 1) c4) = w5 := ⟨_, rfl⟩; rw [hw5] at HO5 O5 OR5 HB5; clear hown4 hg4 hb4 O3 OR3 HB3 HO3 O4 OR4 HB4)
    | (refine load_ob rfl _ rfl rfl O5 ?_)
    | (refine store_ob rfl _ _ rfl rfl (c := { o with data := ⟨A4, o.data.n + 1, c4⟩ }) rfl OR5 rfl ?_)
    | fail)
  refine bodyPost_ret (ret_ob2 rfl _ rfl (OR5.row_same _)) rfl ?_
  exact ⟨A4, o.data.n + 1, c4, rfl, own_weaken (own_keep HO5.out (keep_row (m := W.heap.size + 1) (by omega) _)) (by omega), below_row HB5.out (by omega) _⟩
end Go.Proofs.Ytpibdfgcfhopaaa
