/- Layer 11: package pipe's New, Read, Write: contracts. -/
import Derived.Test.YtpibdfgcfhopaaaPpValid2
import Derived.Test.YtpibdfgcfhopaaaRegionX
import Derived.Test.YtpibdfgcfhopaaaLib
import Derived.Test.YtpibdfgcfhopaaaStr
import Derived.Test.YtpibdfgcfhopaaaRowMem
import Derived.Test.YtpibdfgcfhopaaaObOwn
import Derived.ArgAppend
namespace Go.Proofs.Ytpibdfgcfhopaaa
open Go.RowKit

theorem built_pipe1 (id : Int) : Try.prog.built 41 [(0, .int .u64 id), (1, .int .i64 5), (8, .int .i64 1), (9, .int .i64 1)] = some (oc (Ob.pipe id 1 1 ⟨none, 0, 0⟩)) := by kernel_rfl
theorem built_pipe (id r u : Int) (A : Option Addr) (n c : Nat) : Try.prog.built 41 [(0, .int .u64 id), (1, .int .i64 5), (8, .int .i64 r), (9, .int .i64 u), (5, .slice A n c)] = some (oc (Ob.pipe id r u ⟨A, n, c⟩)) := by kernel_rfl
/-- An object comes back. -/
def GivesOb (o : Ob) (w : World) (e : Ending) (w' : World) : Prop := e = .returned (.agg (oc o)) ∧ Below w.heap.size w w'
set_option maxRecDepth 100000 in
set_option maxHeartbeats 4000000 in
theorem ppNew_any (id : Int) (W : World) : Calls Try.prog 19 #[.int .u64 id] W (GivesOb (Ob.pipe id 1 1 ⟨none, 0, 0⟩) W) := by
  obtain ⟨w1, hw, O, hb, hs⟩ := start_z W
  have HB := hide hb
  clear hb
  go_enter Try.func19, Try.ntmps19
  go_wp2_with (first | (refine store_ob rfl _ _ rfl rfl (c := Ob.pipe id 1 1 ⟨none, 0, 0⟩) rfl O rfl ?_) | fail)
  refine bodyPost_ret (ret_ob rfl _ rfl (O.row_same _)) rfl ?_
  exact ⟨rfl, below_row HB.out (Nat.le_refl _) _⟩
set_option maxRecDepth 100000 in
set_option maxHeartbeats 4000000 in
theorem ppQueue_any (o : Ob) (A : Option Addr) (n c : Nat) (W : World) : Calls Try.prog 35 #[.agg (oc o), .slice A n c] W (GivesOb (Ob.pipe o.id o.readers o.writers ⟨A, n, c⟩) W) := by
  obtain ⟨w1, hw, O, OR, hb, hs⟩ := start_oz W o
  have k0 : w1.cell? ⟨W.heap.size, 0, none⟩ = some (.int .u64 o.id) := O.cell 0
  have k27 : w1.cell? ⟨W.heap.size, 27, none⟩ = some (.int .i64 o.readers) := O.cell 27
  have k28 : w1.cell? ⟨W.heap.size, 28, none⟩ = some (.int .i64 o.writers) := O.cell 28
  have HB := hide hb
  clear hb
  go_enter Try.func35, Try.ntmps35
  go_wp2_with (first | (refine store_ob rfl _ _ rfl rfl (c := Ob.pipe o.id o.readers o.writers ⟨A, n, c⟩) rfl OR rfl ?_) | fail)
  refine bodyPost_ret (ret_ob rfl _ rfl (OR.row_same _)) rfl ?_
  exact ⟨rfl, below_row HB.out (by omega) _⟩
/-- A new slice of bytes comes back. -/
def GivesBytes (D : List UInt8) (w : World) (e : Ending) (w' : World) : Prop := ∃ A n c, e = .returned (.slice A n c) ∧ w'.ownsRow w.heap.size 5 1 (.slice A n c) n (bv D) ∧ Below w.heap.size w w'
set_option maxRecDepth 100000 in
set_option maxHeartbeats 4000000 in
theorem ppFirst_any (D : List UInt8) (A : Option Addr) (p cap : Nat) (W : World) (hB : Bytes W W.heap.size A (p + 1) D) (hp : p ≤ 1000) (hc : p + 1 ≤ cap) : Calls Try.prog 36 #[.slice A (p + 1) cap] W (GivesBytes (D.drop 1) W) := by
  obtain ⟨bb, oo, hl0, rfl, hbb, hcb⟩ := hB.at_ (k := 0) (by omega)
  obtain ⟨AR, hAR⟩ : ∃ AR : Option Addr, (if cap = 1 then some (⟨bb, oo, none⟩ : Addr) else some (⟨bb, oo + 1, none⟩ : Addr)) = AR := ⟨_, rfl⟩
  have hT : Bytes W W.heap.size AR p (D.drop 1) := by
    by_cases hc : cap = 1
    · have hp0 : p = 0 := by omega
      subst hp0
      have : D.drop 1 = [] := List.eq_nil_of_length_eq_zero (by rw [List.length_drop]; have := hB.1; omega)
      rw [this]
      exact Bytes.nil
    · rw [if_neg hc] at hAR
      subst hAR
      exact hB.tail
  have h1p : (1 : Int) ≤ (p : Int) + 1 := by omega
  have hcc : p + 1 ≤ cap := hc
  have HT := hide hT
  clear hT hB hcb hl0 hbb
  go_enter Try.func36, Try.ntmps36
  go_wp2_with (first | (at_builtin; refine wpList_append_rd rfl _ _ _ rfl byteTy (A := none) (n := 0) (c := 0) (xs := []) (base := W.heap.size) rfl own_none (S := AR) (m := p) (d := cap - 1) (news := bv (D.drop 1)) rfl HT.out.2 (bv_one _) (by unfold maxLen; omega) (by omega) (Nat.le_refl _) ?_; intro A3 c3 w3 hown3 hg3 _; rw [Nat.zero_add, List.nil_append] at hown3; rw [Nat.zero_add]; have hb3 := below_none hg3; clear hg3) | fail)
  go_ret
  exact ⟨A3, p, c3, rfl, hown3, hb3⟩
/-- Nothing behind a slice that has no room: append copies it. -/
theorem wpList_append_full {ops : Array Oper} {rest : List Oper} {o : Oper} {a : Act} {w : World} {Q : Exit → Act → World → Prop} (hgd : o.guard = none) (s x : Operand) (ho : o.op = .call { callee := .builtin .append, args := #[s, x], argTypes := #[36, 36] })
    {B C n : Nat} {A : Option Addr} {D : List UInt8} (hs : a.eval s = .slice A n n) (hD : Bytes w B A n D) {S : Addr} {d : Nat} {c : UInt8} (hx : a.eval x = .slice (some S) 1 d) (hc : Bytes w C (some S) 1 [c]) (hn : n ≤ 1000)
    (h : ∀ A' c' w', w'.ownsRow w.heap.size 5 1 (.slice A' (n + 1) c') (n + 1) (bv (D ++ [c])) → w.grownBy w' none → wpList Try.prog ops Q rest (a.put o.dst (.slice A' (n + 1) c')) w') : wpList Try.prog ops Q (o :: rest) a w := by
  obtain ⟨i, z, ht, hi, hz, hsz, hby, hzs, hpos⟩ := byteTy
  refine wpList_append_grows w hgd s x _ ho 5 i z 1 1 ht hi hz hsz hby hzs hpos A n n (bv D) hs (fun e => ⟨hD.2.2.1 e, hD.2.2.1 e⟩) (by rw [bv_length, hD.1]; omega) ?_ S 1 d (bv [c]) hx (by rw [bv_length]; rfl) ?_ (bv_one _) (by omega) (by unfold maxLen; omega) (by omega) ?_
  · intro b hb j u hu
    obtain ⟨b', o', e, _, hcc⟩ := hD.2.2.2 (by intro hx; rw [hx] at hu; cases hu)
    rw [hb] at e; cases e
    rw [add_spot]; exact hcc j u hu
  · intro j u hu
    obtain ⟨b', o', e, _, hcc⟩ := hc.2.2.2 (by intro hx; rw [hx] at hu; cases hu)
    cases e
    rw [add_spot]; exact hcc j u hu
  · intro v' w' hown hg
    obtain ⟨A', c', rfl⟩ := own_shape hown
    rw [← bv_append] at hown
    exact h A' c' w' hown hg
set_option maxRecDepth 100000 in
set_option maxHeartbeats 4000000 in
theorem ppLast_any (D : List UInt8) (A : Option Addr) (n cap : Nat) (c : UInt8) (W : World) (hB : Bytes W W.heap.size A n D) (hn : n ≤ 64) (hc : n ≤ cap) : Calls Try.prog 37 #[.slice A n cap, .int .u8 (c.toNat : Int)] W (GivesBytes (D ++ [c]) W) := by
  have HT := hide hB
  have hn' : (n : Int) ≤ 64 := by omega
  have hcc : (n : Int) ≤ (cap : Int) := by omega
  have h0 : (0 : Int) ≤ (n : Int) := by omega
  clear hB
  go_enter Try.func37, Try.ntmps37
  go_wp2_with (first | (at_builtin; refine wpList_append_full rfl _ _ rfl (A := A) (n := n) (D := D) rfl ((HT.out.below ((Below.refl _ _).alloc (Nat.le_refl _) (.cells #[.int .u8 (c.toNat : Int)] 5)))) (S := ⟨W.heap.size, 0, none⟩) (d := 1) (c := c) rfl ⟨rfl, Row.new W (.int .u8 (c.toNat : Int)) 5⟩ (by omega) ?_; intro A3 c3 w3 hown3 hg3; have hb3 := below_none hg3; clear hg3) | fail)
  go_ret
  exact ⟨A3, n + 1, c3, rfl, own_weaken hown3 (by simp), ((Below.refl _ _).alloc (Nat.le_refl _) _).trans (hb3.mono (by simp))⟩
theorem wp_store_pp {o : Oper} {a : Act} {w : World} {Q : Exit → Act → World → Prop} {K : Act → World → Prop} {x y : Operand} (ho : o.op = .store 41 x y) {g : Nat} (hx : a.eval x = .pointer (some ⟨g, 0, none⟩)) {c : Ob} (hy : a.eval y = .agg (oc c)) {old : Array Value} {t : TypeId} (h : Obl w g t old) (hold : old.size = 36)
    (hK : K (a.put o.dst undef) (w.setRow g (oc c))) : o.wp Try.prog a w K Q := wp_store_row _ x y ho g (oc c) hx hy t old h obSize hold (oc_one c) hK
theorem ret_tob {w : World} {fn : Func} {s p u : Tmp} (hr : fn.results = #[.tmp s, .cell p 41, .tmp u]) (tmps : Array Value) {g : Nat} (hp : tmps.getD p undef = .pointer (some ⟨g, 0, none⟩)) {y : Ob} {t : TypeId} (h : Obl w g t (oc y)) :
    (results fn tmps).run Try.prog w = .ok (.tuple #[tmps.getD s undef, .agg (oc y), tmps.getD u undef]) w := results_tcell_3 hr tmps hp h Try.underlying41 rfl obSize
set_option maxRecDepth 100000 in
set_option maxHeartbeats 4000000 in
theorem ppRead_no (o : Ob) (W : World) (hc : o.rdErr ≠ 0) : Calls Try.prog 12 #[.agg (oc o)] W (ReadNo o.rdErr W) := by
  obtain ⟨w1, hw, O, OR, hb, hs⟩ := start_oz W o
  have HB := hide hb
  clear hb
  go_enter Try.func12, Try.ntmps12
  go_wp2_with (first | (refine load_ob rfl _ rfl rfl O ?_) | fail)
  refine (ppValid_any o _).mono ?_
  rintro e w2 ⟨rfl, hb2⟩
  have O2 := O.below hb2 O.lt
  have OR2 := OR.below hb2 OR.lt
  have HF := hide (below_row (HB.out.trans (hb2.mono HB.out.size)) (g := W.heap.size + 1) (by omega) (oc Ob.zero))
  have k24 : w2.cell? ⟨W.heap.size, 24, none⟩ = some (.slice o.data.A o.data.n o.data.c) := O2.cell 24
  have k28 : w2.cell? ⟨W.heap.size, 28, none⟩ = some (.int .i64 o.writers) := O2.cell 28
  clear hb2 hw O2 hs
  by_cases hp : o.Pipe
  · have hn : o.data.n = 0 := by
      by_cases h : o.data.n = 0
      · exact h
      · exact absurd (Ob.rdErr_ok hp (.inl h)) hc
    have hu : 0 < o.writers := by
      by_cases h : 0 < o.writers
      · exact h
      · exact absurd (Ob.rdErr_ok hp (.inr (by omega))) hc
    have HC := hide (Ob.rdErr_wait hp hn hu)
    rw [decide_eq_true hp]
    rw [hn] at k24
    clear hc hp hn
    go_wp2_with (first | (refine store_ob rfl _ _ rfl rfl (c := Ob.zero) rfl OR2 rfl ?_) | fail)
    refine bodyPost_ret (ret_tob rfl _ rfl (OR2.row_same _)) rfl ?_
    exact ⟨by rw [HC.out]; rfl, HF.out⟩
  · have HC := hide (Ob.rdErr_bad hp)
    rw [decide_eq_false hp]
    clear hc hp
    go_wp2_with (first | (refine store_ob rfl _ _ rfl rfl (c := Ob.zero) rfl OR2 rfl ?_) | fail)
    refine bodyPost_ret (ret_tob rfl _ rfl (OR2.row_same _)) rfl ?_
    exact ⟨by rw [HC.out]; rfl, HF.out⟩
set_option maxRecDepth 100000 in
set_option maxHeartbeats 4000000 in
theorem ppRead_end (o : Ob) (W : World) (hp : o.Pipe) (hn : o.data.n = 0) (hu : o.writers ≤ 0) : Calls Try.prog 12 #[.agg (oc o)] W (ReadEnd (Ob.pipe o.id o.readers o.writers ⟨none, 0, 0⟩) W) := by
  obtain ⟨w1, hw, O, OR, hb, hs⟩ := start_oz W o
  have HB := hide hb
  have HP := hide hp
  clear hb hp
  go_enter Try.func12, Try.ntmps12
  go_wp2_with (first | (refine load_ob rfl _ rfl rfl O ?_) | fail)
  refine (ppValid_any o _).mono ?_
  rintro e w2 ⟨rfl, hb2⟩
  rw [decide_eq_true HP.out]
  have O2 := O.below hb2 O.lt
  have OR2 := OR.below hb2 OR.lt
  have HF := hide (HB.out.trans (hb2.mono HB.out.size))
  have k24 : w2.cell? ⟨W.heap.size, 24, none⟩ = some (.slice o.data.A 0 o.data.c) := by rw [← hn]; exact O2.cell 24
  have k28 : w2.cell? ⟨W.heap.size, 28, none⟩ = some (.int .i64 o.writers) := O2.cell 28
  clear hb2 hw hs O OR hn
  go_wp2_with (first | (refine load_ob rfl _ rfl rfl O2 ?_) | fail)
  refine (ppQueue_any o none 0 0 _).mono ?_
  rintro e w3 ⟨rfl, hb3⟩
  have OR3 := OR2.below hb3 OR2.lt
  have HG := hide (below_row (HF.out.trans (hb3.mono HF.out.size)) (g := W.heap.size + 1) (by omega) (oc (Ob.pipe o.id o.readers o.writers ⟨none, 0, 0⟩)))
  clear hb3 k24 k28 O2 OR2
  go_wp2_with (first | (refine store_ob rfl _ _ rfl rfl (c := Ob.pipe o.id o.readers o.writers ⟨none, 0, 0⟩) rfl OR3 rfl ?_) | fail)
  refine bodyPost_ret (ret_tob rfl _ rfl (OR3.row_same _)) rfl ?_
  exact ⟨rfl, HG.out⟩
set_option maxRecDepth 100000 in
set_option maxHeartbeats 4000000 in
theorem ppRead_ok (o : Ob) (x : UInt8) (D : List UInt8) (W : World) (hp : o.Pipe) (hD : Bytes W W.heap.size o.data.A o.data.n (x :: D)) (hcap : o.data.n ≤ o.data.c) : Calls Try.prog 12 #[.agg (oc o)] W (ReadOk (Ob.pipe o.id o.readers o.writers ⟨none, 0, 0⟩) (x.toNat : Int) D W) := by
  obtain ⟨w1, hw, O, OR, hb, hs⟩ := start_oz W o
  have HB := hide hb
  have HP := hide hp
  obtain ⟨p, hn⟩ : ∃ p, o.data.n = p + 1 := ⟨D.length, by have := hD.len; simpa using this.symm⟩
  rw [hn] at hD hcap
  have hp64 : p ≤ 1000 := by have := hp.2.2.2.1; omega
  obtain ⟨b, f, hl, hA, hlt, hc⟩ := hD.at_ (k := 0) (by omega)
  rw [Nat.add_zero] at hc
  replace hc : W.cell? ⟨b, f, none⟩ = some (.int .u8 (x.toNat : Int)) := hc
  have hwx : IntKind.i64.wrap (x.toNat : Int) = (x.toNat : Int) := by have := x.toNat_lt; rw [IntKind.wrap_i64]; omega
  have hcW := HB.out.cell (p := ⟨b, f, none⟩) hlt
  rw [hc] at hcW
  have HD := hide (hD.below HB.out)
  have HCap := hide hcap
  clear hb hp hD hcap hc hl
  go_enter Try.func12, Try.ntmps12
  go_wp2_with (first | (refine load_ob rfl _ rfl rfl O ?_) | fail)
  refine (ppValid_any o _).mono ?_
  rintro e w2 ⟨rfl, hb2⟩
  rw [decide_eq_true HP.out]
  have hWl : W.heap.size + 2 ≤ w1.heap.size := by omega
  have O2 := O.below hb2 O.lt
  have OR2 := OR.below hb2 OR.lt
  have HF := hide (HB.out.trans (hb2.mono HB.out.size))
  have hcX := (hb2.cell (p := ⟨b, f, none⟩) (by show b < w1.heap.size; omega)).trans hcW
  have HX := hide (HD.out.belowLe hb2 (by omega))
  have k24 : w2.cell? ⟨W.heap.size, 24, none⟩ = some (.slice (some ⟨b, f, none⟩) (p + 1) o.data.c) := by rw [← hn, ← hA]; exact O2.cell 24
  have k28 : w2.cell? ⟨W.heap.size, 28, none⟩ = some (.int .i64 o.writers) := O2.cell 28
  have hpp : (0 : Int) < (p : Int) + 1 := by omega
  clear hb2 hw hs O OR hn HD hcW HB
  go_wp2_with fail
  refine region_B (by kernel_rfl) (W.heap.size + 1) ?_
  replace O2 : Obl w2.drew W.heap.size 41 (oc o) := O2
  replace OR2 : Obl w2.drew (W.heap.size + 1) 41 (oc Ob.zero) := OR2
  replace HF : Hid (Below W.heap.size W w2.drew) := hide ⟨HF.out.os, HF.out.tape, HF.out.output, HF.out.size, HF.out.block⟩
  replace hcX : w2.drew.cell? ⟨b, f, none⟩ = some (.int .u8 (x.toNat : Int)) := hcX
  replace HX : Hid (Bytes w2.drew W.heap.size (some ⟨b, f, none⟩) (p + 1) (x :: D)) := hide (by have := HX.out; rw [hA] at this; exact this)
  replace k24 : w2.drew.cell? ⟨W.heap.size, 24, none⟩ = some (.slice (some ⟨b, f, none⟩) (p + 1) o.data.c) := k24
  clear k28 hA hWl
  generalize w2.drew = u0 at *
  have hR0 := OR2.lt
  refine takeB 0 rfl (by kernel_rfl) (fun _ _ _ h => h) (by rfl) (by intro w' hg; go_simp; try with_reducible rfl) ?_
  refine takeB 1 rfl (by kernel_rfl) (fun _ _ _ h => h) (by rfl) (by intro w' hg; have g0 := (hg.cell (p := ⟨W.heap.size, 24, none⟩) (Nat.lt_succ_self _)).trans k24; go_simp; try with_reducible rfl) ?_
  refine takeB 2 rfl (by kernel_rfl) (fun _ _ _ h => h) (by rfl) (by intro w' hg; go_simp; try with_reducible rfl) ?_
  refine takeB 3 rfl (by kernel_rfl) (fun _ _ _ h => h) (by rfl) (by intro w' hg; have g0 := (hg.cell (p := ⟨b, f, none⟩) (by show b < W.heap.size + 1; omega)).trans hcX; go_simp; try with_reducible rfl) ?_
  refine takeB 4 rfl (by kernel_rfl) (fun _ _ _ h => h) (by rfl) (by intro w' hg; go_simp; try with_reducible rfl) ?_
  refine takeB 5 rfl (by kernel_rfl) (fun _ _ _ h => h) (by rfl) (by intro w' hg; exact exec_load_ob rfl rfl (O2.below hg (Nat.lt_succ_self _))) ?_
  refine takeB 6 rfl (by kernel_rfl) (fun _ _ _ h => h) (by rfl) (by intro w' hg; go_simp; try with_reducible rfl) ?_
  refine takeB 7 rfl (by kernel_rfl) (fun _ _ _ h => h) (by rfl) (by intro w' hg; have g0 := (hg.cell (p := ⟨W.heap.size, 24, none⟩) (Nat.lt_succ_self _)).trans k24; go_simp; try with_reducible rfl) ?_
  go_simp
  refine onlyB 8 rfl (by kernel_rfl) (by rfl) ?_
  intro K hK
  go_simp
  refine (ppFirst_any (x :: D) (some ⟨b, f, none⟩) p o.data.c _ (HX.out.mono (by omega)) hp64 HCap.out).mono ?_
  rintro e u1 ⟨A1, n1, c1, rfl, hown1, hb1⟩
  refine hK _ _ (hb1.mono (by omega)) ?_
  clear hK K
  have OR3 := OR2.below hb1 hR0
  have hs1 := hb1.size
  have HO1 := hide (show u1.ownsRow u0.heap.size 5 1 (.slice A1 n1 c1) n1 (bv D) from hown1)
  have HF1 := hide (HF.out.trans (hb1.mono HF.out.size))
  clear hb1 hown1 HF HX hcX k24 O2 OR2 HCap
  go_simp
  refine onlyB 9 rfl (by kernel_rfl) (by rfl) ?_
  intro K hK
  go_simp
  refine (ppQueue_any o A1 n1 c1 _).mono ?_
  rintro e u2 ⟨rfl, hb2⟩
  refine hK _ _ (hb2.mono (by omega)) ?_
  clear hK K
  have OR4 := OR3.below hb2 OR3.lt
  have hs2 := hb2.size
  have HO2 := hide (own_below HO1.out hb2)
  have HF2 := hide (HF1.out.trans (hb2.mono HF1.out.size))
  clear hb2 HO1 HF1 OR3
  refine takeB 10 rfl (by kernel_rfl) (fun _ _ _ h => h) (by rfl) (by intro w' hg; go_simp; try with_reducible rfl) ?_
  go_simp
  refine onlyB 11 rfl (by kernel_rfl) (by rfl) ?_
  intro K hK
  refine wp_store_pp rfl rfl (c := Ob.pipe o.id o.readers o.writers ⟨A1, n1, c1⟩) rfl OR4 rfl ?_
  refine hK _ _ (below_row (Below.refl _ _) (Nat.le_refl _) _) ?_
  clear hK K
  have OR5 := OR4.row_same (oc (Ob.pipe o.id o.readers o.writers ⟨A1, n1, c1⟩))
  have HO5 := hide (own_keep HO2.out (keep_row (m := W.heap.size + 1) (by omega) (oc (Ob.pipe o.id o.readers o.writers ⟨A1, n1, c1⟩))))
  have HF5 := hide (below_row HF2.out (g := W.heap.size + 1) (by omega) (oc (Ob.pipe o.id o.readers o.writers ⟨A1, n1, c1⟩)))
  obtain ⟨u5, hu5⟩ : ∃ u5, u2.setRow (W.heap.size + 1) (oc (Ob.pipe o.id o.readers o.writers ⟨A1, n1, c1⟩)) = u5 := ⟨_, rfl⟩
  rw [hu5] at OR5 HO5 HF5 ⊢
  refine takeB 12 rfl (by kernel_rfl) (fun _ _ _ h => h) (by rfl) (by intro w' hg; go_simp; try with_reducible rfl) ?_
  refine doneB (by kernel_rfl) ?_
  go_simp
  go_wp2_with fail
  refine bodyPost_ret (ret_tob rfl _ rfl OR5) rfl ?_
  exact ⟨A1, n1, c1, rfl, own_weaken HO5.out (by omega), HF5.out⟩
set_option maxRecDepth 100000 in
set_option maxHeartbeats 4000000 in
theorem ppWrite_no (o : Ob) (c : UInt8) (W : World) (hc : o.wrErr ≠ 0) : Calls Try.prog 14 #[.agg (oc o), .int .u8 (c.toNat : Int)] W (PageNo o.wrErr W) := by
  obtain ⟨w1, hw, O, OR, hb, hs⟩ := start_oz W o
  have HB := hide hb
  clear hb
  go_enter Try.func14, Try.ntmps14
  go_wp2_with (first | (refine load_ob rfl _ rfl rfl O ?_) | fail)
  refine (ppValid_any o _).mono ?_
  rintro e w2 ⟨rfl, hb2⟩
  have O2 := O.below hb2 O.lt
  have OR2 := OR.below hb2 OR.lt
  have HF := hide (below_row (HB.out.trans (hb2.mono HB.out.size)) (g := W.heap.size + 1) (by omega) (oc Ob.zero))
  have k24 : w2.cell? ⟨W.heap.size, 24, none⟩ = some (.slice o.data.A o.data.n o.data.c) := O2.cell 24
  have k27 : w2.cell? ⟨W.heap.size, 27, none⟩ = some (.int .i64 o.readers) := O2.cell 27
  clear hb2 hw O2 hs
  by_cases hp : o.Pipe
  · rw [decide_eq_true hp]
    by_cases hr : o.readers = 0
    · have HC := hide (Ob.wrErr_closed hp hr)
      rw [hr] at k27
      clear hc hp hr
      go_wp2_with (first | (refine store_ob rfl _ _ rfl rfl (c := Ob.zero) rfl OR2 rfl ?_) | fail)
      refine bodyPost_ret (ret_ob2 rfl _ rfl (OR2.row_same _)) rfl ?_
      exact ⟨by rw [HC.out]; rfl, HF.out⟩
    · have hn : 64 ≤ o.data.n := by
        by_cases h : o.data.n < 64
        · exact absurd (Ob.wrErr_ok hp hr h) hc
        · omega
      have HC := hide (Ob.wrErr_full hp hr hn)
      have hn' : (64 : Int) ≤ (o.data.n : Int) := by omega
      have br : (o.readers == 0) = false := by simpa using hr
      clear hc hp hr hn
      go_wp2_with (first | (refine store_ob rfl _ _ rfl rfl (c := Ob.zero) rfl OR2 rfl ?_) | fail)
      refine bodyPost_ret (ret_ob2 rfl _ rfl (OR2.row_same _)) rfl ?_
      exact ⟨by rw [HC.out]; rfl, HF.out⟩
  · have HC := hide (Ob.wrErr_bad hp)
    rw [decide_eq_false hp]
    clear hc hp
    go_wp2_with (first | (refine store_ob rfl _ _ rfl rfl (c := Ob.zero) rfl OR2 rfl ?_) | fail)
    refine bodyPost_ret (ret_ob2 rfl _ rfl (OR2.row_same _)) rfl ?_
    exact ⟨by rw [HC.out]; rfl, HF.out⟩
set_option maxRecDepth 100000 in
set_option maxHeartbeats 4000000 in
theorem ppWrite_ok (o : Ob) (c : UInt8) (D : List UInt8) (W : World) (hp : o.Pipe) (hr : o.readers ≠ 0) (hn : o.data.n < 64) (hD : Bytes W W.heap.size o.data.A o.data.n D) (hcap : o.data.n ≤ o.data.c) : Calls Try.prog 14 #[.agg (oc o), .int .u8 (c.toNat : Int)] W (WriteOk (Ob.pipe o.id o.readers o.writers ⟨none, 0, 0⟩) (D ++ [c]) W) := by
  obtain ⟨w1, hw, O, OR, hb, hs⟩ := start_oz W o
  have HB := hide hb
  have HP := hide hp
  have HD := hide (hD.below hb)
  have HCap := hide hcap
  have hn' : ¬ (64 : Int) ≤ (o.data.n : Int) := by omega
  have br : (o.readers == 0) = false := by simpa using hr
  have HN := hide hn
  clear hb hp hD hcap hr hn
  go_enter Try.func14, Try.ntmps14
  go_wp2_with (first | (refine load_ob rfl _ rfl rfl O ?_) | fail)
  refine (ppValid_any o _).mono ?_
  rintro e w2 ⟨rfl, hb2⟩
  rw [decide_eq_true HP.out]
  have hWl : W.heap.size + 2 ≤ w1.heap.size := by omega
  have O2 := O.below hb2 O.lt
  have OR2 := OR.below hb2 OR.lt
  have HF := hide (HB.out.trans (hb2.mono HB.out.size))
  have HX := hide (HD.out.belowLe hb2 (by omega))
  have k24 : w2.cell? ⟨W.heap.size, 24, none⟩ = some (.slice o.data.A o.data.n o.data.c) := O2.cell 24
  have k27 : w2.cell? ⟨W.heap.size, 27, none⟩ = some (.int .i64 o.readers) := O2.cell 27
  clear hb2 hw hs O OR HD HB
  go_wp2_with fail
  refine region_B (by kernel_rfl) (W.heap.size + 1) ?_
  replace O2 : Obl w2.drew W.heap.size 41 (oc o) := O2
  replace OR2 : Obl w2.drew (W.heap.size + 1) 41 (oc Ob.zero) := OR2
  replace HF : Hid (Below W.heap.size W w2.drew) := hide ⟨HF.out.os, HF.out.tape, HF.out.output, HF.out.size, HF.out.block⟩
  replace HX : Hid (Bytes w2.drew W.heap.size o.data.A o.data.n D) := hide HX.out
  replace k24 : w2.drew.cell? ⟨W.heap.size, 24, none⟩ = some (.slice o.data.A o.data.n o.data.c) := k24
  clear k27 hWl
  generalize w2.drew = u0 at *
  have hR0 := OR2.lt
  refine takeB 0 rfl (by kernel_rfl) (fun _ _ _ h => h) (by rfl) (by intro w' hg; exact exec_load_ob rfl rfl (O2.below hg (Nat.lt_succ_self _))) ?_
  refine takeB 1 rfl (by kernel_rfl) (fun _ _ _ h => h) (by rfl) (by intro w' hg; go_simp; try with_reducible rfl) ?_
  refine takeB 2 rfl (by kernel_rfl) (fun _ _ _ h => h) (by rfl) (by intro w' hg; have g0 := (hg.cell (p := ⟨W.heap.size, 24, none⟩) (Nat.lt_succ_self _)).trans k24; go_simp; try with_reducible rfl) ?_
  refine takeB 3 rfl (by kernel_rfl) (fun _ _ _ h => h) (by rfl) (by intro w' hg; go_simp; try with_reducible rfl) ?_
  go_simp
  refine onlyB 4 rfl (by kernel_rfl) (by rfl) ?_
  intro K hK
  go_simp
  refine (ppLast_any D o.data.A o.data.n o.data.c c _ (HX.out.mono (by omega)) (by have := HN.out; omega) HCap.out).mono ?_
  rintro e u1 ⟨A1, n1, c1, rfl, hown1, hb1⟩
  refine hK _ _ (hb1.mono (by omega)) ?_
  clear hK K
  have OR3 := OR2.below hb1 hR0
  have hs1 := hb1.size
  have HO1 := hide hown1
  have HF1 := hide (HF.out.trans (hb1.mono HF.out.size))
  clear hb1 hown1 HF HX k24 O2 OR2 HCap
  go_simp
  refine onlyB 5 rfl (by kernel_rfl) (by rfl) ?_
  intro K hK
  go_simp
  refine (ppQueue_any o A1 n1 c1 _).mono ?_
  rintro e u2 ⟨rfl, hb2⟩
  refine hK _ _ (hb2.mono (by omega)) ?_
  clear hK K
  have OR4 := OR3.below hb2 OR3.lt
  have hs2 := hb2.size
  have HO2 := hide (own_below HO1.out hb2)
  have HF2 := hide (HF1.out.trans (hb2.mono HF1.out.size))
  clear hb2 HO1 HF1 OR3
  go_simp
  refine onlyB 6 rfl (by kernel_rfl) (by rfl) ?_
  intro K hK
  refine wp_store_pp rfl rfl (c := Ob.pipe o.id o.readers o.writers ⟨A1, n1, c1⟩) rfl OR4 rfl ?_
  refine hK _ _ (below_row (Below.refl _ _) (Nat.le_refl _) _) ?_
  clear hK K
  have OR5 := OR4.row_same (oc (Ob.pipe o.id o.readers o.writers ⟨A1, n1, c1⟩))
  have HO5 := hide (own_keep HO2.out (keep_row (m := W.heap.size + 1) (by omega) (oc (Ob.pipe o.id o.readers o.writers ⟨A1, n1, c1⟩))))
  have HF5 := hide (below_row HF2.out (g := W.heap.size + 1) (by omega) (oc (Ob.pipe o.id o.readers o.writers ⟨A1, n1, c1⟩)))
  obtain ⟨u5, hu5⟩ : ∃ u5, u2.setRow (W.heap.size + 1) (oc (Ob.pipe o.id o.readers o.writers ⟨A1, n1, c1⟩)) = u5 := ⟨_, rfl⟩
  rw [hu5] at OR5 HO5 HF5 ⊢
  refine takeB 7 rfl (by kernel_rfl) (fun _ _ _ h => h) (by rfl) (by intro w' hg; go_simp; try with_reducible rfl) ?_
  refine doneB (by kernel_rfl) ?_
  go_simp
  go_wp2_with fail
  refine bodyPost_ret (ret_ob2 rfl _ rfl OR5) rfl ?_
  exact ⟨A1, n1, c1, rfl, own_weaken HO5.out (by omega), HF5.out⟩
end Go.Proofs.Ytpibdfgcfhopaaa
