/- Made objects: identifiers, files, pipes, semaphores, devices: contracts. | Made objects: semaphores, devices, pipes: contracts. | Made objects: ports: a contract. | Made objects: pipes: a contract. | Made objects: channels: a contract. -/
import Derived.Test.YtddbohnappogkaaObMade
import Derived.Test.YtddbohnappogkaaPgBare
import Derived.Test.YtddbohnappogkaaIdTy
import Derived.Test.YtddbohnappogkaaNmEntry
import Derived.Test.YtddbohnappogkaaRegionD
namespace Go.Proofs.Ytddbohnappogkaa
open Go.RowKit

set_option maxRecDepth 100000 in
set_option maxHeartbeats 4000000 in
theorem make_any (n b s : Int) (hn : 0 ≤ n ∧ n ≤ 2) (hb : 0 ≤ b ∧ b ≤ 1) (hs : 1 ≤ s ∧ s ≤ 9) (W : World) : Calls Try.prog 34 #[.int .i64 n, .int .i64 b, .int .i64 s] W fun e w' => ∃ v, e = .returned (.tuple #[.int .u64 v, .int .i64 0]) ∧ w' = W := by
  obtain ⟨hn0, hn1⟩ := hn
  obtain ⟨hb0, hb1⟩ := hb
  obtain ⟨hs0, hs1⟩ := hs
  go_enter Try.func34, Try.ntmps34
  go_wp2
  go_ret2
  exact ⟨_, rfl, rfl⟩
/-- An identifier, and the dice. -/
def IdThrown (C b : Nat) (w : World) (e : Ending) (w' : World) : Prop := ∃ v, e = .returned (.int .u64 v) ∧ Dice w' C b ∧ Bel w.heap.size b w w'
set_option maxRecDepth 100000 in
set_option maxHeartbeats 4000000 in
theorem id_dice (C b : Nat) (W : World) (h : Dice W C b) : Calls Try.prog 17 #[.pointer (some ⟨b, 0, none⟩)] W (IdThrown C b W) := by
  have HD := hide h
  clear h
  go_enter Try.func17, Try.ntmps17
  go_wp2_with fail
  refine (next_dice C b 3 _ HD.out (by omega) (by omega)).mono ?_
  rintro e w1 ⟨n, rfl, hn, hD, hB⟩
  have HD1 := hide hD
  have HB1 := hide hB
  clear hD hB HD
  go_wp2_with fail
  refine (next_dice C b 2 _ HD1.out (by omega) (by omega)).mono ?_
  rintro e w2 ⟨q, rfl, hq, hD, hB⟩
  have HD2 := hide hD
  have HB2 := hide (HB1.out.then hB)
  clear hD hB HD1 HB1
  go_wp2_with fail
  refine (next_dice C b 9 _ HD2.out (by omega) (by omega)).mono ?_
  rintro e w3 ⟨s, rfl, hs, hD, hB⟩
  have HD3 := hide hD
  have HB3 := hide (HB2.out.then hB)
  have hs0 := hs.1
  have hs1 : s ≤ 8 := by omega
  clear hD hB HD2 HB2
  go_wp2_with fail
  refine (make_any n q (1 + s) ⟨hn.1, by omega⟩ ⟨hq.1, by omega⟩ ⟨by omega, by omega⟩ _).mono ?_
  rintro e w4 ⟨v, rfl, rfl⟩
  go_wp2_with fail
  go_ret
  exact ⟨v, rfl, HD3.out, HB3.out⟩

/-- An object without lists. -/
def Ob.NoLists (o : Ob) : Prop := (o.words = ⟨none, 0, 0⟩ ∧ o.data = ⟨none, 0, 0⟩ ∧ o.backlog = ⟨none, 0, 0⟩ ∧ o.q0 = ⟨none, 0, 0⟩ ∧ o.q1 = ⟨none, 0, 0⟩ ∧ o.names = ⟨none, 0, 0⟩) ∧ o.NoProc
theorem noProc_zero : Ob.zero.NoProc := Ob.zero_bare.2.2
theorem small0 : Ob.zero.Small := by unfold Ob.Small; decide
/-- An object without lists is thrown. -/
theorem thrown_none {C b : Nat} {W w : World} {o : Ob} (ho : o.NoLists) (hs : o.Small) (hD : Dice w C b) (hB : Bel W.heap.size b W w) (hbW : b < W.heap.size) (hC : C ≤ b) : ObThrown C b W (.returned (.agg (oc o))) (w.setRow W.heap.size (oc o)) :=
  ⟨o, rfl, OwnOb.none ho.1 ho.2 hs, hD.row_other (by omega) (by omega) _, hB.rowGe (Nat.le_refl _) _⟩
/-- .. with lists. -/
theorem thrown_own {C b base : Nat} {W w : World} {o : Ob} (ho : OwnOb w base o) (hbase : W.heap.size < base) (hD : Dice w C b) (hB : Bel W.heap.size b W w) (hbW : b < W.heap.size) (hC : C ≤ b) : ObThrown C b W (.returned (.agg (oc o))) (w.setRow W.heap.size (oc o)) := by
  have h := ho.row (m := W.heap.size) (by omega) (oc o)
  refine ⟨o, rfl, ?_, hD.row_other (by omega) (by omega) _, hB.rowGe (Nat.le_refl _) _⟩
  exact h.weaken (by omega)

/-- A made file, and the dice. -/
def FileThrown (id : Int) (C b : Nat) (w : World) (e : Ending) (w' : World) : Prop := ∃ A n c D, e = .returned (.agg (oc (Ob.file id ⟨A, n, c⟩))) ∧ n ≤ 12 ∧ w'.ownsRow (w.heap.size + 1) 5 1 (.slice A n c) n (bv D) ∧ Dice w' C b ∧ Bel w.heap.size b w w'
theorem file_own {w : World} {base : Nat} {id : Int} {A : Option Addr} {n c : Nat} {D : List UInt8} (h : w.ownsRow base 5 1 (.slice A n c) n (bv D)) (hn : n ≤ 1000) : OwnOb w base (Ob.file id ⟨A, n, c⟩) :=
  ⟨⟨[], own_nil⟩, ⟨D, h⟩, ⟨[], own_nil⟩, ⟨[], own_nil⟩, ⟨[], own_nil⟩, ⟨[], ⟨own_nil, by simp⟩, by simp⟩, noProc_zero, ⟨small0, by simp [Ob.file, Ob.zero], hn, by simp [Ob.file, Ob.zero], by simp [Ob.file, Ob.zero], by simp [Ob.file, Ob.zero]⟩⟩
set_option maxRecDepth 100000 in
set_option maxHeartbeats 8000000 in
theorem file_thrown (C b : Nat) (id : Int) (W : World) (h : Dice W C b) : Calls Try.prog 20 #[.pointer (some ⟨b, 0, none⟩), .int .u64 id] W (FileThrown id C b W) := by
  obtain ⟨w1, hw, OR, hb, hs⟩ := start_z W
  have hbl := h.lt
  have hCb := h.le
  have HD := hide (h.below hb)
  have HB := hide (Bel.of (b := b) hb)
  clear hb h
  go_enter Try.func20, Try.ntmps20
  go_wp2_with fail
  refine (fileNew id _).mono ?_
  rintro e w2 ⟨rfl, hb2⟩
  obtain ⟨w3, hw3, m, hm, w4, hw4, OZ, O, hb4, hs4⟩ := laid_ob { Ob.zero with id := id, kind := 3 } w2
  have hmW : W.heap.size < m := by have := hb2.size; omega
  have OR4 := (OR.below hb2 OR.lt).below hb4 (by omega)
  have HD4 := hide ((HD.out.below hb2).below hb4)
  have HB4 := hide (HB.out.trans (Bel.of (b := b) ((hb2.trans (hb4.mono hb2.size)).mono (by omega))))
  clear hb2 hb4 OR HD HB hw hs
  go_wp2_with (first | (refine store_ob rfl _ _ rfl rfl (c := { Ob.zero with id := id, kind := 3 }) rfl OZ rfl ?_; rw [hw4]) | fail)
  refine (bytes_dice C b 12 _ HD4.out (by omega)).mono ?_
  rintro e w5 ⟨A, n, c, D, rfl, hn, hown, hD, hB⟩
  have O5 := hB.obl' O (by omega)
  have OR5 := hB.obl' OR4 (by omega)
  have z5 := O5.free 24
  have k5 : w5.cell? ⟨m, 24, none⟩ = some (.slice none 0 0) := O5.cell 24
  have HB5 := hide ((HB4.out.trans (hB.mono HB4.out.size)).setGe (g := m) (by omega) 24 (.slice A n c))
  have HD5 := hide (hD.put_other (g := m) (by omega) (by omega) 24 (.slice A n c))
  have HO5 := hide (own_keep hown (keep_put (m := m) (by omega) 24 (.slice A n c)))
  have O6 : Obl (w5.setCell ⟨m, 24, none⟩ (.slice A n c)) m 41 (oc { Ob.zero with id := id, kind := 3, data := ⟨A, n, c⟩ }) := O5.put 24 _
  have OR6 := OR5.put_other (b' := m) (by omega) 24 (.slice A n c)
  obtain ⟨w6, hw6⟩ : ∃ w6, w5.setCell ⟨m, 24, none⟩ (.slice A n c) = w6 := ⟨_, rfl⟩
  rw [hw6] at HB5 HD5 HO5 O6 OR6
  clear hown hD hB O OR4 HB4 HD4 OZ hw4 hw3 hm
  go_wp2_with (first | (refine load_ob rfl _ rfl rfl O6 ?_) | (refine store_ob rfl _ _ rfl rfl (c := { Ob.zero with id := id, kind := 3, data := ⟨A, n, c⟩ }) rfl OR6 rfl ?_) | fail)
  refine bodyPost_ret (ret_ob rfl _ rfl (OR6.row_same _)) rfl ?_
  exact ⟨A, n, c, D, rfl, by omega, own_weaken (own_keep HO5.out (keep_row (m := W.heap.size) (by omega) _)) (by omega), HD5.out.row_other (by omega) (by omega) _, HB5.out.rowGe (Nat.le_refl _) _⟩
theorem file_dice (C b : Nat) (id : Int) (W : World) (h : Dice W C b) : Calls Try.prog 20 #[.pointer (some ⟨b, 0, none⟩), .int .u64 id] W (ObThrown C b W) :=
  (file_thrown C b id W h).mono fun _ _ ⟨_, _, _, _, he, hn, hown, hD, hB⟩ => ⟨_, he, file_own hown (by omega), hD, hB⟩
end Go.Proofs.Ytddbohnappogkaa
namespace Go.Proofs.Ytddbohnappogkaa
open Go.RowKit

theorem wp_store_ob {o : Oper} {a : Act} {w : World} {Q : Exit → Act → World → Prop} {K : Act → World → Prop} {x y : Operand} (ho : o.op = .store 41 x y) {g : Nat} (hx : a.eval x = .pointer (some ⟨g, 0, none⟩)) {c : Ob} (hy : a.eval y = .agg (oc c)) {old : Array Value} {t : TypeId} (h : Obl w g t old) (hold : old.size = 36)
    (hK : K (a.put o.dst undef) (w.setRow g (oc c))) : o.wp Try.prog a w K Q := wp_store_row _ x y ho g (oc c) hx hy t old h obSize hold (oc_one c) hK
/-- An object without lists, and an error. -/
def NonePost (w : World) (e : Ending) (w' : World) : Prop := ∃ o r, e = .returned (.tuple #[.agg (oc o), .int .i64 r]) ∧ (o.NoLists ∧ o.Small) ∧ Below w.heap.size w w'
set_option maxRecDepth 100000 in
set_option maxHeartbeats 4000000 in
theorem semNew (id n : Int) (hn : 0 ≤ n ∧ n ≤ 3) (W : World) : Calls Try.prog 25 #[.int .u64 id, .int .i64 n] W (NonePost W) := by
  obtain ⟨w1, hw, O, hb, hs⟩ := start_z W
  have HB := hide hb
  obtain ⟨h0, h1⟩ := hn
  clear hb
  by_cases hi : id = 0
  · subst hi
    go_enter Try.func25, Try.ntmps25
    go_wp2_with (first | (refine store_ob rfl _ _ rfl rfl (c := Ob.zero) rfl O rfl ?_) | fail)
    refine bodyPost_ret (ret_ob2 rfl _ rfl (O.row_same _)) rfl ?_
    exact ⟨Ob.zero, 1, rfl, ⟨⟨⟨rfl, rfl, rfl, rfl, rfl, rfl⟩, noProc_zero⟩, small0⟩, below_row HB.out (Nat.le_refl _) _⟩
  · have hi2 : (id == 0) = false := by simpa using hi
    go_enter Try.func25, Try.ntmps25
    go_wp2_with (first | (refine store_ob rfl _ _ rfl rfl (c := { Ob.zero with id := id, kind := 8, count := n }) rfl O rfl ?_) | fail)
    refine bodyPost_ret (ret_ob2 rfl _ rfl (O.row_same _)) rfl ?_
    exact ⟨{ Ob.zero with id := id, kind := 8, count := n }, 0, rfl, ⟨⟨⟨rfl, rfl, rfl, rfl, rfl, rfl⟩, noProc_zero⟩, small0⟩, below_row HB.out (Nat.le_refl _) _⟩

/-- Some answer. -/
def SomeBool (w : World) (e : Ending) (w' : World) : Prop := ∃ v, e = .returned (.bool v) ∧ Below w.heap.size w w'
set_option maxRecDepth 100000 in
set_option maxHeartbeats 4000000 in
theorem devValid (id : Int) (W : World) : Calls Try.prog 14 #[.agg (oc { Ob.zero with id := id, kind := 9 })] W (SomeBool W) := by
  obtain ⟨w1, hw, O, hb⟩ : ∃ w1, W.alloc (.cells (oc { Ob.zero with id := id, kind := 9 }) 41) = w1 ∧ Obl w1 W.heap.size 41 (oc { Ob.zero with id := id, kind := 9 }) ∧ Below W.heap.size W w1 := ⟨_, rfl, Obl.make W _ _, (Below.refl _ _).alloc (Nat.le_refl _) _⟩
  have k0 : w1.cell? ⟨W.heap.size, 0, none⟩ = some (.int .u64 id) := O.cell 0
  have k1 : w1.cell? ⟨W.heap.size, 1, none⟩ = some (.int .i64 9) := O.cell 1
  have k34 : w1.cell? ⟨W.heap.size, 34, none⟩ = some (.int .i64 0) := O.cell 34
  have z34 := O.free 34
  have O2 : Obl (w1.setCell ⟨W.heap.size, 34, none⟩ (.int .i64 0)) W.heap.size 41 (oc { Ob.zero with id := id, kind := 9 }) := O.put 34 _
  have HB := hide (hb.setCell (p := ⟨W.heap.size, 34, none⟩) (Nat.le_refl _) (.int .i64 0))
  have hl := O.lt
  obtain ⟨w2, hw2⟩ : ∃ w2, w1.setCell ⟨W.heap.size, 34, none⟩ (.int .i64 0) = w2 := ⟨_, rfl⟩
  rw [hw2] at O2 HB
  clear hb O
  by_cases hi : id = 0
  · subst hi
    go_enter Try.func14, Try.ntmps14
    go_wp2_with fail
    go_ret
    exact ⟨false, rfl, HB.out⟩
  · have hi2 : (id != 0) = true := by simpa using hi
    have hi3 : (id == 0) = false := by simpa using hi
    go_enter Try.func14, Try.ntmps14
    go_wp2_with (first | (refine wpList_val (by rfl) (exec_load_ob rfl rfl O2) ?_) | (go_at_call 33; refine (bare_any { Ob.zero with id := id, kind := 9 } _).mono ?_; rintro e u3 ⟨rfl, g3⟩; rw [show decide (Ob.Clear { Ob.zero with id := id, kind := 9 }) = true from decide_eq_true ⟨rfl, Ob.zero_bare⟩]) | fail)
    go_ret
    exact ⟨true, rfl, HB.out.trans (g3.mono HB.out.size)⟩
/-- A number, an object without lists, and an error. -/
def DoPost (w : World) (e : Ending) (w' : World) : Prop := ∃ n o r, e = .returned (.tuple #[.int .i64 n, .agg (oc o), .int .i64 r]) ∧ (o.NoLists ∧ o.Small) ∧ Below w.heap.size w w'
set_option maxRecDepth 100000 in
set_option maxHeartbeats 4000000 in
theorem devDo (id v : Int) (hv : -1 ≤ v ∧ v ≤ 200) (W : World) : Calls Try.prog 11 #[.agg (oc { Ob.zero with id := id, kind := 9 }), .int .i64 v] W (DoPost W) := by
  obtain ⟨w1, hw, O, OR, hb, hs⟩ := start_oz W { Ob.zero with id := id, kind := 9 }
  have HB := hide hb
  obtain ⟨hv0, hv1⟩ := hv
  clear hb
  go_enter Try.func11, Try.ntmps11
  go_wp2_with (first | (refine load_ob rfl _ rfl rfl O ?_) | fail)
  refine (devValid id _).mono ?_
  rintro e w2 ⟨bv, rfl, hb2⟩
  have O2 := O.below hb2 O.lt
  have OR2 := OR.below hb2 OR.lt
  have HB2 := hide (HB.out.trans (hb2.mono HB.out.size))
  clear hb2 HB O OR hw hs
  cases bv with
  | false =>
    go_wp2_with (first | (refine store_ob rfl _ _ rfl rfl (c := Ob.zero) rfl OR2 rfl ?_) | fail)
    refine bodyPost_ret (results_tcell_3 rfl _ (b := W.heap.size + 1) rfl (OR2.row_same (oc Ob.zero)) Try.underlying41 rfl obSize) rfl ?_
    exact ⟨0, Ob.zero, 1, rfl, ⟨⟨⟨rfl, rfl, rfl, rfl, rfl, rfl⟩, noProc_zero⟩, small0⟩, below_row HB2.out (by omega) _⟩
  | true =>
    have k34 : w2.cell? ⟨W.heap.size, 34, none⟩ = some (.int .i64 0) := O2.cell 34
    have z34 := O2.free 34
    have O3 : Obl (w2.setCell ⟨W.heap.size, 34, none⟩ (.int .i64 v)) W.heap.size 41 (oc { Ob.zero with id := id, kind := 9, count := v }) := O2.put 34 _
    have OR3 := OR2.put_other (b' := W.heap.size) (by omega) 34 (.int .i64 v)
    have HB3 := hide (HB2.out.setCell (p := ⟨W.heap.size, 34, none⟩) (Nat.le_refl _) (.int .i64 v))
    obtain ⟨w3, hw3⟩ : ∃ w3, w2.setCell ⟨W.heap.size, 34, none⟩ (.int .i64 v) = w3 := ⟨_, rfl⟩
    rw [hw3] at O3 OR3 HB3
    clear O2 OR2 HB2
    go_wp2_with fail
    refine region_D (by kernel_rfl) (W.heap.size + 1) (W.heap.size + 1) [3] ?_
    have hu : ∃ u, w3.drew = u ∧ Obl u W.heap.size 41 (oc { Ob.zero with id := id, kind := 9, count := v }) ∧ Obl u (W.heap.size + 1) 41 (oc Ob.zero) ∧ Hid (Below W.heap.size W u) := ⟨_, rfl, O3, OR3, hide ⟨HB3.out.os, HB3.out.tape, HB3.out.output, HB3.out.size, HB3.out.block⟩⟩
    obtain ⟨u, hu, O4, OR4, HB4⟩ := hu
    rw [hu]
    clear hu O3 OR3 HB3 hw3 k34 z34
    refine takeDX 0 rfl (by kernel_rfl) (fun _ _ _ h => h) (by rfl) (by intro w'; go_simp; try with_reducible rfl) ?_
    refine takeD 1 [1, 3, 4] rfl (by kernel_rfl) (fun _ _ _ h => h) (by rfl) (by intro w' hg; exact exec_load_ob rfl rfl (hg.obl O4 (by omega) (by omega))) ?_
    refine takeDX 2 rfl (by kernel_rfl) (fun _ _ _ h => h) (by rfl) (by intro w'; go_simp; try with_reducible rfl) ?_
    refine onlyD 3 rfl (by kernel_rfl) (by rfl) ?_
    intro K hK
    refine wp_store_ob rfl rfl (c := { Ob.zero with id := id, kind := 9, count := v }) rfl OR4 rfl ?_
    refine hK _ _ (fun h => by cases h) ?_
    clear hK K
    have OF := OR4.row_same (oc { Ob.zero with id := id, kind := 9, count := v })
    have HBF := hide (below_row HB4.out (g := W.heap.size + 1) (by omega) (oc { Ob.zero with id := id, kind := 9, count := v }))
    refine takeDX 4 rfl (by kernel_rfl) (fun _ _ _ h => h) (by rfl) (by intro w'; go_simp; try with_reducible rfl) ?_
    refine doneD (by kernel_rfl) ?_
    generalize u.setRow (W.heap.size + 1) (oc { Ob.zero with id := id, kind := 9, count := v }) = u5 at *
    go_simp
    go_wp2_with fail
    refine bodyPost_ret (results_tcell_3 rfl _ (b := W.heap.size + 1) rfl OF Try.underlying41 rfl obSize) rfl ?_
    exact ⟨0, { Ob.zero with id := id, kind := 9, count := v }, 0, rfl, ⟨⟨⟨rfl, rfl, rfl, rfl, rfl, rfl⟩, noProc_zero⟩, small0⟩, HBF.out⟩
end Go.Proofs.Ytddbohnappogkaa
namespace Go.Proofs.Ytddbohnappogkaa
open Go.RowKit

set_option maxRecDepth 100000 in
set_option maxHeartbeats 4000000 in
theorem has_any (A : Option Addr) (n c B : Nat) (L : List Int) (id : Int) (W : World) (hL : Nums .u64 W B A n L) (hn : n ≤ 1000) : Calls Try.prog 40 #[.slice A n c, .int .u64 id] W (BoolSame W) := by
  have hn' : (n : Int) ≤ 1000 := by omega
  go_enter Try.func40, Try.ntmps40
  go_wp2_with fail
  go_loop [9] (fun s => ∃ k : Nat, s = .int .i64 (k : Int) ∧ k ≤ n) (fun s => n - (intOf s).toNat)
  case atStart => exact ⟨0, rfl, by omega⟩
  case round =>
    obtain ⟨k, rfl, hk⟩ := hrel
    by_cases hlt : k < n
    · have hlt' : (k : Int) < (n : Int) := by omega
      obtain ⟨b1, f1, hl, rfl, hb1, c1⟩ := hL.at_ hlt
      generalize L[k] = v at *
      by_cases hv : v = id
      · subst hv
        go_wp2_with fail
        go_ret
        exact ⟨true, rfl, rfl⟩
      · have hv' : (v == id) = false := by simpa using hv
        go_wp2_with fail
        go_round
        case rel => exact ⟨k + 1, by go_num, by omega⟩
        case measure => simp [intOf]; omega
    · obtain rfl : k = n := by omega
      go_wp2_with fail
      go_ret
      exact ⟨false, rfl, rfl⟩

set_option maxRecDepth 100000 in
set_option maxHeartbeats 8000000 in
theorem port_dice (C b : Nat) (id : Int) (W : World) (h : Dice W C b) : Calls Try.prog 23 #[.pointer (some ⟨b, 0, none⟩), .int .u64 id] W (ObThrown C b W) := by
  obtain ⟨w1, hw, OR, hb, hs⟩ := start_z W
  have hbl := h.lt
  have hCb := h.le
  have HD := hide (h.below hb)
  have HB := hide (Bel.of (b := b) hb)
  clear hb h
  go_enter Try.func23, Try.ntmps23
  go_wp2_with fail
  refine (portNew id _).mono ?_
  rintro e w2 ⟨rfl, hb2⟩
  obtain ⟨w3, hw3, m, hm, w4, hw4, OZ, O, hb4, hs4⟩ := laid_ob { Ob.zero with id := id, kind := 6, refs := 1 } w2
  have hmW : W.heap.size < m := by have := hb2.size; omega
  have OR4 := (OR.below hb2 OR.lt).below hb4 (by omega)
  have HD4 := hide ((HD.out.below hb2).below hb4)
  have HB4 := hide (HB.out.trans (Bel.of (b := b) ((hb2.trans (hb4.mono hb2.size)).mono (by omega))))
  clear hb2 hb4 OR HD HB hw hs
  go_wp2_with (first | (refine store_ob rfl _ _ rfl rfl (c := { Ob.zero with id := id, kind := 6, refs := 1 }) rfl OZ rfl ?_; rw [hw4]) | fail)
  refine (next_dice C b 3 _ HD4.out (by omega) (by omega)).mono ?_
  rintro e w5 ⟨r, rfl, hr, hD, hB⟩
  have O5 := hB.obl' O (by omega)
  have OR5 := hB.obl' OR4 (by omega)
  have z2 := O5.free 2
  have k2 : w5.cell? ⟨m, 2, none⟩ = some (.int .i64 1) := O5.cell 2
  have O6 : Obl (w5.setCell ⟨m, 2, none⟩ (.int .i64 r)) m 41 (oc { Ob.zero with id := id, kind := 6, refs := r }) := O5.put 2 _
  have OR6 := OR5.put_other (b' := m) (by omega) 2 (.int .i64 r)
  have HD6 := hide (hD.put_other (g := m) (by omega) (by omega) 2 (.int .i64 r))
  have HB6 := hide ((HB4.out.trans (hB.mono HB4.out.size)).setGe (g := m) (by omega) 2 (.int .i64 r))
  obtain ⟨w6, hw6⟩ : ∃ w6, w5.setCell ⟨m, 2, none⟩ (.int .i64 r) = w6 := ⟨_, rfl⟩
  rw [hw6] at O6 OR6 HD6 HB6
  have HRR := hide hr
  clear hD hB O OR4 HD4 HB4 OZ hw4 hw3 O5 OR5 hr
  go_wp2_with fail
  refine (next_dice C b 10 _ HD6.out (by omega) (by omega)).mono ?_
  rintro e w7 ⟨n0, rfl, hn, hD, hB⟩
  obtain ⟨n0, rfl⟩ := Int.eq_ofNat_of_zero_le hn.1
  have hn9 : n0 ≤ 9 := by omega
  have O7 := hB.obl' O6 (by omega)
  have OR7 := hide (hB.obl' OR6 (by omega))
  have HD7 := hide hD
  have HB7 := hide (HB6.out.trans (hB.mono HB6.out.size))
  have hm7 := O7.lt
  clear hD hB O6 OR6 HD6 HB6 hn hw6
  go_wp2_with fail
  go_loopw [6] (fun s15 wr => ∃ (k q c : Nat) (A : Option Addr) (I : List Int), s15 = .int .i64 (k : Int) ∧ k ≤ 9 ∧ q ≤ 8 ∧ Obl wr m 41 (oc { Ob.zero with id := id, kind := 6, refs := r, backlog := ⟨A, q, c⟩ }) ∧ wr.ownsRow (m + 1) 22 1 (.slice A q c) q (nv .u64 I) ∧
      Hid (Obl wr W.heap.size 41 (oc Ob.zero)) ∧ Hid (Dice wr C b) ∧ Hid (Bel W.heap.size b W wr)) (fun s15 _ => (intOf s15).toNat)
  case atStart => exact ⟨n0, 0, 0, none, [], rfl, hn9, by omega, O7, own_nil, OR7, HD7, HB7⟩
  case round =>
    clear O7 OR7 HD7 HB7 hn9
    obtain ⟨k, q, c, A, I, rfl, hk, hq, O, hown, OR, HD, HB⟩ := hrel
    have hml := O.lt
    have k29 : wr.cell? ⟨m, 29, none⟩ = some (.slice A q c) := O.cell 29
    by_cases h0 : 0 < k ∧ q < 8
    · obtain ⟨h0, h8⟩ := h0
      have h0' : (0 : Int) < (k : Int) := by omega
      have h8' : (q : Int) < 8 := by omega
      go_wp2_with fail
      refine (id_dice C b _ HD.out).mono ?_
      rintro e w8 ⟨v, rfl, hD, hB⟩
      have O8 := hB.obl' O (by omega)
      have OR8 := hide (hB.obl' OR.out (by omega))
      have hown8 := own_keep hown (keep_bel hB (by omega))
      have HD8 := hide hD
      have HB8 := hide (HB.out.trans (hB.mono HB.out.size))
      have hml8 := O8.lt
      have j29 : w8.cell? ⟨m, 29, none⟩ = some (.slice A q c) := O8.cell 29
      have z29 := O8.free 29
      clear hD hB O OR hown HD HB k29
      go_wp2_with fail
      refine (has_any A q c _ I v _ (Nums.of_own hown8) (by omega)).mono ?_
      rintro e w9 ⟨bv, rfl, hw9⟩
      rw [hw9]
      clear hw9
      cases bv with
      | true =>
        go_wp2_with fail
        go_roundw
        case rel => exact ⟨k - 1, q, c, A, I, by go_num, by omega, hq, O8, hown8, OR8, HD8, HB8⟩
        case measure => simp [intOf]; omega
      | false =>
        have Oa := O8.alloc (.cells #[.int .u64 v] 22)
        have ORa := hide (OR8.out.alloc (.cells #[.int .u64 v] 22))
        have HDa := hide (HD8.out.alloc (.cells #[.int .u64 v] 22))
        have HBa := hide (HB8.out.trans (Bel.of (b := b) ((Below.refl W.heap.size w8).alloc HB8.out.size (.cells #[.int .u64 v] 22))))
        have howna := hown8.alloc (.cells #[.int .u64 v] 22)
        have hrow := Row.new w8 (.int .u64 v) 22
        have hsz : m + 1 ≤ (w8.alloc (.cells #[.int .u64 v] 22)).heap.size := by simp; omega
        have hq1 : q + 1 ≤ 1000 := by omega
        have ja := Oa.cell 29
        have za := Oa.free 29
        obtain ⟨wa, hwa⟩ : ∃ wa, w8.alloc (.cells #[.int .u64 v] 22) = wa := ⟨_, rfl⟩
        rw [hwa] at Oa ORa HDa HBa howna hrow hsz ja za
        have ja' : wa.cell? ⟨m, 29, none⟩ = some (.slice A q c) := Oa.cell 29
        clear O8 OR8 hown8 HD8 HB8
        go_wp2_with (first | (at_builtin; refine wpList_append_rd rfl _ _ _ rfl idTy (xs := nv .u64 I) (base := m + 1) rfl howna rfl hrow (by simp [Value.oneCell']) (by unfold maxLen; omega) (by omega) hsz ?_; intro A3 c3 w3 hown3 hg3 _; have O3 := Oa.grown hg3 (fun e => by have := (howna.lt m (by rw [ownBlock_slice]; exact e.symm)).1; omega); have OR3 := ORa.out.grown hg3 (fun e => by have := (howna.lt W.heap.size (by rw [ownBlock_slice]; exact e.symm)).1; omega); have HD3 := hide (HDa.out.grown hg3 (fun e => by have := (howna.lt b (by rw [ownBlock_slice]; exact e.symm)).1; omega) (fun j hj => by have := (howna.lt j (by rw [ownBlock_slice]; exact hj)).1; omega)); have HB3 := hide (HBa.out.trans (Bel.of (b := b) ((below_own (Below.refl (m + 1) wa) howna hg3 hsz).mono (by omega)))); have z3 := O3.free 29; have k3 : w3.cell? ⟨m, 29, none⟩ = some (.slice A q c) := O3.cell 29; have O4 : Obl (w3.setCell ⟨m, 29, none⟩ (.slice A3 (q + 1) c3)) m 41 (oc { Ob.zero with id := id, kind := 6, refs := r, backlog := ⟨A3, q + 1, c3⟩ }) := O3.put 29 _; have OR4 := hide (OR3.put_other (b' := m) (by omega) 29 (.slice A3 (q + 1) c3)); have HD4 := hide (HD3.out.put_other (g := m) (by omega) (by omega) 29 (.slice A3 (q + 1) c3)); have HB4 := hide (HB3.out.setGe (g := m) (by omega) 29 (.slice A3 (q + 1) c3)); have hown4 := own_keep hown3 (keep_put (m := m) (by omega) 29 (.slice A3 (q + 1) c3)); obtain ⟨w4, hw4⟩ : ∃ w4, w3.setCell ⟨m, 29, none⟩ (.slice A3 (q + 1) c3) = w4 := ⟨_, rfl⟩; rw [hw4] at O4 OR4 HD4 HB4 hown4; rw [nv_snoc] at hown4; clear O3 OR3 HD3 HB3 hown3) | fail)
        go_roundw
        case rel => exact ⟨k - 1, q + 1, c3, A3, I ++ [v], by go_num, by omega, by omega, O4, hown4, OR4, HD4, HB4⟩
        case measure => simp [intOf]; omega
    · have OR' := OR.out
      have hcase : ¬ 0 < k ∨ (0 < k ∧ ¬ q < 8) := by omega
      rcases hcase with h1 | ⟨h1, h2⟩
      · obtain rfl : k = 0 := by omega
        go_wp2_with (first | (refine load_ob rfl _ rfl rfl O ?_) | (refine store_ob rfl _ _ rfl rfl (c := { Ob.zero with id := id, kind := 6, refs := r, backlog := ⟨A, q, c⟩ }) rfl OR' rfl ?_) | fail)
        refine bodyPost_ret (ret_ob rfl _ rfl (OR'.row_same _)) rfl ?_
        exact thrown_own (base := m + 1) ⟨⟨[], own_nil⟩, ⟨[], own_nil⟩, ⟨I, hown⟩, ⟨[], own_nil⟩, ⟨[], own_nil⟩, ⟨[], ⟨own_nil, by simp⟩, by simp⟩, noProc_zero, by have h1 := HRR.out; simp [Ob.Fit, Ob.Small, Ob.zero]; omega⟩ (by omega) HD.out HB.out hbl hCb
      · have h1' : (0 : Int) < (k : Int) := by omega
        have h2' : ¬ (q : Int) < 8 := by omega
        go_wp2_with (first | (refine load_ob rfl _ rfl rfl O ?_) | (refine store_ob rfl _ _ rfl rfl (c := { Ob.zero with id := id, kind := 6, refs := r, backlog := ⟨A, q, c⟩ }) rfl OR' rfl ?_) | fail)
        refine bodyPost_ret (ret_ob rfl _ rfl (OR'.row_same _)) rfl ?_
        exact thrown_own (base := m + 1) ⟨⟨[], own_nil⟩, ⟨[], own_nil⟩, ⟨I, hown⟩, ⟨[], own_nil⟩, ⟨[], own_nil⟩, ⟨[], ⟨own_nil, by simp⟩, by simp⟩, noProc_zero, by have h1 := HRR.out; simp [Ob.Fit, Ob.Small, Ob.zero]; omega⟩ (by omega) HD.out HB.out hbl hCb
end Go.Proofs.Ytddbohnappogkaa
namespace Go.Proofs.Ytddbohnappogkaa
open Go.RowKit

/-- Sixty-four bytes that are 0. -/
theorem wpList_make64 {ops : Array Oper} {rest : List Oper} {o : Oper} {a : Act} {w : World} {Q : Exit → Act → World → Prop} (hgd : o.guard = none) (l c : Operand) (hop : o.op = Op.makeSlice 36 l c) (hl : a.eval l = .int .i64 64) (hc : a.eval c = .int .i64 64) (base : Nat) (hbase : base ≤ w.heap.size)
    (hK : ∀ A w', (∃ D, w'.ownsRow base 5 1 (.slice A 64 64) 64 (bv D)) → Below w.heap.size w w' → wpList Try.prog ops Q rest (a.put o.dst (.slice A 64 64)) w') : wpList Try.prog ops Q (o :: rest) a w := by
  obtain ⟨i0, hi, hz0, hz1, hz2⟩ := info_parts (show (Try.prog.info? 5).map (fun i => (i.zero, i.size, i.bytes)) = some (some (.int .u8 0), 1, 1) by kernel_rfl)
  refine wpList_make_full w hgd l c _ hop base 5 i0 (.int .u8 0) 1 Try.underlying36 hi hz0 hz1 .i64 .i64 64 64 64 hl hc rfl rfl (by rw [hz2]; omega) (by unfold maxLen; omega) hbase ?_
  intro w' h1 h2
  refine hK _ w' ⟨List.replicate 64 0, ?_⟩ ⟨h2.os, h2.tape, h2.output, h2.size, fun k hk => h2.block k hk (by simp)⟩
  rw [show (madeCells (Value.int .u8 0).cells (64 * 1)).toList = bv (List.replicate 64 0) from by kernel_rfl] at h1
  exact h1

/-- A made pipe: its readers, writers and bytes. -/
structure MadePipe (id : Int) (o : Ob) (rd wr : Int) : Prop where
  is : o = { Ob.zero with id := id, kind := 5, readers := rd, writers := wr, data := o.data }
  rds : 0 ≤ rd ∧ rd ≤ 2
  wrs : 0 ≤ wr ∧ wr ≤ 2
  one : rd ≠ 0 ∨ wr ≠ 0
  len : o.data.n ≤ 64
/-- A made pipe, and the dice. -/
def PipeThrown (id : Int) (C b : Nat) (w : World) (e : Ending) (w' : World) : Prop := ∃ o rd wr, e = .returned (.agg (oc o)) ∧ MadePipe id o rd wr ∧ OwnOb w' (w.heap.size + 1) o ∧ Dice w' C b ∧ Bel w.heap.size b w w'
theorem thrown_pipe {C b base : Nat} {W w : World} {o : Ob} {id rd wr : Int} (hm : MadePipe id o rd wr) (ho : OwnOb w base o) (hbase : W.heap.size < base) (hD : Dice w C b) (hB : Bel W.heap.size b W w) (hbW : b < W.heap.size) (hC : C ≤ b) : PipeThrown id C b W (.returned (.agg (oc o))) (w.setRow W.heap.size (oc o)) := by
  have h := ho.row (m := W.heap.size) (by omega) (oc o)
  refine ⟨o, rd, wr, rfl, hm, ?_, hD.row_other (by omega) (by omega) _, hB.rowGe (Nat.le_refl _) _⟩
  exact h.weaken (by omega)
set_option maxRecDepth 100000 in
set_option maxHeartbeats 8000000 in
theorem pipe_thrown (C b : Nat) (id : Int) (W : World) (h : Dice W C b) : Calls Try.prog 22 #[.pointer (some ⟨b, 0, none⟩), .int .u64 id] W (PipeThrown id C b W) := by
  obtain ⟨w1, hw, OR, hb, hs⟩ := start_z W
  have hbl := h.lt
  have hCb := h.le
  have HD := hide (h.below hb)
  have HB := hide (Bel.of (b := b) hb)
  clear hb h
  go_enter Try.func22, Try.ntmps22
  go_wp2_with fail
  refine (pipeNew id _).mono ?_
  rintro e w2 ⟨rfl, hb2⟩
  obtain ⟨w3, hw3, m, hm, w4, hw4, OZ, O, hb4, hs4⟩ := laid_ob { Ob.zero with id := id, kind := 5, readers := 1, writers := 1 } w2
  have hmW : W.heap.size < m := by have := hb2.size; omega
  have OR4 := (OR.below hb2 OR.lt).below hb4 (by omega)
  have HD4 := hide ((HD.out.below hb2).below hb4)
  have HB4 := hide (HB.out.trans (Bel.of (b := b) ((hb2.trans (hb4.mono hb2.size)).mono (by omega))))
  clear hb2 hb4 OR HD HB hw hs
  go_wp2_with (first | (refine store_ob rfl _ _ rfl rfl (c := { Ob.zero with id := id, kind := 5, readers := 1, writers := 1 }) rfl OZ rfl ?_; rw [hw4]) | fail)
  refine (next_dice C b 3 _ HD4.out (by omega) (by omega)).mono ?_
  rintro e w5 ⟨r, rfl, hr, hD, hB⟩
  have O5 := hB.obl' O (by omega)
  have OR5 := hB.obl' OR4 (by omega)
  have HD5 := hide hD
  have HB5 := hide (HB4.out.trans (hB.mono HB4.out.size))
  clear hD hB O OR4 HD4 HB4 OZ hw4 hw3
  go_wp2_with fail
  refine (next_dice C b 3 _ HD5.out (by omega) (by omega)).mono ?_
  rintro e w6 ⟨u, rfl, hu, hD, hB⟩
  have O6 := hB.obl' O5 (by omega)
  have OR6 := hB.obl' OR5 (by omega)
  have z27 := O6.free 27
  have k27 : w6.cell? ⟨m, 27, none⟩ = some (.int .i64 1) := O6.cell 27
  have O7 : Obl (w6.setCell ⟨m, 27, none⟩ (.int .i64 r)) m 41 (oc { Ob.zero with id := id, kind := 5, readers := r, writers := 1 }) := O6.put 27 _
  have OR7 := OR6.put_other (b' := m) (by omega) 27 (.int .i64 r)
  have z28 := O7.free 28
  have k28 : (w6.setCell ⟨m, 27, none⟩ (.int .i64 r)).cell? ⟨m, 28, none⟩ = some (.int .i64 1) := O7.cell 28
  have O8 : Obl ((w6.setCell ⟨m, 27, none⟩ (.int .i64 r)).setCell ⟨m, 28, none⟩ (.int .i64 u)) m 41 (oc { Ob.zero with id := id, kind := 5, readers := r, writers := u }) := O7.put 28 _
  have OR8 := OR7.put_other (b' := m) (by omega) 28 (.int .i64 u)
  have HD8 := hide ((hD.put_other (g := m) (by omega) (by omega) 27 (.int .i64 r)).put_other (g := m) (by omega) (by omega) 28 (.int .i64 u))
  have HB8 := hide (((HB5.out.trans (hB.mono HB5.out.size)).setGe (g := m) (by omega) 27 (.int .i64 r)).setGe (g := m) (by omega) 28 (.int .i64 u))
  obtain ⟨w8, hw8⟩ : ∃ w8, (w6.setCell ⟨m, 27, none⟩ (.int .i64 r)).setCell ⟨m, 28, none⟩ (.int .i64 u) = w8 := ⟨_, rfl⟩
  rw [hw8] at O8 OR8 HD8 HB8
  have j27 : w8.cell? ⟨m, 27, none⟩ = some (.int .i64 r) := O8.cell 27
  have j28 : w8.cell? ⟨m, 28, none⟩ = some (.int .i64 u) := O8.cell 28
  have y27 := O8.free 27
  obtain ⟨hr0, hr1⟩ := hr
  obtain ⟨hu0, hu1⟩ := hu
  clear hD hB O5 OR5 HD5 HB5 O6 OR6 O7 OR7
  by_cases h0 : r + u = 0
  obtain rfl : r = 0 := by omega
  obtain rfl : u = 0 := by omega
  have O9 : Obl (w8.setCell ⟨m, 27, none⟩ (.int .i64 1)) m 41 (oc { Ob.zero with id := id, kind := 5, readers := 1, writers := 0 }) := O8.put 27 _
  have OR9 := OR8.put_other (b' := m) (by omega) 27 (.int .i64 1)
  have HD9 := hide (HD8.out.put_other (g := m) (by omega) (by omega) 27 (.int .i64 1))
  have HB9 := hide (HB8.out.setGe (g := m) (by omega) 27 (.int .i64 1))
  obtain ⟨w9, hw9⟩ : ∃ w9, w8.setCell ⟨m, 27, none⟩ (.int .i64 1) = w9 := ⟨_, rfl⟩
  rw [hw9] at O9 OR9 HD9 HB9
  obtain ⟨rd, hrd⟩ : ∃ rd : Int, 1 = rd := ⟨_, rfl⟩
  rw [show (oc { Ob.zero with id := id, kind := 5, readers := 1, writers := 0 }) = oc { Ob.zero with id := id, kind := 5, readers := rd, writers := 0 } from by rw [hrd]] at O9
  obtain ⟨wr, hwr⟩ : ∃ wr : Int, 0 = wr := ⟨_, rfl⟩
  rw [show (oc { Ob.zero with id := id, kind := 5, readers := rd, writers := 0 }) = oc { Ob.zero with id := id, kind := 5, readers := rd, writers := wr } from by rw [hwr]] at O9
  have HR : Hid ((0 ≤ rd ∧ rd ≤ 2) ∧ (0 ≤ wr ∧ wr ≤ 2) ∧ (rd ≠ 0 ∨ wr ≠ 0)) := hide (by omega)
  have hrd' := hide hrd
  have hwr' := hide hwr
  clear hrd hwr O8 OR8 HD8 HB8
  rotate_left 1
  have e0 : (r + u == 0) = false := by simpa using h0
  have O9 := O8
  have OR9 := OR8
  have HD9 := HD8
  have HB9 := HB8
  obtain ⟨w9, hw9⟩ : ∃ w9, w8 = w9 := ⟨_, rfl⟩
  rw [hw9] at O9 OR9 HD9 HB9 j27 j28
  obtain ⟨rd, hrd⟩ : ∃ rd : Int, r = rd := ⟨_, rfl⟩
  obtain ⟨wr, hwr⟩ : ∃ wr : Int, u = wr := ⟨_, rfl⟩
  have HR : Hid ((0 ≤ rd ∧ rd ≤ 2) ∧ (0 ≤ wr ∧ wr ≤ 2) ∧ (rd ≠ 0 ∨ wr ≠ 0)) := hide (by omega)
  have hrd' := hide hrd
  have hwr' := hide hwr
  rw [show (oc { Ob.zero with id := id, kind := 5, readers := r, writers := u }) = oc { Ob.zero with id := id, kind := 5, readers := rd, writers := wr } from by rw [hrd, hwr]] at O9
  clear hrd hwr O8 OR8 HD8 HB8
  all_goals
    go_wp2_with fail
    refine (bytes_dice C b 5 _ HD9.out (by omega)).mono ?_
    rintro e wA ⟨A, n, c, D, rfl, hn, hown, hD, hB⟩
    have HN := hide hn
    have hm9 := O9.lt
    have O5 := hB.obl' O9 (by omega)
    have OR5 := hB.obl' OR9 (by omega)
    have z5 := O5.free 24
    have k5 : wA.cell? ⟨m, 24, none⟩ = some (.slice none 0 0) := O5.cell 24
    have HB5 := hide ((HB9.out.trans (hB.mono HB9.out.size)).setGe (g := m) (by omega) 24 (.slice A n c))
    have HD5 := hide (hD.put_other (g := m) (by omega) (by omega) 24 (.slice A n c))
    have HO5 := hide (own_keep hown (keep_put (m := m) (by omega) 24 (.slice A n c)))
    have O6 : Obl (wA.setCell ⟨m, 24, none⟩ (.slice A n c)) m 41 (oc { Ob.zero with id := id, kind := 5, readers := rd, writers := wr, data := ⟨A, n, c⟩ }) := O5.put 24 _
    have OR6 := OR5.put_other (b' := m) (by omega) 24 (.slice A n c)
    obtain ⟨wB, hwB⟩ : ∃ wB, wA.setCell ⟨m, 24, none⟩ (.slice A n c) = wB := ⟨_, rfl⟩
    rw [hwB] at HB5 HD5 HO5 O6 OR6
    have hbase : w9.heap.size ≤ wA.heap.size := hB.size
    clear hown hD hB O9 OR9 HD9 HB9 O5 OR5 hw9
    go_wp2_with fail
    refine (next_dice C b 5 _ HD5.out (by omega) (by omega)).mono ?_
    rintro e wC ⟨v, rfl, hv, hD, hB⟩
    have OC := hB.obl' O6 (by omega)
    have ORC := hB.obl' OR6 (by omega)
    have HDC := hide hD
    have HBC := hide (HB5.out.trans (hB.mono HB5.out.size))
    have HOC := hide (own_keep HO5.out (keep_bel hB (by omega)))
    have hmC := OC.lt
    have hszC : w9.heap.size ≤ wC.heap.size := by have := hB.size; rw [← hwB] at this; simp [World.setCell] at this; omega
    clear hD hB O6 OR6 HD5 HB5 HO5
    by_cases h4 : v = 4
    · subst h4
      go_wp2_with (first | (refine wpList_make64 rfl _ _ rfl rfl rfl w9.heap.size hszC ?_; intro A6 wD hown6 hb6; have HO6 := hide hown6; have OD := OC.below hb6 hmC; have ORD := ORC.below hb6 ORC.lt; have HDD := hide (HDC.out.below hb6); have HBD := hide (HBC.out.trans (Bel.of (b := b) (hb6.mono HBC.out.size))); have zD := OD.free 24; have kD : wD.cell? ⟨m, 24, none⟩ = some (.slice A n c) := OD.cell 24; have OE : Obl (wD.setCell ⟨m, 24, none⟩ (.slice A6 64 64)) m 41 (oc { Ob.zero with id := id, kind := 5, readers := rd, writers := wr, data := ⟨A6, 64, 64⟩ }) := OD.put 24 _; have ORE := ORD.put_other (b' := m) (by omega) 24 (.slice A6 64 64); have HDE := hide (HDD.out.put_other (g := m) (by omega) (by omega) 24 (.slice A6 64 64)); have HBE := hide (HBD.out.setGe (g := m) (by omega) 24 (.slice A6 64 64)); have HOE := hide (HO6.out.imp fun _ h => own_keep h (keep_put (m := m) (by omega) 24 (.slice A6 64 64))); clear hown6 OD ORD HDD HBD HO6; obtain ⟨wE, hwE⟩ : ∃ wE, wD.setCell ⟨m, 24, none⟩ (.slice A6 64 64) = wE := ⟨_, rfl⟩; rw [hwE] at OE ORE HDE HBE HOE) | (refine load_ob rfl _ rfl rfl OE ?_) | (refine store_ob rfl _ _ rfl rfl (c := { Ob.zero with id := id, kind := 5, readers := rd, writers := wr, data := ⟨A6, 64, 64⟩ }) rfl ORE rfl ?_) | fail)
      refine bodyPost_ret (ret_ob rfl _ rfl (ORE.row_same _)) rfl ?_
      exact thrown_pipe (base := w9.heap.size) ⟨rfl, HR.out.1, HR.out.2.1, HR.out.2.2, by show 64 ≤ 64; omega⟩ ⟨⟨[], own_nil⟩, HOE.out, ⟨[], own_nil⟩, ⟨[], own_nil⟩, ⟨[], own_nil⟩, ⟨[], ⟨own_nil, by simp⟩, by simp⟩, noProc_zero, by have h1 := HR.out; have h2 := HN.out; simp [Ob.Fit, Ob.Small, Ob.zero]; omega⟩ (by omega) HDE.out HBE.out hbl hCb
    · have e4 : (v == 4) = false := by simpa using h4
      go_wp2_with (first | (refine load_ob rfl _ rfl rfl OC ?_) | (refine store_ob rfl _ _ rfl rfl (c := { Ob.zero with id := id, kind := 5, readers := rd, writers := wr, data := ⟨A, n, c⟩ }) rfl ORC rfl ?_) | fail)
      refine bodyPost_ret (ret_ob rfl _ rfl (ORC.row_same _)) rfl ?_
      exact thrown_pipe (base := w9.heap.size) ⟨rfl, HR.out.1, HR.out.2.1, HR.out.2.2, by show n ≤ 64; have := HN.out; omega⟩ ⟨⟨[], own_nil⟩, ⟨D, HOC.out⟩, ⟨[], own_nil⟩, ⟨[], own_nil⟩, ⟨[], own_nil⟩, ⟨[], ⟨own_nil, by simp⟩, by simp⟩, noProc_zero, by have h1 := HR.out; have h2 := HN.out; simp [Ob.Fit, Ob.Small, Ob.zero]; omega⟩ (by omega) HDC.out HBC.out hbl hCb
theorem pipe_dice (C b : Nat) (id : Int) (W : World) (h : Dice W C b) : Calls Try.prog 22 #[.pointer (some ⟨b, 0, none⟩), .int .u64 id] W (ObThrown C b W) :=
  (pipe_thrown C b id W h).mono fun _ _ ⟨_, _, _, he, _, hown, hD, hB⟩ => ⟨_, he, hown, hD, hB⟩
end Go.Proofs.Ytddbohnappogkaa
namespace Go.Proofs.Ytddbohnappogkaa
open Go.RowKit

theorem wp_make64 {o : Oper} {a : Act} {w : World} {K : Act → World → Prop} {Q : Exit → Act → World → Prop} (l c : Operand) (hop : o.op = Op.makeSlice 36 l c) (hl : a.eval l = .int .i64 64) (hc : a.eval c = .int .i64 64) (base : Nat) (hbase : base ≤ w.heap.size)
    (hK : ∀ A w', (∃ D, w'.ownsRow base 5 1 (.slice A 64 64) 64 (bv D)) → Below w.heap.size w w' → K (a.put o.dst (.slice A 64 64)) w') : o.wp Try.prog a w K Q := by
  obtain ⟨i0, hi, hz0, hz1, hz2⟩ := info_parts (show (Try.prog.info? 5).map (fun i => (i.zero, i.size, i.bytes)) = some (some (.int .u8 0), 1, 1) by kernel_rfl)
  obtain ⟨w', hrun, h1, h2⟩ := run_makeSlice_full (P := Try.prog) (w := w) base 36 5 i0 (.int .u8 0) 1 Try.underlying36 hi hz0 hz1 .i64 .i64 64 (by omega) (by rw [hz2]; omega) (by unfold maxLen; omega) hbase
  rw [show (madeCells (Value.int .u8 0).cells (64 * 1)).toList = bv (List.replicate 64 0) from by kernel_rfl] at h1
  unfold Oper.wp
  have hr' : (Instr.makeSlice 36 (.int .i64 64) (.int .i64 64)).run Try.prog w = _ := hrun
  simp [execOp, hop, hl, hc, hr', Result.andThen]
  exact hK _ w' ⟨List.replicate 64 0, h1⟩ ⟨h2.os, h2.tape, h2.output, h2.size, fun k hk => h2.block k hk (by simp)⟩

set_option maxRecDepth 100000 in
set_option maxHeartbeats 8000000 in
theorem channel_dice (C b : Nat) (id : Int) (W : World) (h : Dice W C b) : Calls Try.prog 24 #[.pointer (some ⟨b, 0, none⟩), .int .u64 id] W (ObThrown C b W) := by
  obtain ⟨w1, hw, OR, hb, hs⟩ := start_z W
  have hbl := h.lt
  have hCb := h.le
  have HD := hide (h.below hb)
  have HB := hide (Bel.of (b := b) hb)
  clear hb h
  go_enter Try.func24, Try.ntmps24
  go_wp2_with fail
  refine (chanNew id _).mono ?_
  rintro e w2 ⟨rfl, hb2⟩
  obtain ⟨w3, hw3, m, hm, w4, hw4, OZ, O, hb4, hs4⟩ := laid_ob { Ob.zero with id := id, kind := 7, e0 := 1, e1 := 1 } w2
  have hmW : W.heap.size < m := by have := hb2.size; omega
  have OR4 := (OR.below hb2 OR.lt).below hb4 (by omega)
  have HD4 := hide ((HD.out.below hb2).below hb4)
  have HB4 := hide (HB.out.trans (Bel.of (b := b) ((hb2.trans (hb4.mono hb2.size)).mono (by omega))))
  clear hb2 hb4 OR HD HB hw hs
  go_wp2_with (first | (refine store_ob rfl _ _ rfl rfl (c := { Ob.zero with id := id, kind := 7, e0 := 1, e1 := 1 }) rfl OZ rfl ?_; rw [hw4]) | fail)
  refine (next_dice C b 3 _ HD4.out (by omega) (by omega)).mono ?_
  rintro e w5 ⟨r, rfl, hr, hD, hB⟩
  have O5 := hB.obl' O (by omega)
  have OR5 := hB.obl' OR4 (by omega)
  have HD5 := hide hD
  have HB5 := hide (HB4.out.trans (hB.mono HB4.out.size))
  have HRR := hide hr
  clear hD hB O OR4 HD4 HB4 OZ hw4 hw3 hr
  go_wp2_with fail
  refine (next_dice C b 3 _ HD5.out (by omega) (by omega)).mono ?_
  rintro e w6 ⟨u, rfl, hu, hD, hB⟩
  have O6 := hB.obl' O5 (by omega)
  have OR6 := hB.obl' OR5 (by omega)
  have z32 := O6.free 32
  have k32 : w6.cell? ⟨m, 32, none⟩ = some (.int .i64 1) := O6.cell 32
  have k33' : w6.cell? ⟨m, 33, none⟩ = some (.int .i64 1) := O6.cell 33
  have z33' := O6.free 33
  have O7 : Obl (w6.setCell ⟨m, 32, none⟩ (.int .i64 r)) m 41 (oc { Ob.zero with id := id, kind := 7, e0 := r, e1 := 1 }) := O6.put 32 _
  have OR7 := OR6.put_other (b' := m) (by omega) 32 (.int .i64 r)
  have z33 := O7.free 33
  have k33 : (w6.setCell ⟨m, 32, none⟩ (.int .i64 r)).cell? ⟨m, 33, none⟩ = some (.int .i64 1) := O7.cell 33
  have O8 : Obl ((w6.setCell ⟨m, 32, none⟩ (.int .i64 r)).setCell ⟨m, 33, none⟩ (.int .i64 u)) m 41 (oc { Ob.zero with id := id, kind := 7, e0 := r, e1 := u }) := O7.put 33 _
  have OR8 := OR7.put_other (b' := m) (by omega) 33 (.int .i64 u)
  have HD8 := hide ((hD.put_other (g := m) (by omega) (by omega) 32 (.int .i64 r)).put_other (g := m) (by omega) (by omega) 33 (.int .i64 u))
  have HB8 := hide (((HB5.out.trans (hB.mono HB5.out.size)).setGe (g := m) (by omega) 32 (.int .i64 r)).setGe (g := m) (by omega) 33 (.int .i64 u))
  obtain ⟨w8, hw8⟩ : ∃ w8, (w6.setCell ⟨m, 32, none⟩ (.int .i64 r)).setCell ⟨m, 33, none⟩ (.int .i64 u) = w8 := ⟨_, rfl⟩
  rw [hw8] at O8 OR8 HD8 HB8
  have HRU := hide hu
  clear hD hB O5 OR5 HD5 HB5 O6 OR6 O7 OR7 hu
  by_cases h0 : [r, u] = [0, 0]
  have H0 := hide h0
  clear h0
  have y33 := O8.free 33
  have j33 : w8.cell? ⟨m, 33, none⟩ = some (.int .i64 u) := O8.cell 33
  have O9 : Obl (w8.setCell ⟨m, 33, none⟩ (.int .i64 1)) m 41 (oc { Ob.zero with id := id, kind := 7, e0 := r, e1 := 1 }) := O8.put 33 _
  have OR9 := OR8.put_other (b' := m) (by omega) 33 (.int .i64 1)
  have HD9 := hide (HD8.out.put_other (g := m) (by omega) (by omega) 33 (.int .i64 1))
  have HB9 := hide (HB8.out.setGe (g := m) (by omega) 33 (.int .i64 1))
  obtain ⟨w9, hw9⟩ : ∃ w9, w8.setCell ⟨m, 33, none⟩ (.int .i64 1) = w9 := ⟨_, rfl⟩
  rw [hw9] at O9 OR9 HD9 HB9
  obtain ⟨x, hx⟩ : ∃ x : Int, 1 = x := ⟨_, rfl⟩
  rw [show (oc { Ob.zero with id := id, kind := 7, e0 := r, e1 := 1 }) = oc { Ob.zero with id := id, kind := 7, e0 := r, e1 := x } from by rw [hx]] at O9
  have HX : Hid (0 ≤ x ∧ x ≤ 3) := hide (by have := HRU.out; omega)
  clear hx
  go_wp2_with (first | (refine wpList_val (by rfl) (exec_load_ends rfl rfl O8) ?_) | (refine wpList_val (by rfl) (exec_build rfl (vs := []) rfl built_ends) ?_) | (refine wpList_val (by rfl) (exec_eql_ends (L := [r, u]) (M := [0, 0]) rfl rfl rfl rfl rfl) ?_; rw [show decide ([r, u] = [0, 0]) = true from decide_eq_true H0.out]) | fail)
  clear OR8 HD8 HB8 H0
  rotate_left 1
  have H0 := hide h0
  clear h0
  have O9 := O8
  have OR9 := OR8
  have HD9 := HD8
  have HB9 := HB8
  generalize w8 = w9 at *
  have hw9 := trivial
  obtain ⟨x, hx⟩ : ∃ x : Int, u = x := ⟨_, rfl⟩
  have hx' := hide hx
  rw [show (oc { Ob.zero with id := id, kind := 7, e0 := r, e1 := u }) = oc { Ob.zero with id := id, kind := 7, e0 := r, e1 := x } from by rw [hx]] at O9
  have HX : Hid (0 ≤ x ∧ x ≤ 3) := hide (by have := HRU.out; omega)
  clear hx
  have heq : ∀ w : World, (Op.equalIn 10000 38 (.agg (nv .i64 [r, u]).toArray) (.agg #[.int .i64 0, .int .i64 0])).run Try.prog w = .ok false w := fun w => by
    have := run_equal_nums (P := Try.prog) (w := w) (d := 9998) Try.underlying38 Try.underlying3 intSize1 [r, u] [0, 0] rfl rfl
    rwa [decide_eq_false H0.out] at this
  go_wp2_with (first | (refine wpList_val (by rfl) (exec_load_ends rfl rfl O8) ?_) | fail)
  clear OR8 HD8 HB8 H0 heq
  all_goals
    refine (bytes_dice C b 4 _ HD9.out (by omega)).mono ?_
    rintro e wA ⟨A, n, c, D, rfl, hn, hown, hD, hB⟩
    have HN1 := hide hn
    have hm9 := O9.lt
    have O5 := hB.obl' O9 (by omega)
    have OR5 := hB.obl' OR9 (by omega)
    have HD5 := hide hD
    have HB5 := hide (HB9.out.trans (hB.mono HB9.out.size))
    have HO5 := hide hown
    have hs9 : w9.heap.size ≤ wA.heap.size := hB.size
    clear hown hD hB O9 OR9 HD9 HB9 hw9 O8
    go_wp2_with fail
    refine (bytes_dice C b 4 _ HD5.out (by omega)).mono ?_
    rintro e wB ⟨A2, n2, c2, D2, rfl, hn2, hown, hD, hB⟩
    have HN2 := hide hn2
    have O6 := hB.obl' O5 (by omega)
    have OR6 := hB.obl' OR5 (by omega)
    have HO6 := hide (own_keep HO5.out (keep_bel hB (by omega)))
    have HP6 := hide (own_weaken (base' := w9.heap.size) hown hs9)
    have HB6 := hide (HB5.out.trans (hB.mono HB5.out.size))
    have z30 := O6.free 30
    have k30 : wB.cell? ⟨m, 30, none⟩ = some (.slice none 0 0) := O6.cell 30
    have k31' : wB.cell? ⟨m, 31, none⟩ = some (.slice none 0 0) := O6.cell 31
    have z31' := O6.free 31
    have O7 : Obl (wB.setCell ⟨m, 30, none⟩ (.slice A n c)) m 41 (oc { Ob.zero with id := id, kind := 7, e0 := r, e1 := x, q0 := ⟨A, n, c⟩ }) := O6.put 30 _
    have z31 := O7.free 31
    have k31 : (wB.setCell ⟨m, 30, none⟩ (.slice A n c)).cell? ⟨m, 31, none⟩ = some (.slice none 0 0) := O7.cell 31
    have OC : Obl ((wB.setCell ⟨m, 30, none⟩ (.slice A n c)).setCell ⟨m, 31, none⟩ (.slice A2 n2 c2)) m 41 (oc { Ob.zero with id := id, kind := 7, e0 := r, e1 := x, q0 := ⟨A, n, c⟩, q1 := ⟨A2, n2, c2⟩ }) := O7.put 31 _
    have ORC := (OR6.put_other (b' := m) (by omega) 30 (.slice A n c)).put_other (b' := m) (by omega) 31 (.slice A2 n2 c2)
    have HDC := hide ((hD.put_other (g := m) (by omega) (by omega) 30 (.slice A n c)).put_other (g := m) (by omega) (by omega) 31 (.slice A2 n2 c2))
    have HBC := hide ((HB6.out.setGe (g := m) (by omega) 30 (.slice A n c)).setGe (g := m) (by omega) 31 (.slice A2 n2 c2))
    have HOC := hide (own_keep (own_keep HO6.out (keep_put (m := m) (by omega) 30 (.slice A n c))) (keep_put (m := m) (by omega) 31 (.slice A2 n2 c2)))
    have HPC := hide (own_keep (own_keep HP6.out (keep_put (m := m) (by omega) 30 (.slice A n c))) (keep_put (m := m) (by omega) 31 (.slice A2 n2 c2)))
    obtain ⟨wC, hwC⟩ : ∃ wC, (wB.setCell ⟨m, 30, none⟩ (.slice A n c)).setCell ⟨m, 31, none⟩ (.slice A2 n2 c2) = wC := ⟨_, rfl⟩
    rw [hwC] at OC ORC HDC HBC HOC HPC
    have hszC : w9.heap.size ≤ wC.heap.size := by have := hB.size; rw [← hwC]; simp [World.setCell]; omega
    clear hown hD hB O5 OR5 HD5 HB5 HO5 O6 OR6 HO6 HP6 HB6 O7
    go_wp2_with fail
    refine (next_dice C b 5 _ HDC.out (by omega) (by omega)).mono ?_
    rintro e wD ⟨v, rfl, hv, hD, hB⟩
    have OD := hB.obl' OC (by omega)
    have ORD := hB.obl' ORC (by omega)
    have HDD := hide hD
    have HBD := hide (HBC.out.trans (hB.mono HBC.out.size))
    have HOD := hide (own_keep HOC.out (keep_bel hB (by omega)))
    have HPD := hide (own_keep HPC.out (keep_bel hB (by omega)))
    have hszD : w9.heap.size ≤ wD.heap.size := by have := hB.size; omega
    have hmD := OD.lt
    clear hD hB OC ORC HDC HBC HOC HPC hszC hwC
    by_cases h4 : v = 4
    · subst h4
      go_wp2_with fail
      refine region_D (by kernel_rfl) wD.drew.heap.size b [5] ?_
      replace OD : Obl wD.drew m 41 (oc { Ob.zero with id := id, kind := 7, e0 := r, e1 := x, q0 := ⟨A, n, c⟩, q1 := ⟨A2, n2, c2⟩ }) := OD
      replace ORD : Obl wD.drew W.heap.size 41 (oc Ob.zero) := ORD
      replace HDD : Hid (Dice wD.drew C b) := HDD
      replace HBD : Hid (Bel W.heap.size b W wD.drew) := hide ⟨HBD.out.os, HBD.out.tape, HBD.out.output, HBD.out.size, HBD.out.block⟩
      replace HOD : Hid (wD.drew.ownsRow w9.heap.size 5 1 (.slice A n c) n (bv D)) := HOD
      replace HPD : Hid (wD.drew.ownsRow w9.heap.size 5 1 (.slice A2 n2 c2) n2 (bv D2)) := HPD
      replace hszD : w9.heap.size ≤ wD.drew.heap.size := hszD
      generalize wD.drew = u0 at *
      refine takeDX 0 rfl (by kernel_rfl) (fun _ _ _ h => h) (by rfl) (by intro w'; go_simp; try with_reducible rfl) ?_
      refine takeDX 3 rfl (by kernel_rfl) (fun _ _ _ h => h) (by rfl) (by intro w'; go_simp; try with_reducible rfl) ?_
      refine twoD 1 2 rfl rfl (by kernel_rfl) (by rfl) (by rfl) ?_ ?_
      · intro K hK
        go_simp
        refine (next_dice C b 2 _ HDD.out (by omega) (by omega)).mono ?_
        rintro e u1 ⟨q, rfl, hq, hD, hB⟩
        have O1 := hB.obl' OD (by omega)
        have OR1 := hB.obl' ORD (by omega)
        have HD1 := hide hD
        have HB1 := hide (HBD.out.trans (hB.mono HBD.out.size))
        have HO1 := hide (own_keep HOD.out (keep_bel hB (by omega)))
        have HP1 := hide (own_keep HPD.out (keep_bel hB (by omega)))
        have hs1 : w9.heap.size ≤ u1.heap.size := by have := hB.size; omega
        have hs2 : u0.heap.size ≤ u1.heap.size := hB.size
        refine hK _ _ (fun _ => hB) ?_
        clear hK K hD hB OD ORD HDD HBD HOD HPD
        refine onlyD 2 rfl (by kernel_rfl) (by rfl) ?_
        intro K hK
        refine wp_make64 _ _ rfl rfl rfl w9.heap.size hs1 ?_
        intro A6 u2 hown6 hb6
        refine hK _ _ (fun _ => Bel.of (hb6.mono hs2)) ?_
        clear hK K
        have O2 := O1.below hb6 O1.lt
        have OR2 := OR1.below hb6 OR1.lt
        have HD2 := hide (HD1.out.below hb6)
        have HB2 := hide (HB1.out.trans (Bel.of (b := b) (hb6.mono HB1.out.size)))
        have HO2 := hide (own_keep HO1.out (keep_below hb6))
        have HP2 := hide (own_keep HP1.out (keep_below hb6))
        have HQ2 := hide hown6
        have hq' := hide hq
        clear hown6 hb6 O1 OR1 HD1 HB1 HO1 HP1 hs1 hs2 hq
        rcases (show q = 0 ∨ q = 1 by have := hq'.out; omega) with rfl | rfl
        · have z2 := O2.free 30
          have kq : u2.cell? ⟨m, 30, none⟩ = some (.slice A n c) := O2.cell 30
          have O3 : Obl (u2.setCell ⟨m, 30, none⟩ (.slice A6 64 64)) m 41 (oc { Ob.zero with id := id, kind := 7, e0 := r, e1 := x, q0 := ⟨A6, 64, 64⟩, q1 := ⟨A2, n2, c2⟩ }) := O2.put 30 _
          have OR3 := OR2.put_other (b' := m) (by omega) 30 (.slice A6 64 64)
          have HD3 := hide (HD2.out.put_other (g := m) (by omega) (by omega) 30 (.slice A6 64 64))
          have HB3 := hide (HB2.out.setGe (g := m) (by omega) 30 (.slice A6 64 64))
          have HP3 := hide (own_keep HP2.out (keep_put (m := m) (by omega) 30 (.slice A6 64 64)))
          have HQ3 := hide (HQ2.out.imp fun _ h => own_keep h (keep_put (m := m) (by omega) 30 (.slice A6 64 64)))
          clear O2 OR2 HD2 HB2 HO2 HP2 HQ2
          refine onlyD 4 rfl (by kernel_rfl) (by rfl) ?_
          intro K hK
          go_simp
          refine hK _ _ (fun _ => Bel.refl _ _ _) ?_
          clear hK K
          refine onlyD 5 rfl (by kernel_rfl) (by rfl) ?_
          intro K hK
          go_simp
          refine hK _ _ (fun h => by cases h) ?_
          clear hK K
          refine doneD (by kernel_rfl) ?_
          clear z2 kq
          generalize u2.setCell ⟨m, 30, none⟩ (.slice A6 64 64) = u3 at *
          go_simp
          go_wp2_with (first | (refine load_ob rfl _ rfl rfl O3 ?_) | (refine store_ob rfl _ _ rfl rfl (c := { Ob.zero with id := id, kind := 7, e0 := r, e1 := x, q0 := ⟨A6, 64, 64⟩, q1 := ⟨A2, n2, c2⟩ }) rfl OR3 rfl ?_) | fail)
          refine bodyPost_ret (ret_ob rfl _ rfl (OR3.row_same _)) rfl ?_
          exact thrown_own (base := w9.heap.size) ⟨⟨[], own_nil⟩, ⟨[], own_nil⟩, ⟨[], own_nil⟩, HQ3.out, ⟨D2, HP3.out⟩, ⟨[], ⟨own_nil, by simp⟩, by simp⟩, noProc_zero, by have h1 := HRR.out; have h2 := HX.out; have h3 := HN1.out; have h4 := HN2.out; simp [Ob.Fit, Ob.Small, Ob.zero]; omega⟩ (by omega) HD3.out HB3.out hbl hCb
        · have z2 := O2.free 31
          have kq : u2.cell? ⟨m, 31, none⟩ = some (.slice A2 n2 c2) := O2.cell 31
          have O3 : Obl (u2.setCell ⟨m, 31, none⟩ (.slice A6 64 64)) m 41 (oc { Ob.zero with id := id, kind := 7, e0 := r, e1 := x, q0 := ⟨A, n, c⟩, q1 := ⟨A6, 64, 64⟩ }) := O2.put 31 _
          have OR3 := OR2.put_other (b' := m) (by omega) 31 (.slice A6 64 64)
          have HD3 := hide (HD2.out.put_other (g := m) (by omega) (by omega) 31 (.slice A6 64 64))
          have HB3 := hide (HB2.out.setGe (g := m) (by omega) 31 (.slice A6 64 64))
          have HP3 := hide (own_keep HO2.out (keep_put (m := m) (by omega) 31 (.slice A6 64 64)))
          have HQ3 := hide (HQ2.out.imp fun _ h => own_keep h (keep_put (m := m) (by omega) 31 (.slice A6 64 64)))
          clear O2 OR2 HD2 HB2 HO2 HP2 HQ2
          refine onlyD 4 rfl (by kernel_rfl) (by rfl) ?_
          intro K hK
          go_simp
          refine hK _ _ (fun _ => Bel.refl _ _ _) ?_
          clear hK K
          refine onlyD 5 rfl (by kernel_rfl) (by rfl) ?_
          intro K hK
          go_simp
          refine hK _ _ (fun h => by cases h) ?_
          clear hK K
          refine doneD (by kernel_rfl) ?_
          clear z2 kq
          generalize u2.setCell ⟨m, 31, none⟩ (.slice A6 64 64) = u3 at *
          go_simp
          go_wp2_with (first | (refine load_ob rfl _ rfl rfl O3 ?_) | (refine store_ob rfl _ _ rfl rfl (c := { Ob.zero with id := id, kind := 7, e0 := r, e1 := x, q0 := ⟨A, n, c⟩, q1 := ⟨A6, 64, 64⟩ }) rfl OR3 rfl ?_) | fail)
          refine bodyPost_ret (ret_ob rfl _ rfl (OR3.row_same _)) rfl ?_
          exact thrown_own (base := w9.heap.size) ⟨⟨[], own_nil⟩, ⟨[], own_nil⟩, ⟨[], own_nil⟩, ⟨D, HP3.out⟩, HQ3.out, ⟨[], ⟨own_nil, by simp⟩, by simp⟩, noProc_zero, by have h1 := HRR.out; have h2 := HX.out; have h3 := HN1.out; have h4 := HN2.out; simp [Ob.Fit, Ob.Small, Ob.zero]; omega⟩ (by omega) HD3.out HB3.out hbl hCb
      · intro K hK
        refine wp_make64 _ _ rfl rfl rfl w9.heap.size hszD ?_
        intro A6 u1 hown6 hb6
        have O1 := OD.below hb6 OD.lt
        have OR1 := ORD.below hb6 ORD.lt
        have HD1 := hide (HDD.out.below hb6)
        have HB1 := hide (HBD.out.trans (Bel.of (b := b) (hb6.mono HBD.out.size)))
        have HO1 := hide (own_keep HOD.out (keep_below hb6))
        have HP1 := hide (own_keep HPD.out (keep_below hb6))
        have HQ1 := hide hown6
        have hs2 : u0.heap.size ≤ u1.heap.size := hb6.size
        refine hK _ _ (fun _ => Bel.of hb6) ?_
        clear hK K hown6 hb6 OD ORD HDD HBD HOD HPD
        refine onlyD 1 rfl (by kernel_rfl) (by rfl) ?_
        intro K hK
        go_simp
        refine (next_dice C b 2 _ HD1.out (by omega) (by omega)).mono ?_
        rintro e u2 ⟨q, rfl, hq, hD, hB⟩
        have O2 := hB.obl' O1 (by omega)
        have OR2 := hB.obl' OR1 (by omega)
        have HD2 := hide hD
        have HB2 := hide (HB1.out.trans (hB.mono HB1.out.size))
        have HO2 := hide (own_keep HO1.out (keep_bel hB (by omega)))
        have HP2 := hide (own_keep HP1.out (keep_bel hB (by omega)))
        have HQ2 := hide (HQ1.out.imp fun _ h => own_keep h (keep_bel hB (by omega)))
        refine hK _ _ (fun _ => hB.mono hs2) ?_
        clear hK K hD hB O1 OR1 HD1 HB1 HO1 HP1 HQ1 hs2
        have hq' := hide hq
        clear hq
        rcases (show q = 0 ∨ q = 1 by have := hq'.out; omega) with rfl | rfl
        · have z2 := O2.free 30
          have kq : u2.cell? ⟨m, 30, none⟩ = some (.slice A n c) := O2.cell 30
          have O3 : Obl (u2.setCell ⟨m, 30, none⟩ (.slice A6 64 64)) m 41 (oc { Ob.zero with id := id, kind := 7, e0 := r, e1 := x, q0 := ⟨A6, 64, 64⟩, q1 := ⟨A2, n2, c2⟩ }) := O2.put 30 _
          have OR3 := OR2.put_other (b' := m) (by omega) 30 (.slice A6 64 64)
          have HD3 := hide (HD2.out.put_other (g := m) (by omega) (by omega) 30 (.slice A6 64 64))
          have HB3 := hide (HB2.out.setGe (g := m) (by omega) 30 (.slice A6 64 64))
          have HP3 := hide (own_keep HP2.out (keep_put (m := m) (by omega) 30 (.slice A6 64 64)))
          have HQ3 := hide (HQ2.out.imp fun _ h => own_keep h (keep_put (m := m) (by omega) 30 (.slice A6 64 64)))
          clear O2 OR2 HD2 HB2 HO2 HP2 HQ2
          refine onlyD 4 rfl (by kernel_rfl) (by rfl) ?_
          intro K hK
          go_simp
          refine hK _ _ (fun _ => Bel.refl _ _ _) ?_
          clear hK K
          refine onlyD 5 rfl (by kernel_rfl) (by rfl) ?_
          intro K hK
          go_simp
          refine hK _ _ (fun h => by cases h) ?_
          clear hK K
          refine doneD (by kernel_rfl) ?_
          clear z2 kq
          generalize u2.setCell ⟨m, 30, none⟩ (.slice A6 64 64) = u3 at *
          go_simp
          go_wp2_with (first | (refine load_ob rfl _ rfl rfl O3 ?_) | (refine store_ob rfl _ _ rfl rfl (c := { Ob.zero with id := id, kind := 7, e0 := r, e1 := x, q0 := ⟨A6, 64, 64⟩, q1 := ⟨A2, n2, c2⟩ }) rfl OR3 rfl ?_) | fail)
          refine bodyPost_ret (ret_ob rfl _ rfl (OR3.row_same _)) rfl ?_
          exact thrown_own (base := w9.heap.size) ⟨⟨[], own_nil⟩, ⟨[], own_nil⟩, ⟨[], own_nil⟩, HQ3.out, ⟨D2, HP3.out⟩, ⟨[], ⟨own_nil, by simp⟩, by simp⟩, noProc_zero, by have h1 := HRR.out; have h2 := HX.out; have h3 := HN1.out; have h4 := HN2.out; simp [Ob.Fit, Ob.Small, Ob.zero]; omega⟩ (by omega) HD3.out HB3.out hbl hCb
        · have z2 := O2.free 31
          have kq : u2.cell? ⟨m, 31, none⟩ = some (.slice A2 n2 c2) := O2.cell 31
          have O3 : Obl (u2.setCell ⟨m, 31, none⟩ (.slice A6 64 64)) m 41 (oc { Ob.zero with id := id, kind := 7, e0 := r, e1 := x, q0 := ⟨A, n, c⟩, q1 := ⟨A6, 64, 64⟩ }) := O2.put 31 _
          have OR3 := OR2.put_other (b' := m) (by omega) 31 (.slice A6 64 64)
          have HD3 := hide (HD2.out.put_other (g := m) (by omega) (by omega) 31 (.slice A6 64 64))
          have HB3 := hide (HB2.out.setGe (g := m) (by omega) 31 (.slice A6 64 64))
          have HP3 := hide (own_keep HO2.out (keep_put (m := m) (by omega) 31 (.slice A6 64 64)))
          have HQ3 := hide (HQ2.out.imp fun _ h => own_keep h (keep_put (m := m) (by omega) 31 (.slice A6 64 64)))
          clear O2 OR2 HD2 HB2 HO2 HP2 HQ2
          refine onlyD 4 rfl (by kernel_rfl) (by rfl) ?_
          intro K hK
          go_simp
          refine hK _ _ (fun _ => Bel.refl _ _ _) ?_
          clear hK K
          refine onlyD 5 rfl (by kernel_rfl) (by rfl) ?_
          intro K hK
          go_simp
          refine hK _ _ (fun h => by cases h) ?_
          clear hK K
          refine doneD (by kernel_rfl) ?_
          clear z2 kq
          generalize u2.setCell ⟨m, 31, none⟩ (.slice A6 64 64) = u3 at *
          go_simp
          go_wp2_with (first | (refine load_ob rfl _ rfl rfl O3 ?_) | (refine store_ob rfl _ _ rfl rfl (c := { Ob.zero with id := id, kind := 7, e0 := r, e1 := x, q0 := ⟨A, n, c⟩, q1 := ⟨A6, 64, 64⟩ }) rfl OR3 rfl ?_) | fail)
          refine bodyPost_ret (ret_ob rfl _ rfl (OR3.row_same _)) rfl ?_
          exact thrown_own (base := w9.heap.size) ⟨⟨[], own_nil⟩, ⟨[], own_nil⟩, ⟨[], own_nil⟩, ⟨D, HP3.out⟩, HQ3.out, ⟨[], ⟨own_nil, by simp⟩, by simp⟩, noProc_zero, by have h1 := HRR.out; have h2 := HX.out; have h3 := HN1.out; have h4 := HN2.out; simp [Ob.Fit, Ob.Small, Ob.zero]; omega⟩ (by omega) HD3.out HB3.out hbl hCb
    · have e4 : (v == 4) = false := by simpa using h4
      go_wp2_with (first | (refine load_ob rfl _ rfl rfl OD ?_) | (refine store_ob rfl _ _ rfl rfl (c := { Ob.zero with id := id, kind := 7, e0 := r, e1 := x, q0 := ⟨A, n, c⟩, q1 := ⟨A2, n2, c2⟩ }) rfl ORD rfl ?_) | fail)
      refine bodyPost_ret (ret_ob rfl _ rfl (ORD.row_same _)) rfl ?_
      exact thrown_own (base := w9.heap.size) ⟨⟨[], own_nil⟩, ⟨[], own_nil⟩, ⟨[], own_nil⟩, ⟨D, HOD.out⟩, ⟨D2, HPD.out⟩, ⟨[], ⟨own_nil, by simp⟩, by simp⟩, noProc_zero, by have h1 := HRR.out; have h2 := HX.out; have h3 := HN1.out; have h4 := HN2.out; simp [Ob.Fit, Ob.Small, Ob.zero]; omega⟩ (by omega) HDD.out HBD.out hbl hCb
end Go.Proofs.Ytddbohnappogkaa
