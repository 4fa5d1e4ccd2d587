/- Made objects: semaphores, devices, pipes: contracts. -/
import Derived.Test.YtcgiobffobonpaaObKinds
namespace Go.Proofs.Ytcgiobffobonpaa
open Go.RowKit

theorem wp_store_ob {o : Oper} {a : Act} {w : World} {Q : Exit → Act → World → Prop} {K : Act → World → Prop} {x y : Operand} (ho : o.op = .store 41 x y) {g : Nat} (hx : a.eval x = .pointer (some ⟨g, 0, none⟩)) {c : Ob} (hy : a.eval y = .agg (oc c)) {old : Array Value} {t : TypeId} (h : Obl w g t old) (hold : old.size = 36)
    (hK : K (a.put o.dst undef) (w.setRow g (oc c))) : o.wp Try.prog a w K Q := wp_store_row _ x y ho g (oc c) hx hy t old h obSize hold (oc_one c) hK
/-- An object without lists, and an error. -/
def NonePost (w : World) (e : Ending) (w' : World) : Prop := ∃ o r, e = .returned (.tuple #[.agg (oc o), .int .i64 r]) ∧ o.NoLists ∧ Below w.heap.size w w'
set_option maxRecDepth 100000 in
set_option maxHeartbeats 4000000 in
theorem semNew (id n : Int) (hn : 0 ≤ n ∧ n ≤ 3) (W : World) : Calls Try.prog 33 #[.int .u64 id, .int .i64 n] W (NonePost W) := by
  obtain ⟨w1, hw, O, hb, hs⟩ := start_z W
  have HB := hide hb
  obtain ⟨h0, h1⟩ := hn
  clear hb
  by_cases hi : id = 0
  · subst hi
    go_enter Try.func33, Try.ntmps33
    go_wp2_with (first | (refine store_ob rfl _ _ rfl rfl (c := Ob.zero) rfl O rfl ?_) | fail)
    refine bodyPost_ret (ret_ob2 rfl _ rfl (O.row_same _)) rfl ?_
    exact ⟨Ob.zero, 1, rfl, ⟨⟨rfl, rfl, rfl, rfl, rfl, rfl⟩, noProc_zero⟩, below_row HB.out (Nat.le_refl _) _⟩
  · have hi2 : (id == 0) = false := by simpa using hi
    go_enter Try.func33, Try.ntmps33
    go_wp2_with (first | (refine store_ob rfl _ _ rfl rfl (c := { Ob.zero with id := id, kind := 8, count := n }) rfl O rfl ?_) | fail)
    refine bodyPost_ret (ret_ob2 rfl _ rfl (O.row_same _)) rfl ?_
    exact ⟨{ Ob.zero with id := id, kind := 8, count := n }, 0, rfl, ⟨⟨rfl, rfl, rfl, rfl, rfl, rfl⟩, noProc_zero⟩, below_row HB.out (Nat.le_refl _) _⟩

/-- Some answer. -/
def SomeBool (w : World) (e : Ending) (w' : World) : Prop := ∃ v, e = .returned (.bool v) ∧ Below w.heap.size w w'
set_option maxRecDepth 100000 in
set_option maxHeartbeats 4000000 in
theorem devValid (id : Int) (W : World) : Calls Try.prog 49 #[.agg (oc { Ob.zero with id := id, kind := 9 })] W (SomeBool W) := by
  obtain ⟨w1, hw, O, hb⟩ : ∃ w1, W.alloc (.cells (oc { Ob.zero with id := id, kind := 9 }) 41) = w1 ∧ Obl w1 W.heap.size 41 (oc { Ob.zero with id := id, kind := 9 }) ∧ Below W.heap.size W w1 := ⟨_, rfl, Obl.make W _ _, (Below.refl _ _).alloc (Nat.le_refl _) _⟩
  have k0 : w1.cell? ⟨W.heap.size, 0, none⟩ = some (.int .u64 id) := O.cell 0
  have k1 : w1.cell? ⟨W.heap.size, 1, none⟩ = some (.int .i64 9) := O.cell 1
  have k34 : w1.cell? ⟨W.heap.size, 34, none⟩ = some (.int .i64 0) := O.cell 34
  have z34 := O.free 34
  have O2 : Obl (w1.setCell ⟨W.heap.size, 34, none⟩ (.int .i64 0)) W.heap.size 41 (oc { Ob.zero with id := id, kind := 9 }) := O.put 34 _
  have HB := hide (hb.setCell (p := ⟨W.heap.size, 34, none⟩) (Nat.le_refl _) (.int .i64 0))
  have hl := O.lt
  obtain ⟨w2, hw2⟩ : ∃ w2, w1.setCell ⟨W.heap.size, 34, none⟩ (.int .i64 0) = w2 := ⟨_, rfl⟩
  rw [hw2] at O2 HB
  clear hb O
  by_cases hi : id = 0
  · subst hi
    go_enter Try.func49, Try.ntmps49
    go_wp2_with fail
    go_ret
    exact ⟨false, rfl, HB.out⟩
  · have hi2 : (id != 0) = true := by simpa using hi
    have hi3 : (id == 0) = false := by simpa using hi
    go_enter Try.func49, Try.ntmps49
    go_wp2_with (first | (refine wpList_val (by rfl) (exec_load_ob rfl rfl O2) ?_) | (go_at_call 43; refine (bare_any { Ob.zero with id := id, kind := 9 } _).mono ?_; rintro e u3 ⟨rfl, g3⟩; rw [show decide (Ob.Clear { Ob.zero with id := id, kind := 9 }) = true from decide_eq_true ⟨rfl, Ob.zero_bare⟩]) | fail)
    go_ret
    exact ⟨true, rfl, HB.out.trans (g3.mono HB.out.size)⟩
/-- A number, an object without lists, and an error. -/
def DoPost (w : World) (e : Ending) (w' : World) : Prop := ∃ n o r, e = .returned (.tuple #[.int .i64 n, .agg (oc o), .int .i64 r]) ∧ o.NoLists ∧ Below w.heap.size w w'
set_option maxRecDepth 100000 in
set_option maxHeartbeats 4000000 in
theorem devDo (id v : Int) (hv : -1 ≤ v ∧ v ≤ 200) (W : World) : Calls Try.prog 34 #[.agg (oc { Ob.zero with id := id, kind := 9 }), .int .i64 v] W (DoPost W) := by
  obtain ⟨w1, hw, O, OR, hb, hs⟩ := start_oz W { Ob.zero with id := id, kind := 9 }
  have HB := hide hb
  obtain ⟨hv0, hv1⟩ := hv
  clear hb
  go_enter Try.func34, Try.ntmps34
  go_wp2_with (first | (refine load_ob rfl _ rfl rfl O ?_) | fail)
  refine (devValid id _).mono ?_
  rintro e w2 ⟨bv, rfl, hb2⟩
  have O2 := O.below hb2 O.lt
  have OR2 := OR.below hb2 OR.lt
  have HB2 := hide (HB.out.trans (hb2.mono HB.out.size))
  clear hb2 HB O OR hw hs
  cases bv with
  | false =>
    go_wp2_with (first | (refine store_ob rfl _ _ rfl rfl (c := Ob.zero) rfl OR2 rfl ?_) | fail)
    refine bodyPost_ret (results_tcell_3 rfl _ (b := W.heap.size + 1) rfl (OR2.row_same (oc Ob.zero)) Try.underlying41 rfl obSize) rfl ?_
    exact ⟨0, Ob.zero, 1, rfl, ⟨⟨rfl, rfl, rfl, rfl, rfl, rfl⟩, noProc_zero⟩, below_row HB2.out (by omega) _⟩
  | true =>
    have k34 : w2.cell? ⟨W.heap.size, 34, none⟩ = some (.int .i64 0) := O2.cell 34
    have z34 := O2.free 34
    have O3 : Obl (w2.setCell ⟨W.heap.size, 34, none⟩ (.int .i64 v)) W.heap.size 41 (oc { Ob.zero with id := id, kind := 9, count := v }) := O2.put 34 _
    have OR3 := OR2.put_other (b' := W.heap.size) (by omega) 34 (.int .i64 v)
    have HB3 := hide (HB2.out.setCell (p := ⟨W.heap.size, 34, none⟩) (Nat.le_refl _) (.int .i64 v))
    obtain ⟨w3, hw3⟩ : ∃ w3, w2.setCell ⟨W.heap.size, 34, none⟩ (.int .i64 v) = w3 := ⟨_, rfl⟩
    rw [hw3] at O3 OR3 HB3
    clear O2 OR2 HB2
    go_wp2_with fail
    refine region_D (by kernel_rfl) (W.heap.size + 1) (W.heap.size + 1) [3] ?_
    have hu : ∃ u, w3.drew = u ∧ Obl u W.heap.size 41 (oc { Ob.zero with id := id, kind := 9, count := v }) ∧ Obl u (W.heap.size + 1) 41 (oc Ob.zero) ∧ Hid (Below W.heap.size W u) := ⟨_, rfl, O3, OR3, hide ⟨HB3.out.os, HB3.out.tape, HB3.out.output, HB3.out.size, HB3.out.block⟩⟩
    obtain ⟨u, hu, O4, OR4, HB4⟩ := hu
    rw [hu]
    clear hu O3 OR3 HB3 hw3 k34 z34
    refine takeDX 0 rfl (by kernel_rfl) (fun _ _ _ h => h) (by rfl) (by intro w'; go_simp; try with_reducible rfl) ?_
    refine takeD 1 [1, 3, 4] rfl (by kernel_rfl) (fun _ _ _ h => h) (by rfl) (by intro w' hg; exact exec_load_ob rfl rfl (hg.obl O4 (by omega) (by omega))) ?_
    refine takeDX 2 rfl (by kernel_rfl) (fun _ _ _ h => h) (by rfl) (by intro w'; go_simp; try with_reducible rfl) ?_
    refine onlyD 3 rfl (by kernel_rfl) (by rfl) ?_
    intro K hK
    refine wp_store_ob rfl rfl (c := { Ob.zero with id := id, kind := 9, count := v }) rfl OR4 rfl ?_
    refine hK _ _ (fun h => by cases h) ?_
    clear hK K
    have OF := OR4.row_same (oc { Ob.zero with id := id, kind := 9, count := v })
    have HBF := hide (below_row HB4.out (g := W.heap.size + 1) (by omega) (oc { Ob.zero with id := id, kind := 9, count := v }))
    refine takeDX 4 rfl (by kernel_rfl) (fun _ _ _ h => h) (by rfl) (by intro w'; go_simp; try with_reducible rfl) ?_
    refine doneD (by kernel_rfl) ?_
    generalize u.setRow (W.heap.size + 1) (oc { Ob.zero with id := id, kind := 9, count := v }) = u5 at *
    go_simp
    go_wp2_with fail
    refine bodyPost_ret (results_tcell_3 rfl _ (b := W.heap.size + 1) rfl OF Try.underlying41 rfl obSize) rfl ?_
    exact ⟨0, { Ob.zero with id := id, kind := 9, count := v }, 0, rfl, ⟨⟨rfl, rfl, rfl, rfl, rfl, rfl⟩, noProc_zero⟩, HBF.out⟩
end Go.Proofs.Ytcgiobffobonpaa
