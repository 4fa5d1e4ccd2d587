/- clusterkernelsame on objects that have nothing but words: they are the same. -/
import Derived.Test.YthaolmcppfjedaaOb
namespace Go.Proofs.Ythaolmcppfjedaa
open Go.RowKit

set_option maxRecDepth 100000 in
set_option maxHeartbeats 4000000 in
theorem ids_none (A D : Option Addr) (c d : Nat) (W : World) : Calls Try.prog 18 #[.slice A 0 c, .slice D 0 d] W fun e w' => e = .returned (.bool true) ∧ w' = W := by
  go_enter Try.func18, Try.ntmps18
  go_wp2_with fail
  go_loop [13] (fun s => s = .int .i64 0) (fun _ => 0)
  case atStart => rfl
  case round =>
    subst hrel
    go_wp2
    go_ret
    simp
set_option maxRecDepth 100000 in
set_option maxHeartbeats 4000000 in
theorem texts_none (A D : Option Addr) (c d : Nat) (W : World) : Calls Try.prog 19 #[.slice A 0 c, .slice D 0 d] W fun e w' => e = .returned (.bool true) ∧ w' = W := by
  go_enter Try.func19, Try.ntmps19
  go_wp2_with fail
  go_loop [13] (fun s => s = .int .i64 0) (fun _ => 0)
  case atStart => rfl
  case round =>
    subst hrel
    go_wp2
    go_ret
    simp

/-- Where a function begins that copies two blocks. -/
theorem start_two (W : World) (t : TypeId) (x y : Array Value) : ∃ w1, (W.alloc (.cells x t)).alloc (.cells y t) = w1 ∧ Obl w1 W.heap.size t x ∧ Obl w1 (W.heap.size + 1) t y ∧ Below W.heap.size W w1 := by
  refine ⟨_, rfl, (Obl.make W t x).alloc _, ?_, ((Below.refl _ _).alloc (Nat.le_refl _) _).alloc (by simp) _⟩
  have := Obl.make (W.alloc (.cells x t)) t y
  rwa [World.size_alloc] at this

set_option maxRecDepth 100000 in
set_option maxHeartbeats 8000000 in
theorem sameProc_none (a b : Ob) (ha : a.NoProc) (hb : b.NoProc) (W : World) : Calls Try.prog 12 #[.agg (pcell a), .agg (pcell b)] W (BoolPost true W) := by
  obtain ⟨w1, hw, OA, OB, hbel⟩ := start_two W 34 (pcell a) (pcell b)
  have HB := hide hbel
  obtain ⟨a0, a1, a2, ⟨a3, a4, a5⟩, a6, a7, a8, a9, a10, a11⟩ := ha
  obtain ⟨b0, b1, b2, ⟨b3, b4, b5⟩, b6, b7, b8, b9, b10, b11⟩ := hb
  have k0 : w1.cell? ⟨W.heap.size, 0, none⟩ = some (.int .i64 0) := (OA.cell 0).trans (by show some (Value.int .i64 a.state) = _; rw [a0])
  have k1 : w1.cell? ⟨W.heap.size, 1, none⟩ = some (.int .u64 0) := (OA.cell 1).trans (by show some (Value.int .u64 a.parent) = _; rw [a1])
  have k2 : w1.cell? ⟨W.heap.size, 2, none⟩ = some (.slice a.children.A 0 a.children.c) := (OA.cell 2).trans (by show some (Value.slice a.children.A a.children.n a.children.c) = _; rw [a2])
  have k3 : w1.cell? ⟨W.heap.size, 3, none⟩ = some (.slice a.code.A 0 a.code.c) := (OA.cell 3).trans (by show some (Value.slice a.code.A a.code.n a.code.c) = _; rw [a3])
  have k4 : w1.cell? ⟨W.heap.size, 4, none⟩ = some (.slice a.strs.A 0 a.strs.c) := (OA.cell 4).trans (by show some (Value.slice a.strs.A a.strs.n a.strs.c) = _; rw [a4])
  have k5 : w1.cell? ⟨W.heap.size, 5, none⟩ = some (.int .i64 0) := (OA.cell 5).trans (by show some (Value.int .i64 a.ppages) = _; rw [a5])
  have k15 : w1.cell? ⟨W.heap.size, 15, none⟩ = some (.slice a.pages.A 0 a.pages.c) := (OA.cell 15).trans (by show some (Value.slice a.pages.A a.pages.n a.pages.c) = _; rw [a7])
  have k16 : w1.cell? ⟨W.heap.size, 16, none⟩ = some (.slice a.table.A 0 a.table.c) := (OA.cell 16).trans (by show some (Value.slice a.table.A a.table.n a.table.c) = _; rw [a8])
  have k17 : w1.cell? ⟨W.heap.size, 17, none⟩ = some (.int .i64 0) := (OA.cell 17).trans (by show some (Value.int .i64 a.pending) = _; rw [a9])
  have k18 : w1.cell? ⟨W.heap.size, 18, none⟩ = some (.int .i64 0) := (OA.cell 18).trans (by show some (Value.int .i64 a.alarm) = _; rw [a10])
  have k19 : w1.cell? ⟨W.heap.size, 19, none⟩ = some (.int .i64 0) := (OA.cell 19).trans (by show some (Value.int .i64 a.status) = _; rw [a11])
  have m0 : w1.cell? ⟨W.heap.size + 1, 0, none⟩ = some (.int .i64 0) := (OB.cell 0).trans (by show some (Value.int .i64 b.state) = _; rw [b0])
  have m1 : w1.cell? ⟨W.heap.size + 1, 1, none⟩ = some (.int .u64 0) := (OB.cell 1).trans (by show some (Value.int .u64 b.parent) = _; rw [b1])
  have m2 : w1.cell? ⟨W.heap.size + 1, 2, none⟩ = some (.slice b.children.A 0 b.children.c) := (OB.cell 2).trans (by show some (Value.slice b.children.A b.children.n b.children.c) = _; rw [b2])
  have m3 : w1.cell? ⟨W.heap.size + 1, 3, none⟩ = some (.slice b.code.A 0 b.code.c) := (OB.cell 3).trans (by show some (Value.slice b.code.A b.code.n b.code.c) = _; rw [b3])
  have m4 : w1.cell? ⟨W.heap.size + 1, 4, none⟩ = some (.slice b.strs.A 0 b.strs.c) := (OB.cell 4).trans (by show some (Value.slice b.strs.A b.strs.n b.strs.c) = _; rw [b4])
  have m5 : w1.cell? ⟨W.heap.size + 1, 5, none⟩ = some (.int .i64 0) := (OB.cell 5).trans (by show some (Value.int .i64 b.ppages) = _; rw [b5])
  have m15 : w1.cell? ⟨W.heap.size + 1, 15, none⟩ = some (.slice b.pages.A 0 b.pages.c) := (OB.cell 15).trans (by show some (Value.slice b.pages.A b.pages.n b.pages.c) = _; rw [b7])
  have m16 : w1.cell? ⟨W.heap.size + 1, 16, none⟩ = some (.slice b.table.A 0 b.table.c) := (OB.cell 16).trans (by show some (Value.slice b.table.A b.table.n b.table.c) = _; rw [b8])
  have m17 : w1.cell? ⟨W.heap.size + 1, 17, none⟩ = some (.int .i64 0) := (OB.cell 17).trans (by show some (Value.int .i64 b.pending) = _; rw [b9])
  have m18 : w1.cell? ⟨W.heap.size + 1, 18, none⟩ = some (.int .i64 0) := (OB.cell 18).trans (by show some (Value.int .i64 b.alarm) = _; rw [b10])
  have m19 : w1.cell? ⟨W.heap.size + 1, 19, none⟩ = some (.int .i64 0) := (OB.cell 19).trans (by show some (Value.int .i64 b.status) = _; rw [b11])
  have HC : Hid (decide (a.cpu = b.cpu) = true) := hide (decide_eq_true (a6.trans b6.symm))
  clear hbel a0 a1 a2 a3 a4 a5 a6 a7 a8 a9 a10 a11 b0 b1 b2 b3 b4 b5 b6 b7 b8 b9 b10 b11
  go_enter Try.func12, Try.ntmps12
  dsimp only [List.append]
  go_wp2_with (first | (refine wpList_val (by rfl) (exec_load_pcpu rfl rfl OA) ?_) | (refine wpList_val (by rfl) (exec_load_pcpu rfl rfl OB) ?_) | (refine wpList_val (by rfl) (exec_neq_cpu rfl rfl rfl (x := a.cpu) (y := b.cpu) rfl rfl) ?_; rw [HC.out]) | fail)
  go_loop [90] (fun s => s = .int .i64 0) (fun _ => 0)
  case atStart => rfl
  case round =>
    subst hrel
    go_wp2_with fail
    go_loop [110] (fun s => s = .int .i64 0) (fun _ => 0)
    case atStart => rfl
    case round =>
      subst hrel
      go_wp2_with fail
      go_loop [128] (fun s => s = .int .i64 0) (fun _ => 0)
      case atStart => rfl
      case round =>
        subst hrel
        go_wp2_with (first | (go_at_call 18; refine (ids_none _ _ _ _ _).mono ?_; rintro e w2 ⟨rfl, rfl⟩) | (go_at_call 19; refine (texts_none _ _ _ _ _).mono ?_; rintro e w2 ⟨rfl, rfl⟩) | fail)
        go_ret
        exact ⟨rfl, HB.out⟩

end Go.Proofs.Ythaolmcppfjedaa
