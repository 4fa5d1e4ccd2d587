/- clusterkernelsame on objects that have nothing but words: they are the same. -/
import Derived.Test.YtddbohnappogkaaOb
namespace Go.Proofs.Ytddbohnappogkaa
open Go.RowKit

set_option maxRecDepth 100000 in
set_option maxHeartbeats 4000000 in
theorem ids_none (A D : Option Addr) (c d : Nat) (W : World) : Calls Try.prog 29 #[.slice A 0 c, .slice D 0 d] W fun e w' => e = .returned (.bool true) ∧ w' = W := by
  go_enter Try.func29, Try.ntmps29
  go_wp2_with fail
  go_loop [13] (fun s => s = .int .i64 0) (fun _ => 0)
  case atStart => rfl
  case round =>
    subst hrel
    go_wp2
    go_ret
    simp
set_option maxRecDepth 100000 in
set_option maxHeartbeats 4000000 in
theorem texts_none (A D : Option Addr) (c d : Nat) (W : World) : Calls Try.prog 45 #[.slice A 0 c, .slice D 0 d] W fun e w' => e = .returned (.bool true) ∧ w' = W := by
  go_enter Try.func45, Try.ntmps45
  go_wp2_with fail
  go_loop [13] (fun s => s = .int .i64 0) (fun _ => 0)
  case atStart => rfl
  case round =>
    subst hrel
    go_wp2
    go_ret
    simp

/-- Where a function begins that copies two blocks. -/
theorem start_two (W : World) (t : TypeId) (x y : Array Value) : ∃ w1, (W.alloc (.cells x t)).alloc (.cells y t) = w1 ∧ Obl w1 W.heap.size t x ∧ Obl w1 (W.heap.size + 1) t y ∧ Below W.heap.size W w1 := by
  refine ⟨_, rfl, (Obl.make W t x).alloc _, ?_, ((Below.refl _ _).alloc (Nat.le_refl _) _).alloc (by simp) _⟩
  have := Obl.make (W.alloc (.cells x t)) t y
  rwa [World.size_alloc] at this

set_option maxRecDepth 100000 in
set_option maxHeartbeats 8000000 in
theorem sameProc_none (a b : Ob) (ha : a.NoProc) (hb : b.NoProc) (W : World) : Calls Try.prog 30 #[.agg (pcell a), .agg (pcell b)] W (BoolPost true W) := by
  obtain ⟨w1, hw, OA, OB, hbel⟩ := start_two W 34 (pcell a) (pcell b)
  have HB := hide hbel
  obtain ⟨a0, a1, a2, ⟨a3, a4, a5⟩, a6, a7, a8, a9, a10, a11⟩ := ha
  obtain ⟨b0, b1, b2, ⟨b3, b4, b5⟩, b6, b7, b8, b9, b10, b11⟩ := hb
  have k0 : w1.cell? ⟨W.heap.size, 0, none⟩ = some (.int .i64 0) := (OA.cell 0).trans (by show some (Value.int .i64 a.state) = _; rw [a0])
  have k1 : w1.cell? ⟨W.heap.size, 1, none⟩ = some (.int .u64 0) := (OA.cell 1).trans (by show some (Value.int .u64 a.parent) = _; rw [a1])
  have k2 : w1.cell? ⟨W.heap.size, 2, none⟩ = some (.slice a.children.A 0 a.children.c) := (OA.cell 2).trans (by show some (Value.slice a.children.A a.children.n a.children.c) = _; rw [a2])
  have k3 : w1.cell? ⟨W.heap.size, 3, none⟩ = some (.slice a.code.A 0 a.code.c) := (OA.cell 3).trans (by show some (Value.slice a.code.A a.code.n a.code.c) = _; rw [a3])
  have k4 : w1.cell? ⟨W.heap.size, 4, none⟩ = some (.slice a.strs.A 0 a.strs.c) := (OA.cell 4).trans (by show some (Value.slice a.strs.A a.strs.n a.strs.c) = _; rw [a4])
  have k5 : w1.cell? ⟨W.heap.size, 5, none⟩ = some (.int .i64 0) := (OA.cell 5).trans (by show some (Value.int .i64 a.ppages) = _; rw [a5])
  have k15 : w1.cell? ⟨W.heap.size, 15, none⟩ = some (.slice a.pages.A 0 a.pages.c) := (OA.cell 15).trans (by show some (Value.slice a.pages.A a.pages.n a.pages.c) = _; rw [a7])
  have k16 : w1.cell? ⟨W.heap.size, 16, none⟩ = some (.slice a.table.A 0 a.table.c) := (OA.cell 16).trans (by show some (Value.slice a.table.A a.table.n a.table.c) = _; rw [a8])
  have k17 : w1.cell? ⟨W.heap.size, 17, none⟩ = some (.int .i64 0) := (OA.cell 17).trans (by show some (Value.int .i64 a.pending) = _; rw [a9])
  have k18 : w1.cell? ⟨W.heap.size, 18, none⟩ = some (.int .i64 0) := (OA.cell 18).trans (by show some (Value.int .i64 a.alarm) = _; rw [a10])
  have k19 : w1.cell? ⟨W.heap.size, 19, none⟩ = some (.int .i64 0) := (OA.cell 19).trans (by show some (Value.int .i64 a.status) = _; rw [a11])
  have m0 : w1.cell? ⟨W.heap.size + 1, 0, none⟩ = some (.int .i64 0) := (OB.cell 0).trans (by show some (Value.int .i64 b.state) = _; rw [b0])
  have m1 : w1.cell? ⟨W.heap.size + 1, 1, none⟩ = some (.int .u64 0) := (OB.cell 1).trans (by show some (Value.int .u64 b.parent) = _; rw [b1])
  have m2 : w1.cell? ⟨W.heap.size + 1, 2, none⟩ = some (.slice b.children.A 0 b.children.c) := (OB.cell 2).trans (by show some (Value.slice b.children.A b.children.n b.children.c) = _; rw [b2])
  have m3 : w1.cell? ⟨W.heap.size + 1, 3, none⟩ = some (.slice b.code.A 0 b.code.c) := (OB.cell 3).trans (by show some (Value.slice b.code.A b.code.n b.code.c) = _; rw [b3])
  have m4 : w1.cell? ⟨W.heap.size + 1, 4, none⟩ = some (.slice b.strs.A 0 b.strs.c) := (OB.cell 4).trans (by show some (Value.slice b.strs.A b.strs.n b.strs.c) = _; rw [b4])
  have m5 : w1.cell? ⟨W.heap.size + 1, 5, none⟩ = some (.int .i64 0) := (OB.cell 5).trans (by show some (Value.int .i64 b.ppages) = _; rw [b5])
  have m15 : w1.cell? ⟨W.heap.size + 1, 15, none⟩ = some (.slice b.pages.A 0 b.pages.c) := (OB.cell 15).trans (by show some (Value.slice b.pages.A b.pages.n b.pages.c) = _; rw [b7])
  have m16 : w1.cell? ⟨W.heap.size + 1, 16, none⟩ = some (.slice b.table.A 0 b.table.c) := (OB.cell 16).trans (by show some (Value.slice b.table.A b.table.n b.table.c) = _; rw [b8])
  have m17 : w1.cell? ⟨W.heap.size + 1, 17, none⟩ = some (.int .i64 0) := (OB.cell 17).trans (by show some (Value.int .i64 b.pending) = _; rw [b9])
  have m18 : w1.cell? ⟨W.heap.size + 1, 18, none⟩ = some (.int .i64 0) := (OB.cell 18).trans (by show some (Value.int .i64 b.alarm) = _; rw [b10])
  have m19 : w1.cell? ⟨W.heap.size + 1, 19, none⟩ = some (.int .i64 0) := (OB.cell 19).trans (by show some (Value.int .i64 b.status) = _; rw [b11])
  have HC : Hid (decide (a.cpu = b.cpu) = true) := hide (decide_eq_true (a6.trans b6.symm))
  clear hbel a0 a1 a2 a3 a4 a5 a6 a7 a8 a9 a10 a11 b0 b1 b2 b3 b4 b5 b6 b7 b8 b9 b10 b11
  go_enter Try.func30, Try.ntmps30
  dsimp only [List.append]
  go_wp2_with (first | (refine wpList_val (by rfl) (exec_load_pcpu rfl rfl OA) ?_) | (refine wpList_val (by rfl) (exec_load_pcpu rfl rfl OB) ?_) | (refine wpList_val (by rfl) (exec_neq_cpu rfl rfl rfl (x := a.cpu) (y := b.cpu) rfl rfl) ?_; rw [HC.out]) | fail)
  go_loop [90] (fun s => s = .int .i64 0) (fun _ => 0)
  case atStart => rfl
  case round =>
    subst hrel
    go_wp2_with fail
    go_loop [110] (fun s => s = .int .i64 0) (fun _ => 0)
    case atStart => rfl
    case round =>
      subst hrel
      go_wp2_with fail
      go_loop [128] (fun s => s = .int .i64 0) (fun _ => 0)
      case atStart => rfl
      case round =>
        subst hrel
        go_wp2_with (first | (go_at_call 29; refine (ids_none _ _ _ _ _).mono ?_; rintro e w2 ⟨rfl, rfl⟩) | (go_at_call 45; refine (texts_none _ _ _ _ _).mono ?_; rintro e w2 ⟨rfl, rfl⟩) | fail)
        go_ret
        exact ⟨rfl, HB.out⟩

set_option maxRecDepth 100000 in
set_option maxHeartbeats 8000000 in
theorem same_bare (a b : Ob) (id kd : Int) (L : List Int) (ha : a.Bare) (hb : b.Bare) (hia : a.id = id) (hib : b.id = id) (hka : a.kind = kd) (hkb : b.kind = kd) (W : World) (hA : Nums .i64 W W.heap.size a.words.A a.words.n L) (hB : Nums .i64 W W.heap.size b.words.A b.words.n L) (hN : L.length ≤ 1000) :
    Calls Try.prog 12 #[.agg (oc a), .agg (oc b)] W (BoolPost true W) := by
  obtain ⟨w1, hw, OA, OB, hbel⟩ := start_two W 41 (oc a) (oc b)
  have HL := hide hbel
  have HA := hide ha
  have HB := hide hb
  have HNA := hide hA
  have HNB := hide hB
  have k0 : w1.cell? ⟨W.heap.size, 0, none⟩ = some (.int .u64 id) := (OA.cell 0).trans (by show some (Value.int .u64 a.id) = _; rw [hia])
  have k1 : w1.cell? ⟨W.heap.size, 1, none⟩ = some (.int .i64 kd) := (OA.cell 1).trans (by show some (Value.int .i64 a.kind) = _; rw [hka])
  have k2 : w1.cell? ⟨W.heap.size, 2, none⟩ = some (.int .i64 0) := (OA.cell 2).trans (by show some (Value.int .i64 a.refs) = _; rw [HA.out.1.1])
  have k25 : w1.cell? ⟨W.heap.size, 25, none⟩ = some (.int .i64 0) := (OA.cell 25).trans (by show some (Value.int .i64 a.offset) = _; rw [HA.out.1.2.1])
  have k26 : w1.cell? ⟨W.heap.size, 26, none⟩ = some (.int .u64 0) := (OA.cell 26).trans (by show some (Value.int .u64 a.target) = _; rw [HA.out.1.2.2.1])
  have k27 : w1.cell? ⟨W.heap.size, 27, none⟩ = some (.int .i64 0) := (OA.cell 27).trans (by show some (Value.int .i64 a.readers) = _; rw [HA.out.1.2.2.2.1])
  have k28 : w1.cell? ⟨W.heap.size, 28, none⟩ = some (.int .i64 0) := (OA.cell 28).trans (by show some (Value.int .i64 a.writers) = _; rw [HA.out.1.2.2.2.2.1])
  have k34 : w1.cell? ⟨W.heap.size, 34, none⟩ = some (.int .i64 0) := (OA.cell 34).trans (by show some (Value.int .i64 a.count) = _; rw [HA.out.1.2.2.2.2.2.2])
  have m0 : w1.cell? ⟨W.heap.size + 1, 0, none⟩ = some (.int .u64 id) := (OB.cell 0).trans (by show some (Value.int .u64 b.id) = _; rw [hib])
  have m1 : w1.cell? ⟨W.heap.size + 1, 1, none⟩ = some (.int .i64 kd) := (OB.cell 1).trans (by show some (Value.int .i64 b.kind) = _; rw [hkb])
  have m2 : w1.cell? ⟨W.heap.size + 1, 2, none⟩ = some (.int .i64 0) := (OB.cell 2).trans (by show some (Value.int .i64 b.refs) = _; rw [HB.out.1.1])
  have m25 : w1.cell? ⟨W.heap.size + 1, 25, none⟩ = some (.int .i64 0) := (OB.cell 25).trans (by show some (Value.int .i64 b.offset) = _; rw [HB.out.1.2.1])
  have m26 : w1.cell? ⟨W.heap.size + 1, 26, none⟩ = some (.int .u64 0) := (OB.cell 26).trans (by show some (Value.int .u64 b.target) = _; rw [HB.out.1.2.2.1])
  have m27 : w1.cell? ⟨W.heap.size + 1, 27, none⟩ = some (.int .i64 0) := (OB.cell 27).trans (by show some (Value.int .i64 b.readers) = _; rw [HB.out.1.2.2.2.1])
  have m28 : w1.cell? ⟨W.heap.size + 1, 28, none⟩ = some (.int .i64 0) := (OB.cell 28).trans (by show some (Value.int .i64 b.writers) = _; rw [HB.out.1.2.2.2.2.1])
  have m34 : w1.cell? ⟨W.heap.size + 1, 34, none⟩ = some (.int .i64 0) := (OB.cell 34).trans (by show some (Value.int .i64 b.count) = _; rw [HB.out.1.2.2.2.2.2.2])
  have k35 : w1.cell? ⟨W.heap.size, 35, none⟩ = some (.slice a.names.A 0 a.names.c) := (OA.cell 35).trans (by show some (Value.slice a.names.A a.names.n a.names.c) = _; rw [HA.out.2.1.2.2.1])
  have m35 : w1.cell? ⟨W.heap.size + 1, 35, none⟩ = some (.slice b.names.A 0 b.names.c) := (OB.cell 35).trans (by show some (Value.slice b.names.A b.names.n b.names.c) = _; rw [HB.out.2.1.2.2.1])
  have k23 : w1.cell? ⟨W.heap.size, 23, none⟩ = some (.slice a.words.A L.length a.words.c) := (OA.cell 23).trans (by show some (Value.slice a.words.A a.words.n a.words.c) = _; rw [← HNA.out.1])
  have m23 : w1.cell? ⟨W.heap.size + 1, 23, none⟩ = some (.slice b.words.A L.length b.words.c) := (OB.cell 23).trans (by show some (Value.slice b.words.A b.words.n b.words.c) = _; rw [← HNB.out.1])
  have HE : Hid (decide ([a.e0, a.e1] = [b.e0, b.e1]) = true) := hide (decide_eq_true (ha.1.2.2.2.2.2.1.trans hb.1.2.2.2.2.2.1.symm))
  have hcv : ∀ (A : Option Addr) (c : Nat) (w : World), (convert 36 9 (.slice A 0 c)).run Try.prog w = .ok (.string ⟨#[]⟩) w := fun A c w => run_string_rd (P := Try.prog) w Try.underlying36 Try.underlying5 Try.underlying9 (c := c) (B := 0) (l := []) Bytes.nil
  have hN' : (L.length : Int) ≤ 1000 := by omega
  clear hbel ha hb hA hB hia hib hka hkb
  go_enter Try.func12, Try.ntmps12
  dsimp only [List.append]
  go_wp2_with (first | (refine wpList_val (by rfl) (exec_load_ends rfl rfl OA) ?_) | (refine wpList_val (by rfl) (exec_load_ends rfl rfl OB) ?_) | (refine wpList_val (by rfl) (exec_neq_ends (L := [a.e0, a.e1]) (M := [b.e0, b.e1]) rfl rfl rfl rfl rfl) ?_; rw [HE.out]) | fail)
  go_loopw [89] (fun s wr => ∃ k : Nat, s = .int .i64 (k : Int) ∧ k ≤ L.length ∧ Obl wr W.heap.size 41 (oc a) ∧ Obl wr (W.heap.size + 1) 41 (oc b) ∧ Hid (Below W.heap.size W wr)) (fun s _ => L.length - (intOf s).toNat)
  case atStart => exact ⟨0, rfl, by omega, OA, OB, HL⟩
  case round =>
    clear OA OB HL hw HE
    clear k0 k1 k2 k25 k26 k27 k28 k34 k35 k23 m0 m1 m2 m25 m26 m27 m28 m34 m35 m23
    obtain ⟨k, rfl, hk, OA, OB, HL⟩ := hrel
    by_cases hlt : k < L.length
    · have hlt' : (k : Int) < (L.length : Int) := by omega
      obtain ⟨b1, f1, hl, e1, hb1, c1⟩ := (HNA.out.1 ▸ HNA.out.below HL.out : Nums .i64 wr W.heap.size a.words.A L.length L).at_ hlt
      obtain ⟨b2, f2, _, e2, hb2, c2⟩ := (HNB.out.1 ▸ HNB.out.below HL.out : Nums .i64 wr W.heap.size b.words.A L.length L).at_ hlt
      have k23 : wr.cell? ⟨W.heap.size, 23, none⟩ = some (.slice a.words.A L.length a.words.c) := (OA.cell 23).trans (by show some (Value.slice a.words.A a.words.n a.words.c) = _; rw [← HNA.out.1])
      have m23 : wr.cell? ⟨W.heap.size + 1, 23, none⟩ = some (.slice b.words.A L.length b.words.c) := (OB.cell 23).trans (by show some (Value.slice b.words.A b.words.n b.words.c) = _; rw [← HNB.out.1])
      rw [e1] at k23
      rw [e2] at m23
      generalize L[k] = v at *
      clear e1 e2
      go_wp2_with fail
      go_region
      go_wp2_with fail
      go_roundw
      case rel => exact ⟨k + 1, by go_num, by omega, OA, OB, hide ⟨HL.out.os, HL.out.tape, HL.out.output, HL.out.size, HL.out.block⟩⟩
      case measure => simp [intOf]; omega
    · obtain rfl : k = L.length := by omega
      have k35 : wr.cell? ⟨W.heap.size, 35, none⟩ = some (.slice a.names.A 0 a.names.c) := (OA.cell 35).trans (by show some (Value.slice a.names.A a.names.n a.names.c) = _; rw [HA.out.2.1.2.2.1])
      have k24 : wr.cell? ⟨W.heap.size, 24, none⟩ = some (.slice a.data.A 0 a.data.c) := (OA.cell 24).trans (by show some (Value.slice a.data.A a.data.n a.data.c) = _; rw [HA.out.2.1.1])
      have k30 : wr.cell? ⟨W.heap.size, 30, none⟩ = some (.slice a.q0.A 0 a.q0.c) := (OA.cell 30).trans (by show some (Value.slice a.q0.A a.q0.n a.q0.c) = _; rw [HA.out.2.1.2.2.2.1])
      have k31 : wr.cell? ⟨W.heap.size, 31, none⟩ = some (.slice a.q1.A 0 a.q1.c) := (OA.cell 31).trans (by show some (Value.slice a.q1.A a.q1.n a.q1.c) = _; rw [HA.out.2.1.2.2.2.2])
      have k29 : wr.cell? ⟨W.heap.size, 29, none⟩ = some (.slice a.backlog.A 0 a.backlog.c) := (OA.cell 29).trans (by show some (Value.slice a.backlog.A a.backlog.n a.backlog.c) = _; rw [HA.out.2.1.2.1])
      have m35 : wr.cell? ⟨W.heap.size + 1, 35, none⟩ = some (.slice b.names.A 0 b.names.c) := (OB.cell 35).trans (by show some (Value.slice b.names.A b.names.n b.names.c) = _; rw [HB.out.2.1.2.2.1])
      have m24 : wr.cell? ⟨W.heap.size + 1, 24, none⟩ = some (.slice b.data.A 0 b.data.c) := (OB.cell 24).trans (by show some (Value.slice b.data.A b.data.n b.data.c) = _; rw [HB.out.2.1.1])
      have m30 : wr.cell? ⟨W.heap.size + 1, 30, none⟩ = some (.slice b.q0.A 0 b.q0.c) := (OB.cell 30).trans (by show some (Value.slice b.q0.A b.q0.n b.q0.c) = _; rw [HB.out.2.1.2.2.2.1])
      have m31 : wr.cell? ⟨W.heap.size + 1, 31, none⟩ = some (.slice b.q1.A 0 b.q1.c) := (OB.cell 31).trans (by show some (Value.slice b.q1.A b.q1.n b.q1.c) = _; rw [HB.out.2.1.2.2.2.2])
      have m29 : wr.cell? ⟨W.heap.size + 1, 29, none⟩ = some (.slice b.backlog.A 0 b.backlog.c) := (OB.cell 29).trans (by show some (Value.slice b.backlog.A b.backlog.n b.backlog.c) = _; rw [HB.out.2.1.2.1])
      have hl1 := OB.lt
      go_wp2_with fail
      go_loop [107] (fun s => s = .int .i64 0) (fun _ => 0)
      case atStart => rfl
      case round =>
        subst hrel
        go_wp2_with (first | (go_at_call 29; refine (ids_none _ _ _ _ _).mono ?_; rintro e w2 ⟨rfl, rfl⟩) | (refine wpList_val (by rfl) (exec_load_proc rfl rfl OA) ?_) | (refine wpList_val (by rfl) (exec_load_proc rfl rfl OB) ?_) | (go_at_call 30; refine (sameProc_none a b HA.out.2.2 HB.out.2.2 _).mono ?_; rintro e w3 ⟨rfl, g3⟩) | fail)
        go_ret
        exact ⟨rfl, HL.out.trans (g3.mono HL.out.size)⟩
end Go.Proofs.Ytddbohnappogkaa
