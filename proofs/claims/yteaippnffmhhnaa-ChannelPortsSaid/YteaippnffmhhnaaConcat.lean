/- slices.Grow and slices.Concat at identifiers: contracts. -/
import Derived.Test.YteaippnffmhhnaaIdTy
import Derived.Test.YteaippnffmhhnaaNumsT
import Derived.Test.YteaippnffmhhnaaRowMem
import Derived.Test.YteaippnffmhhnaaVal
import Derived.Lib.AppendZeros
namespace Go.Proofs.Yteaippnffmhhnaa
open Go.RowKit

set_option maxRecDepth 100000 in
set_option maxHeartbeats 4000000 in
theorem grow64_any (n : Nat) (h0 : 0 < n) (hn : n ≤ 1000) (W : World) : Calls Try.prog 69 #[.slice none 0 0, .int .i64 (n : Int)] W fun e w' => ∃ A c, e = .returned (.slice A 0 c) ∧ w'.ownsRow W.heap.size 22 1 (.slice A 0 c) 0 [] ∧ Below W.heap.size W w' := by
  obtain ⟨i0, hi, hz0, hz1, hz2⟩ := info_parts (show (Try.prog.info? 22).map (fun i => (i.zero, i.size, i.bytes)) = some (some (.int .u64 0), 1, 8) by kernel_rfl)
  have hrun : ∀ ty, (Builtin.append_ #[23, 3] ty #[.slice none 0 0, .int .i64 (n : Int)]).run Try.prog W = _ := fun ty =>
    Lib.run_append_nil_zeros W 23 3 ty 22 i0 _ .i64 .i64 Try.underlying23 Try.underlying3 hi hz0 n h0 (by omega) (by omega) (by rw [hz2]; omega)
  have hge := grownCap_ge W n 0 22
  have hle := grownCap_le_maxLen W n 0 22 (by unfold maxLen; omega)
  obtain ⟨c, hc⟩ : ∃ c, grownCap W n 0 22 = c := ⟨_, rfl⟩
  rw [hc] at hrun hge hle
  have hown : (W.drew.alloc (.cells (Builtin.zeroCells (Value.int .u64 0).cells n ++ Builtin.zeroCells (Value.int .u64 0).cells (c - n)) 22)).ownsRow W.heap.size 22 1 (.slice (some ⟨W.heap.size, 0, none⟩) 0 c) 0 [] :=
    ⟨rfl, .inr ⟨W.heap.size, c, _, rfl, Nat.le_refl _, heap_alloc_new W.drew _, Nat.zero_le _, hle, by simp [size_zeroCells, Value.cells]; omega, by simp⟩⟩
  have hb : Below W.heap.size W (W.drew.alloc (.cells (Builtin.zeroCells (Value.int .u64 0).cells n ++ Builtin.zeroCells (Value.int .u64 0).cells (c - n)) 22)) := (below_drewN (Below.refl _ W) 1).alloc (Nat.le_refl _) _
  obtain ⟨w1, hw1⟩ : ∃ w1, W.drew.alloc (.cells (Builtin.zeroCells (Value.int .u64 0).cells n ++ Builtin.zeroCells (Value.int .u64 0).cells (c - n)) 22) = w1 := ⟨_, rfl⟩
  rw [hw1] at hrun hown hb
  have HR := hide hrun
  have HO := hide hown
  have HB := hide hb
  have hnn : ¬ (n : Int) < 0 := by omega
  have hn0 : (0 : Int) < (n : Int) := by omega
  clear hrun hown hb hw1 hc hz0 hi hz1 hz2
  go_enter Try.func69, Try.ntmps69
  go_wp2_with (first | (at_builtin; refine Lib.wpList_append_run _ rfl _ _ _ _ rfl _ _ rfl rfl _ _ (HR.out _) ?_) | fail)
  go_ret
  exact ⟨_, _, rfl, HO.out, HB.out⟩
set_option maxRecDepth 100000 in
set_option maxHeartbeats 4000000 in
theorem concat64_any (g : Nat) (A B : Option Addr) (n c d : Nat) (I : List Int) (x : Int) (W : World) (hO : Obl W g 23 #[.slice A n c, .slice B 1 d]) (hA : Nums .u64 W W.heap.size A n I) (hB : Nums .u64 W W.heap.size B 1 [x]) (hn : n ≤ 900) :
    Calls Try.prog 46 #[.slice (some ⟨g, 0, none⟩) 2 2] W fun e w' => ∃ A c, e = .returned (.slice A (n + 1) c) ∧ w'.ownsRow W.heap.size 22 1 (.slice A (n + 1) c) (n + 1) (nv .u64 (I ++ [x])) ∧ Below W.heap.size W w' := by
  have HA := hide hA
  have HX := hide hB
  have HO := hide hO
  have k0 : W.cell? ⟨g, 0, none⟩ = some (.slice A n c) := HO.out.cell 0
  have k1 : W.cell? ⟨g, 1, none⟩ = some (.slice B 1 d) := HO.out.cell 1
  have hgl := hO.lt
  have hn0 : ¬ (n : Int) < 0 := by omega
  have hn1 : ¬ (n : Int) + 1 < 0 := by omega
  clear hA hB hO
  go_enter Try.func46, Try.ntmps46
  go_wp2_with fail
  go_loop [11, 3] (fun s11 s3 => (s11 = .int .i64 0 ∧ s3 = .int .i64 0) ∨ (s11 = .int .i64 1 ∧ s3 = .int .i64 (n : Int)) ∨ (s11 = .int .i64 2 ∧ s3 = .int .i64 ((n : Int) + 1))) (fun s11 _ => 2 - (intOf s11).toNat)
  case atStart => exact .inl ⟨rfl, rfl⟩
  case round =>
    rcases hrel with ⟨rfl, rfl⟩ | ⟨rfl, rfl⟩ | ⟨rfl, rfl⟩
    · go_wp2_with fail
      go_round
      case rel => exact .inr (.inl ⟨rfl, by go_num⟩)
      case measure => simp [intOf]
    · go_wp2_with fail
      go_round
      case rel => exact .inr (.inr ⟨rfl, by go_num⟩)
      case measure => simp [intOf]
    · go_wp2_with fail
      refine (grow64_any (n + 1) (by omega) (by omega) _).mono ?_
      rintro e w1 ⟨A1, c1, rfl, hown1, hb1⟩
      have HO1 := hide hown1
      have HB1 := hide hb1
      clear hown1 hb1
      go_wp2_with fail
      go_loopw [27, 6] (fun s27 s6 wr => Hid (Below W.heap.size W wr) ∧ ((s27 = .int .i64 0 ∧ s6 = .slice A1 0 c1 ∧ Hid (wr.ownsRow W.heap.size 22 1 (.slice A1 0 c1) 0 [])) ∨ (∃ A2 c2, s27 = .int .i64 1 ∧ s6 = .slice A2 n c2 ∧ Hid (wr.ownsRow W.heap.size 22 1 (.slice A2 n c2) n (nv .u64 I))) ∨ (∃ A2 c2, s27 = .int .i64 2 ∧ s6 = .slice A2 (n + 1) c2 ∧ Hid (wr.ownsRow W.heap.size 22 1 (.slice A2 (n + 1) c2) (n + 1) (nv .u64 (I ++ [x])))))) (fun s27 _ _ => 2 - (intOf s27).toNat)
      case atStart => exact ⟨HB1, .inl ⟨rfl, rfl, HO1⟩⟩
      case round =>
        clear HB1 HO1
        obtain ⟨HB, hrel⟩ := hrel
        have hbs := HB.out.size
        rcases hrel with ⟨rfl, rfl, HR⟩ | ⟨A2, c2, rfl, rfl, HR⟩ | ⟨A2, c2, rfl, rfl, HR⟩
        · have j0 : wr.cell? ⟨g, 0, none⟩ = some (.slice A n c) := (HB.out.cell (p := ⟨g, 0, none⟩) hgl).trans k0
          go_wp2_with (first | (at_builtin; refine wpList_append_rd rfl _ _ _ rfl idTy (base := W.heap.size) rfl HR.out (S := A) (m := n) (d := c) (news := nv .u64 I) rfl (HA.out.below HB.out).2 (nv_one _ _) (by unfold maxLen; omega) (by omega) hbs ?_; intro A3 c3 w3 hown3 hg3 _; have HB3 := hide (below_own HB.out HR.out hg3 hbs); rw [Nat.zero_add, List.nil_append] at hown3; rw [Nat.zero_add]; have HR3 := hide hown3; clear hown3 hg3) | fail)
          go_roundw
          case rel => exact ⟨HB3, .inr (.inl ⟨_, _, rfl, rfl, HR3⟩)⟩
          case measure => simp [intOf]
        · have j1 : wr.cell? ⟨g, 1, none⟩ = some (.slice B 1 d) := (HB.out.cell (p := ⟨g, 1, none⟩) hgl).trans k1
          go_wp2_with (first | (at_builtin; refine wpList_append_rd rfl _ _ _ rfl idTy (base := W.heap.size) rfl HR.out (S := B) (m := 1) (d := d) (news := nv .u64 [x]) rfl (HX.out.below HB.out).2 (nv_one _ _) (by unfold maxLen; omega) (by omega) hbs ?_; intro A3 c3 w3 hown3 hg3 _; have HB3 := hide (below_own HB.out HR.out hg3 hbs); rw [← nv_append] at hown3; have HR3 := hide hown3; clear hown3 hg3) | fail)
          go_roundw
          case rel => exact ⟨HB3, .inr (.inr ⟨_, _, rfl, rfl, HR3⟩)⟩
          case measure => simp [intOf]
        · go_wp2_with fail
          go_ret
          exact ⟨A2, c2, rfl, HR.out, HB.out⟩
end Go.Proofs.Yteaippnffmhhnaa
