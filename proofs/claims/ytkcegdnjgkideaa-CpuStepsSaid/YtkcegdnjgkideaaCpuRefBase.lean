/- The reference of layer 5, the small functions: contracts. -/
import Derived.Test.YtkcegdnjgkideaaCpuBase
import Derived.Test.YtkcegdnjgkideaaCpuOps
import Derived.Test.YtkcegdnjgkideaaCpuComputing
namespace Go.Proofs.Ytkcegdnjgkideaa
open Go.RowKit

theorem register_any (n : Int) (w : World) : Calls Try.prog 32 #[.int .i64 n] w fun e w' => e = .returned (.bool (Cp.isReg n)) ∧ w' = w := by
  unfold Cp.isReg
  by_cases h0 : 0 ≤ n
  · by_cases h1 : n < 8
    · go_enter Try.func32, Try.ntmps32
      go_wp2
      go_ret
      simp [h0, h1]
    · go_enter Try.func32, Try.ntmps32
      go_wp2
      go_ret
      simp
      omega
  · go_enter Try.func32, Try.ntmps32
    go_wp2
    go_ret
    simp
    omega
theorem truthR_any (b : Bool) (w : World) : Calls Try.prog 54 #[.bool b] w fun e w' => e = .returned (.int .i64 (if b then 1 else 0)) ∧ w' = w := by
  cases b
  · go_enter Try.func54, Try.ntmps54
    go_wp2
    go_ret
    simp
  · go_enter Try.func54, Try.ntmps54
    go_wp2
    go_ret
    simp
set_option maxRecDepth 100000 in
set_option maxHeartbeats 1000000 in
theorem faultR_any (c : Cp.Cpu) (h8 : c.regs.length = 8) (w : World) : Calls Try.prog 31 #[ca c] w (TwoPost (c, Cp.fault) w) := by
  obtain ⟨w1, hw, O0, ⟨O1, O2⟩, hb⟩ := start_2 w c
  obtain ⟨E0, E1, E2, hbe⟩ := ends_2 O1 O2 hb (by omega) c Cp.fault
  go_enter Try.func31, Try.ntmps31
  go_wp2_with (first | (refine load_cpu rfl _ rfl rfl O0 h8 ?_) | (refine store_cpu rfl _ _ rfl rfl rfl O1 rfl h8 ?_) | (refine store_act rfl _ _ rfl rfl (c := Cp.fault) rfl E1 rfl rfl ?_) | fail)
  refine bodyPost_ret (ret_two rfl _ rfl E0 h8 rfl E2 rfl) rfl ?_
  exact ⟨rfl, hbe⟩
set_option maxRecDepth 100000 in
set_option maxHeartbeats 1000000 in
theorem storedR_any (c : Cp.Cpu) (h8 : c.regs.length = 8) (w : World) : Calls Try.prog 18 #[ca c] w (CpuPost (Cp.stored c) w) := by
  obtain ⟨w1, hw, O0, O1, hb⟩ := start_1 w c
  have k0 := cc_pc O0
  have z0 := O0.free 0
  have O2 := O0.put 0 (.int .i64 (wrap64 (c.pc + 1)))
  rw [cc_putpc] at O2
  have H2 := hide ((O1.put_other (b' := w.heap.size) (by omega) 0 (.int .i64 (wrap64 (c.pc + 1)))))
  have HB := hide (below_row (hb.setCell (p := ⟨w.heap.size, 0, none⟩) (Nat.le_refl _) (.int .i64 (wrap64 (c.pc + 1)))) (g := w.heap.size + 1) (by omega) (cc ⟨wrap64 (c.pc + 1), c.regs⟩))
  go_enter Try.func18, Try.ntmps18
  go_wp2_with (first | (refine load_cpu rfl _ rfl rfl O2 h8 ?_) | (refine store_cpu rfl _ _ rfl rfl rfl H2.out rfl h8 ?_) | fail)
  refine bodyPost_ret (ret_cpu rfl _ rfl (H2.out.row_same _) h8) rfl ?_
  exact ⟨rfl, HB.out⟩
set_option maxRecDepth 100000 in
set_option maxHeartbeats 1000000 in
theorem loadedR_any (c : Cp.Cpu) (h8 : c.regs.length = 8) (n v : Int) (w : World) : Calls Try.prog 16 #[ca c, .int .i64 n, .int .i64 v] w (CpuPost (Cp.loaded c n v) w) := by
  obtain ⟨w1, hw, O0, O1, hb⟩ := start_1 w c
  unfold Cp.loaded
  cases hn : Cp.isReg n with
  | true =>
    have hr : 0 ≤ n ∧ n < 8 := by unfold Cp.isReg at hn; simpa using hn
    have hr0 := hr.1
    have hr1 := hr.2
    have k0 := cc_reg O0 h8 hr
    have z0 := O0.free (1 + n.toNat)
    have h8' : (Cp.put c n v).regs.length = 8 := by simp [Cp.put, h8]
    have O2 := O0.put (1 + n.toNat) (.int .i64 v)
    rw [cc_put] at O2
    have H2 := hide ((O1.put_other (b' := w.heap.size) (by omega) (1 + n.toNat) (.int .i64 v)))
    have hb2 := hb.setCell (p := ⟨w.heap.size, 1 + n.toNat, none⟩) (Nat.le_refl _) (.int .i64 v)
    have HN := hide hn
    clear hr hn
    go_enter Try.func16, Try.ntmps16
    go_wp2_with (first | (go_at_call 32; refine (register_any _ _).mono ?_; rintro e w2 ⟨rfl, rfl⟩; rw [HN.out]) | (refine load_cpu rfl _ rfl rfl O2 h8' ?_) | fail)
    refine (storedR_any _ h8' _).mono ?_
    rintro e w3 ⟨rfl, hb3⟩
    have H3 := hide (H2.out.below hb3 H2.out.lt)
    have HB := hide (below_row (hb2.trans (hb3.mono hb2.size)) (g := w.heap.size + 1) (by omega) (cc (Cp.stored (Cp.put c n v))))
    clear hb3 hb2 O2 k0 z0
    go_wp2_with (first | (refine store_cpu rfl _ _ rfl rfl rfl H3.out rfl h8' ?_) | fail)
    refine bodyPost_ret (ret_cpu rfl _ rfl (H3.out.row_same _) h8') rfl ?_
    exact ⟨rfl, HB.out⟩
  | false =>
    have HN := hide hn
    clear hn
    go_enter Try.func16, Try.ntmps16
    go_wp2_with (first | (go_at_call 32; refine (register_any _ _).mono ?_; rintro e w2 ⟨rfl, rfl⟩; rw [HN.out]) | (refine load_cpu rfl _ rfl rfl O0 h8 ?_) | fail)
    refine (storedR_any _ h8 _).mono ?_
    rintro e w3 ⟨rfl, hb3⟩
    have H3 := hide (O1.below hb3 O1.lt)
    have HB := hide (below_row (hb.trans (hb3.mono hb.size)) (g := w.heap.size + 1) (by omega) (cc (Cp.stored c)))
    clear hb3 hb O0 O1
    go_wp2_with (first | (refine store_cpu rfl _ _ rfl rfl rfl H3.out rfl h8 ?_) | fail)
    refine bodyPost_ret (ret_cpu rfl _ rfl (H3.out.row_same _) h8) rfl ?_
    exact ⟨rfl, HB.out⟩
set_option maxRecDepth 100000 in
set_option maxHeartbeats 1000000 in
theorem returnedR_any (c : Cp.Cpu) (h8 : c.regs.length = 8) (v : Int) (w : World) : Calls Try.prog 20 #[ca c, .int .i64 v] w (CpuPost (Cp.loaded c 0 v) w) := by
  obtain ⟨w1, hw, O0, O1, hb⟩ := start_1 w c
  go_enter Try.func20, Try.ntmps20
  go_wp2_with (first | (refine load_cpu rfl _ rfl rfl O0 h8 ?_) | fail)
  refine (loadedR_any c h8 _ _ _).mono ?_
  rintro e w3 ⟨rfl, hb3⟩
  have h8' := loaded_8 h8 0 v
  have H3 := hide (O1.below hb3 O1.lt)
  have HB := hide (below_row (hb.trans (hb3.mono hb.size)) (g := w.heap.size + 1) (by omega) (cc (Cp.loaded c 0 v)))
  clear hb3 hb O0 O1
  go_wp2_with (first | (refine store_cpu rfl _ _ rfl rfl rfl H3.out rfl h8' ?_) | fail)
  refine bodyPost_ret (ret_cpu rfl _ rfl (H3.out.row_same _) h8') rfl ?_
  exact ⟨rfl, HB.out⟩
set_option maxRecDepth 100000 in
set_option maxHeartbeats 1000000 in
theorem returned2R_any (c : Cp.Cpu) (h8 : c.regs.length = 8) (v u : Int) (w : World) : Calls Try.prog 22 #[ca c, .int .i64 v, .int .i64 u] w (CpuPost (Cp.loaded (Cp.put c 1 u) 0 v) w) := by
  obtain ⟨w1, hw, O0, O1, hb⟩ := start_1 w c
  have k0 := cc_reg O0 h8 (i := 1) (by omega)
  have z0 := O0.free 2
  have h8' : (Cp.put c 1 u).regs.length = 8 := by simp [Cp.put, h8]
  have h8'' := loaded_8 h8' 0 v
  have O2 := O0.put 2 (.int .i64 u)
  rw [show (2 : Nat) = 1 + (1 : Int).toNat from rfl, cc_put, show 1 + (1 : Int).toNat = 2 from rfl] at O2
  have H2 := hide ((O1.put_other (b' := w.heap.size) (by omega) 2 (.int .i64 u)))
  have hb2 := hb.setCell (p := ⟨w.heap.size, 2, none⟩) (Nat.le_refl _) (.int .i64 u)
  simp at k0
  go_enter Try.func22, Try.ntmps22
  go_wp2_with (first | (refine load_cpu rfl _ rfl rfl O2 h8' ?_) | fail)
  refine (loadedR_any _ h8' _ _ _).mono ?_
  rintro e w3 ⟨rfl, hb3⟩
  have H3 := hide (H2.out.below hb3 H2.out.lt)
  have HB := hide (below_row (hb2.trans (hb3.mono hb2.size)) (g := w.heap.size + 1) (by omega) (cc (Cp.loaded (Cp.put c 1 u) 0 v)))
  clear hb3 hb2 O2 k0 z0
  go_wp2_with (first | (refine store_cpu rfl _ _ rfl rfl rfl H3.out rfl h8'' ?_) | fail)
  refine bodyPost_ret (ret_cpu rfl _ rfl (H3.out.row_same _) h8'') rfl ?_
  exact ⟨rfl, HB.out⟩
end Go.Proofs.Ytkcegdnjgkideaa
