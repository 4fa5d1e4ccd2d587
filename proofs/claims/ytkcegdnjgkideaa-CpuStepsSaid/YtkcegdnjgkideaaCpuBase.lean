/- Layer 5, the small functions: contracts. -/
import Derived.Test.YtkcegdnjgkideaaCpuMem
namespace Go.Proofs.Ytkcegdnjgkideaa
open Go.RowKit

theorem loaded_8 {c : Cp.Cpu} (h : c.regs.length = 8) (i v : Int) : (Cp.loaded c i v).regs.length = 8 := by
  unfold Cp.loaded
  split
  · simp [Cp.stored, Cp.put, h]
  · exact h

theorem isReg_any (n : Int) (w : World) : Calls Try.prog 34 #[.int .i64 n] w fun e w' => e = .returned (.bool (Cp.isReg n)) ∧ w' = w := by
  unfold Cp.isReg
  by_cases h0 : 0 ≤ n
  · by_cases h1 : n < 8
    · go_enter Try.func34, Try.ntmps34
      go_wp2
      go_ret
      simp [h0, h1]
    · go_enter Try.func34, Try.ntmps34
      go_wp2
      go_ret
      simp
      omega
  · go_enter Try.func34, Try.ntmps34
    go_wp2
    go_ret
    simp
    omega
theorem noReg_any (n : Int) (w : World) : Calls Try.prog 57 #[.int .i64 n] w fun e w' => e = .returned (.bool (!Cp.isReg n)) ∧ w' = w := by
  go_enter Try.func57, Try.ntmps57
  go_wp2_with fail
  refine (isReg_any _ _).mono ?_
  rintro e w1 ⟨rfl, rfl⟩
  go_wp2
  go_ret
  simp
theorem truth_any (b : Bool) (w : World) : Calls Try.prog 46 #[.bool b] w fun e w' => e = .returned (.int .i64 (if b then 1 else 0)) ∧ w' = w := by
  cases b
  · go_enter Try.func46, Try.ntmps46
    go_wp2
    go_ret
    simp
  · go_enter Try.func46, Try.ntmps46
    go_wp2
    go_ret
    simp
set_option maxRecDepth 100000 in
set_option maxHeartbeats 1000000 in
theorem goneOn_any (c : Cp.Cpu) (h8 : c.regs.length = 8) (w : World) : Calls Try.prog 35 #[ca c] w (CpuPost (Cp.stored c) w) := by
  obtain ⟨w1, hw, O0, O1, hb⟩ := start_1 w c
  have k0 := cc_pc O0
  have z0 := O0.free 0
  have O2 := O0.put 0 (.int .i64 (wrap64 (c.pc + 1)))
  rw [cc_putpc] at O2
  have H2 := hide ((O1.put_other (b' := w.heap.size) (by omega) 0 (.int .i64 (wrap64 (c.pc + 1)))))
  have HB := hide (below_row (hb.setCell (p := ⟨w.heap.size, 0, none⟩) (Nat.le_refl _) (.int .i64 (wrap64 (c.pc + 1)))) (g := w.heap.size + 1) (by omega) (cc ⟨wrap64 (c.pc + 1), c.regs⟩))
  go_enter Try.func35, Try.ntmps35
  go_wp2_with (first | (refine load_cpu rfl _ rfl rfl O2 h8 ?_) | (refine store_cpu rfl _ _ rfl rfl rfl H2.out rfl h8 ?_) | fail)
  refine bodyPost_ret (ret_cpu rfl _ rfl (H2.out.row_same _) h8) rfl ?_
  exact ⟨rfl, HB.out⟩
set_option maxRecDepth 100000 in
set_option maxHeartbeats 1000000 in
theorem goneTo_any (c : Cp.Cpu) (h8 : c.regs.length = 8) (n : Int) (w : World) : Calls Try.prog 49 #[ca c, .int .i64 n] w (CpuPost ⟨n, c.regs⟩ w) := by
  obtain ⟨w1, hw, O0, O1, hb⟩ := start_1 w c
  have k0 := cc_pc O0
  have z0 := O0.free 0
  have O2 := O0.put 0 (.int .i64 n)
  rw [cc_putpc] at O2
  have H2 := hide ((O1.put_other (b' := w.heap.size) (by omega) 0 (.int .i64 n)))
  have HB := hide (below_row (hb.setCell (p := ⟨w.heap.size, 0, none⟩) (Nat.le_refl _) (.int .i64 n)) (g := w.heap.size + 1) (by omega) (cc ⟨n, c.regs⟩))
  go_enter Try.func49, Try.ntmps49
  go_wp2_with (first | (refine load_cpu rfl _ rfl rfl O2 h8 ?_) | (refine store_cpu rfl _ _ rfl rfl rfl H2.out rfl h8 ?_) | fail)
  refine bodyPost_ret (ret_cpu rfl _ rfl (H2.out.row_same _) h8) rfl ?_
  exact ⟨rfl, HB.out⟩
set_option maxRecDepth 100000 in
set_option maxHeartbeats 1000000 in
theorem loaded_any (c : Cp.Cpu) (h8 : c.regs.length = 8) (n v : Int) (w : World) : Calls Try.prog 15 #[ca c, .int .i64 n, .int .i64 v] w (CpuPost (Cp.loaded c n v) w) := by
  obtain ⟨w1, hw, O0, O1, hb⟩ := start_1 w c
  unfold Cp.loaded
  cases hn : Cp.isReg n with
  | true =>
    have hr : 0 ≤ n ∧ n < 8 := by unfold Cp.isReg at hn; simpa using hn
    have hr0 := hr.1
    have hr1 := hr.2
    have k0 := cc_reg O0 h8 hr
    have z0 := O0.free (1 + n.toNat)
    have h8' : (Cp.put c n v).regs.length = 8 := by simp [Cp.put, h8]
    have O2 := O0.put (1 + n.toNat) (.int .i64 v)
    rw [cc_put] at O2
    have H2 := hide ((O1.put_other (b' := w.heap.size) (by omega) (1 + n.toNat) (.int .i64 v)))
    have hb2 := hb.setCell (p := ⟨w.heap.size, 1 + n.toNat, none⟩) (Nat.le_refl _) (.int .i64 v)
    have HN := hide hn
    clear hr hn
    go_enter Try.func15, Try.ntmps15
    go_wp2_with (first | (go_at_call 34; refine (isReg_any _ _).mono ?_; rintro e w2 ⟨rfl, rfl⟩; rw [HN.out]) | (refine load_cpu rfl _ rfl rfl O2 h8' ?_) | fail)
    refine (goneOn_any _ h8' _).mono ?_
    rintro e w3 ⟨rfl, hb3⟩
    have H3 := hide (H2.out.below hb3 H2.out.lt)
    have HB := hide (below_row (hb2.trans (hb3.mono hb2.size)) (g := w.heap.size + 1) (by omega) (cc (Cp.stored (Cp.put c n v))))
    clear hb3 hb2 O2 k0 z0
    go_wp2_with (first | (refine store_cpu rfl _ _ rfl rfl rfl H3.out rfl h8' ?_) | fail)
    refine bodyPost_ret (ret_cpu rfl _ rfl (H3.out.row_same _) h8') rfl ?_
    exact ⟨rfl, HB.out⟩
  | false =>
    have HN := hide hn
    clear hn
    go_enter Try.func15, Try.ntmps15
    go_wp2_with (first | (go_at_call 34; refine (isReg_any _ _).mono ?_; rintro e w2 ⟨rfl, rfl⟩; rw [HN.out]) | (refine load_cpu rfl _ rfl rfl O0 h8 ?_) | fail)
    refine (goneOn_any _ h8 _).mono ?_
    rintro e w3 ⟨rfl, hb3⟩
    have H3 := hide (O1.below hb3 O1.lt)
    have HB := hide (below_row (hb.trans (hb3.mono hb.size)) (g := w.heap.size + 1) (by omega) (cc (Cp.stored c)))
    clear hb3 hb O0 O1
    go_wp2_with (first | (refine store_cpu rfl _ _ rfl rfl rfl H3.out rfl h8 ?_) | fail)
    refine bodyPost_ret (ret_cpu rfl _ rfl (H3.out.row_same _) h8) rfl ?_
    exact ⟨rfl, HB.out⟩
set_option maxRecDepth 100000 in
set_option maxHeartbeats 1000000 in
theorem stored_any (c : Cp.Cpu) (h8 : c.regs.length = 8) (w : World) : Calls Try.prog 17 #[ca c] w (CpuPost (Cp.stored c) w) := by
  obtain ⟨w1, hw, O0, O1, hb⟩ := start_1 w c
  go_enter Try.func17, Try.ntmps17
  go_wp2_with (first | (refine load_cpu rfl _ rfl rfl O0 h8 ?_) | fail)
  refine (goneOn_any _ h8 _).mono ?_
  rintro e w3 ⟨rfl, hb3⟩
  have H3 := hide (O1.below hb3 O1.lt)
  have HB := hide (below_row (hb.trans (hb3.mono hb.size)) (g := w.heap.size + 1) (by omega) (cc (Cp.stored c)))
  clear hb3 hb O0 O1
  go_wp2_with (first | (refine store_cpu rfl _ _ rfl rfl rfl H3.out rfl h8 ?_) | fail)
  refine bodyPost_ret (ret_cpu rfl _ rfl (H3.out.row_same _) h8) rfl ?_
  exact ⟨rfl, HB.out⟩
set_option maxRecDepth 100000 in
set_option maxHeartbeats 1000000 in
theorem returned_any (c : Cp.Cpu) (h8 : c.regs.length = 8) (v : Int) (w : World) : Calls Try.prog 19 #[ca c, .int .i64 v] w (CpuPost (Cp.loaded c 0 v) w) := by
  obtain ⟨w1, hw, O0, O1, hb⟩ := start_1 w c
  have k0 := cc_reg O0 h8 (i := 0) (by omega)
  have z0 := O0.free 1
  have h8' : (Cp.put c 0 v).regs.length = 8 := by simp [Cp.put, h8]
  have O2 := O0.put 1 (.int .i64 v)
  rw [show (1 : Nat) = 1 + (0 : Int).toNat from rfl, cc_put, show 1 + (0 : Int).toNat = 1 from rfl] at O2
  have H2 := hide ((O1.put_other (b' := w.heap.size) (by omega) 1 (.int .i64 v)))
  have hb2 := hb.setCell (p := ⟨w.heap.size, 1, none⟩) (Nat.le_refl _) (.int .i64 v)
  simp at k0
  go_enter Try.func19, Try.ntmps19
  go_wp2_with (first | (refine load_cpu rfl _ rfl rfl O2 h8' ?_) | fail)
  refine (goneOn_any _ h8' _).mono ?_
  rintro e w3 ⟨rfl, hb3⟩
  have H3 := hide (H2.out.below hb3 H2.out.lt)
  have HB := hide (below_row (hb2.trans (hb3.mono hb2.size)) (g := w.heap.size + 1) (by omega) (cc (Cp.stored (Cp.put c 0 v))))
  clear hb3 hb2 O2 k0 z0
  go_wp2_with (first | (refine store_cpu rfl _ _ rfl rfl rfl H3.out rfl h8' ?_) | fail)
  refine bodyPost_ret (ret_cpu rfl _ rfl (H3.out.row_same _) h8') rfl ?_
  exact ⟨rfl, HB.out⟩
set_option maxRecDepth 100000 in
set_option maxHeartbeats 1000000 in
theorem returned2_any (c : Cp.Cpu) (h8 : c.regs.length = 8) (v u : Int) (w : World) : Calls Try.prog 21 #[ca c, .int .i64 v, .int .i64 u] w (CpuPost (Cp.stored (Cp.put (Cp.put c 0 v) 1 u)) w) := by
  obtain ⟨w1, hw, O0, O1, hb⟩ := start_1 w c
  have k0 := cc_reg O0 h8 (i := 0) (by omega)
  have z0 := O0.free 1
  have h8' : (Cp.put c 0 v).regs.length = 8 := by simp [Cp.put, h8]
  have h8'' : (Cp.put (Cp.put c 0 v) 1 u).regs.length = 8 := by simp [Cp.put, h8]
  have O2 := O0.put 1 (.int .i64 v)
  rw [show (1 : Nat) = 1 + (0 : Int).toNat from rfl, cc_put, show 1 + (0 : Int).toNat = 1 from rfl] at O2
  have k1 := cc_reg O2 h8' (i := 1) (by omega)
  have z1 := O2.free 2
  have O3 := O2.put 2 (.int .i64 u)
  rw [show (2 : Nat) = 1 + (1 : Int).toNat from rfl, cc_put, show 1 + (1 : Int).toNat = 2 from rfl] at O3
  have H2 := hide (((O1.put_other (b' := w.heap.size) (by omega) 1 (.int .i64 v))).put_other (b' := w.heap.size) (by omega) 2 (.int .i64 u))
  have hb2 := (hb.setCell (p := ⟨w.heap.size, 1, none⟩) (Nat.le_refl _) (.int .i64 v)).setCell (p := ⟨w.heap.size, 2, none⟩) (Nat.le_refl _) (.int .i64 u)
  simp at k0 k1
  clear O2
  go_enter Try.func21, Try.ntmps21
  go_wp2_with (first | (refine load_cpu rfl _ rfl rfl O3 h8'' ?_) | fail)
  refine (goneOn_any _ h8'' _).mono ?_
  rintro e w3 ⟨rfl, hb3⟩
  have H3 := hide (H2.out.below hb3 H2.out.lt)
  have HB := hide (below_row (hb2.trans (hb3.mono hb2.size)) (g := w.heap.size + 1) (by omega) (cc (Cp.stored (Cp.put (Cp.put c 0 v) 1 u))))
  clear hb3 hb2 O3 k0 z0 k1 z1
  go_wp2_with (first | (refine store_cpu rfl _ _ rfl rfl rfl H3.out rfl h8'' ?_) | fail)
  refine bodyPost_ret (ret_cpu rfl _ rfl (H3.out.row_same _) h8'') rfl ?_
  exact ⟨rfl, HB.out⟩
set_option maxRecDepth 100000 in
set_option maxHeartbeats 1000000 in
theorem fault_any (c : Cp.Cpu) (h8 : c.regs.length = 8) (w : World) : Calls Try.prog 29 #[ca c] w (TwoPost (c, Cp.fault) w) := by
  obtain ⟨w1, hw, O0, ⟨O1, O2⟩, hb⟩ := start_2 w c
  obtain ⟨E0, E1, E2, hbe⟩ := ends_2 O1 O2 hb (by omega) c Cp.fault
  go_enter Try.func29, Try.ntmps29
  go_wp2_with (first | (refine load_cpu rfl _ rfl rfl O0 h8 ?_) | (refine store_cpu rfl _ _ rfl rfl rfl O1 rfl h8 ?_) | (refine store_act rfl _ _ rfl rfl (c := Cp.fault) rfl E1 rfl rfl ?_) | fail)
  refine bodyPost_ret (ret_two rfl _ rfl E0 h8 rfl E2 rfl) rfl ?_
  exact ⟨rfl, hbe⟩
set_option maxRecDepth 100000 in
set_option maxHeartbeats 1000000 in
theorem done_any (c : Cp.Cpu) (h8 : c.regs.length = 8) (w : World) : Calls Try.prog 38 #[ca c] w (TwoPost (c, Cp.done) w) := by
  obtain ⟨w1, hw, O0, ⟨O1, O2⟩, hb⟩ := start_2 w c
  obtain ⟨E0, E1, E2, hbe⟩ := ends_2 O1 O2 hb (by omega) c Cp.done
  go_enter Try.func38, Try.ntmps38
  go_wp2_with (first | (refine load_cpu rfl _ rfl rfl O0 h8 ?_) | (refine store_cpu rfl _ _ rfl rfl rfl O1 rfl h8 ?_) | (refine store_act rfl _ _ rfl rfl (c := Cp.done) rfl E1 rfl rfl ?_) | fail)
  refine bodyPost_ret (ret_two rfl _ rfl E0 h8 rfl E2 rfl) rfl ?_
  exact ⟨rfl, hbe⟩
end Go.Proofs.Ytkcegdnjgkideaa
