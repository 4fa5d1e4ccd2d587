/- Layer 11: package pipe's Valid (written by tools/mkppvalid.py). -/
import Derived.Test.YtpibdfgcfhopaaaPpValid
namespace Go.Proofs.Ytpibdfgcfhopaaa
open Go.RowKit

set_option maxRecDepth 100000 in
set_option maxHeartbeats 4000000 in
theorem ppCount_any (n : Int) (W : World) : Calls Try.prog 53 #[.int .i64 n] W fun e w' => e = .returned (.bool (decide (0 ≤ n ∧ n ≤ 1073741824))) ∧ w' = W := by
  by_cases h0 : 0 ≤ n
  · have H0 := hide h0
    go_enter Try.func53, Try.ntmps53
    go_wp2
    go_ret
    exact ⟨ret_bool (by have := H0.out; simp [this]), rfl⟩
  · have H0 := hide h0
    go_enter Try.func53, Try.ntmps53
    go_wp2
    go_ret
    exact ⟨ret_bool (by have := H0.out; simp; omega), rfl⟩
set_option maxRecDepth 100000 in
set_option maxHeartbeats 4000000 in
theorem ppEnds_any (o : Ob) (W : World) : Calls Try.prog 40 #[.agg (oc o)] W (BoolPost (decide o.PpEnds) W) := by
  obtain ⟨w1, hw, O, hb⟩ : ∃ w1, W.alloc (.cells (oc o) 41) = w1 ∧ Obl w1 W.heap.size 41 (oc o) ∧ Below W.heap.size W w1 := ⟨_, rfl, Obl.make W _ _, (Below.refl _ _).alloc (Nat.le_refl _) _⟩
  have HB := hide hb
  clear hb
  have k27 : w1.cell? ⟨W.heap.size, 27, none⟩ = some (.int .i64 o.readers) := O.cell 27
  have k28 : w1.cell? ⟨W.heap.size, 28, none⟩ = some (.int .i64 o.writers) := O.cell 28
  by_cases h0 : 0 ≤ o.readers ∧ o.readers ≤ 1073741824
  · have H0 := hide h0
    clear h0
    by_cases h1 : 0 ≤ o.writers ∧ o.writers ≤ 1073741824
    · have H1 := hide h1
      clear h1
      by_cases h2 : ¬ o.readers = 0
      · have H2 := hide h2
        have b2 : (o.readers != 0) = true := by simpa using h2
        clear h2
        go_enter Try.func40, Try.ntmps40
        try dsimp only [List.append]
        go_wp2_with (first | (go_at_call 53; refine (ppCount_any o.readers _).mono ?_; rintro e u0 ⟨rfl, rfl⟩; rw [show decide (0 ≤ o.readers ∧ o.readers ≤ 1073741824) = true from decide_eq_true H0.out]) | (go_at_call 53; refine (ppCount_any o.writers _).mono ?_; rintro e u1 ⟨rfl, rfl⟩; rw [show decide (0 ≤ o.writers ∧ o.writers ≤ 1073741824) = true from decide_eq_true H1.out]) | fail)
        go_ret
        exact ⟨ret_bool (decide_eq_true (show o.PpEnds from ⟨H0.out.1, H0.out.2, H1.out.1, H1.out.2, .inl H2.out⟩)).symm, HB.out⟩
      · replace h2 := Decidable.not_not.1 h2
        have HS := hide h2
        rw [h2] at k27
        have H2 := hide h2
        clear h2
        by_cases h3 : o.writers = 0
        · have H3 := hide h3
          rw [h3] at k28
          clear h3
          go_enter Try.func40, Try.ntmps40
          try dsimp only [List.append]
          go_wp2_with (first | (go_at_call 53; refine (ppCount_any 0 _).mono ?_; rintro e u0 ⟨rfl, rfl⟩; rw [show decide ((0 : Int) ≤ 0 ∧ (0 : Int) ≤ 1073741824) = true from rfl]) | (go_at_call 53; refine (ppCount_any 0 _).mono ?_; rintro e u1 ⟨rfl, rfl⟩; rw [show decide (0 ≤ o.writers ∧ o.writers ≤ 1073741824) = true from decide_eq_true H1.out]) | fail)
          go_ret
          exact ⟨ret_bool (decide_eq_false (fun hh : o.PpEnds => hh.2.2.2.2.elim (fun q => q H2.out) (fun q => q H3.out))).symm, HB.out⟩
        · have H3 := hide h3
          have b3 : (o.writers != 0) = true := by simpa using h3
          clear h3
          go_enter Try.func40, Try.ntmps40
          try dsimp only [List.append]
          go_wp2_with (first | (go_at_call 53; refine (ppCount_any 0 _).mono ?_; rintro e u0 ⟨rfl, rfl⟩; rw [show decide ((0 : Int) ≤ 0 ∧ (0 : Int) ≤ 1073741824) = true from rfl]) | (go_at_call 53; refine (ppCount_any o.writers _).mono ?_; rintro e u1 ⟨rfl, rfl⟩; rw [show decide (0 ≤ o.writers ∧ o.writers ≤ 1073741824) = true from decide_eq_true H1.out]) | fail)
          go_ret
          exact ⟨ret_bool (decide_eq_true (show o.PpEnds from ⟨H0.out.1, H0.out.2, H1.out.1, H1.out.2, .inr H3.out⟩)).symm, HB.out⟩
    · have H1 := hide h1
      clear h1
      go_enter Try.func40, Try.ntmps40
      try dsimp only [List.append]
      go_wp2_with (first | (go_at_call 53; refine (ppCount_any o.readers _).mono ?_; rintro e u0 ⟨rfl, rfl⟩; rw [show decide (0 ≤ o.readers ∧ o.readers ≤ 1073741824) = true from decide_eq_true H0.out]) | (go_at_call 53; refine (ppCount_any o.writers _).mono ?_; rintro e u1 ⟨rfl, rfl⟩; rw [show decide (0 ≤ o.writers ∧ o.writers ≤ 1073741824) = false from decide_eq_false H1.out]) | fail)
      go_ret
      exact ⟨ret_bool (decide_eq_false (fun hh : o.PpEnds => H1.out ⟨hh.2.2.1, hh.2.2.2.1⟩)).symm, HB.out⟩
  · have H0 := hide h0
    clear h0
    go_enter Try.func40, Try.ntmps40
    try dsimp only [List.append]
    go_wp2_with (first | (go_at_call 53; refine (ppCount_any o.readers _).mono ?_; rintro e u0 ⟨rfl, rfl⟩; rw [show decide (0 ≤ o.readers ∧ o.readers ≤ 1073741824) = false from decide_eq_false H0.out]) | fail)
    go_ret
    exact ⟨ret_bool (decide_eq_false (fun hh : o.PpEnds => H0.out ⟨hh.1, hh.2.1⟩)).symm, HB.out⟩
set_option maxRecDepth 100000 in
set_option maxHeartbeats 4000000 in
theorem ppValid_any (o : Ob) (W : World) : Calls Try.prog 17 #[.agg (oc o)] W (BoolPost (decide o.Pipe) W) := by
  obtain ⟨w1, hw, O, hb⟩ : ∃ w1, W.alloc (.cells (oc o) 41) = w1 ∧ Obl w1 W.heap.size 41 (oc o) ∧ Below W.heap.size W w1 := ⟨_, rfl, Obl.make W _ _, (Below.refl _ _).alloc (Nat.le_refl _) _⟩
  have HB := hide hb
  clear hb
  have k1 : w1.cell? ⟨W.heap.size, 1, none⟩ = some (.int .i64 o.kind) := O.cell 1
  have k0 : w1.cell? ⟨W.heap.size, 0, none⟩ = some (.int .u64 o.id) := O.cell 0
  have k24 : w1.cell? ⟨W.heap.size, 24, none⟩ = some (.slice o.data.A o.data.n o.data.c) := O.cell 24
  by_cases h0 : o.kind = 5
  · have H0 := hide h0
    rw [h0] at k1
    clear h0
    by_cases h1 : ¬ o.id = 0
    · have H1 := hide h1
      have b1 : (o.id == 0) = false := by simpa using h1
      have c1 : (o.id != 0) = true := by simpa using h1
      clear h1
      by_cases h2 : o.PpEnds
      · have H2 := hide h2
        clear h2
        by_cases h3 : o.data.n ≤ 64
        · have H3 := hide h3
          have i3 : (o.data.n : Int) ≤ 64 := by omega
          clear h3
          by_cases h4 : o.PpOthers
          · have H4 := hide h4
            clear h4
            go_enter Try.func17, Try.ntmps17
            try dsimp only [List.append]
            go_wp2_with (first | (refine wpList_val (by rfl) (exec_load_ob rfl rfl O) ?_) | (go_at_call 40; refine (ppEnds_any o _).mono ?_; rintro e u2 ⟨rfl, g2⟩; have m24 := (g2.cell (p := ⟨W.heap.size, 24, none⟩) O.lt).trans k24; rw [show decide (o.PpEnds) = true from decide_eq_true H2.out]) | (refine wpList_val (by rfl) (exec_load_ob rfl rfl (O.below g2 O.lt)) ?_) | (go_at_call 41; refine (ppOthers_any o _).mono ?_; rintro e u4 ⟨rfl, g4⟩; rw [show decide (o.PpOthers) = true from decide_eq_true H4.out]) | fail)
            go_ret
            exact ⟨ret_bool (decide_eq_true (show o.Pipe from ⟨H0.out, H1.out, H2.out, H3.out, H4.out⟩)).symm, ((HB.out.trans (g2.mono HB.out.size)).trans (g4.mono (HB.out.trans (g2.mono HB.out.size)).size))⟩
          · have H4 := hide h4
            clear h4
            go_enter Try.func17, Try.ntmps17
            try dsimp only [List.append]
            go_wp2_with (first | (refine wpList_val (by rfl) (exec_load_ob rfl rfl O) ?_) | (go_at_call 40; refine (ppEnds_any o _).mono ?_; rintro e u2 ⟨rfl, g2⟩; have m24 := (g2.cell (p := ⟨W.heap.size, 24, none⟩) O.lt).trans k24; rw [show decide (o.PpEnds) = true from decide_eq_true H2.out]) | (refine wpList_val (by rfl) (exec_load_ob rfl rfl (O.below g2 O.lt)) ?_) | (go_at_call 41; refine (ppOthers_any o _).mono ?_; rintro e u4 ⟨rfl, g4⟩; rw [show decide (o.PpOthers) = false from decide_eq_false H4.out]) | fail)
            go_ret
            exact ⟨ret_bool (decide_eq_false (fun hh : o.Pipe => H4.out (hh.2.2.2.2))).symm, ((HB.out.trans (g2.mono HB.out.size)).trans (g4.mono (HB.out.trans (g2.mono HB.out.size)).size))⟩
        · have H3 := hide h3
          have i3 : ¬ (o.data.n : Int) ≤ 64 := by omega
          clear h3
          go_enter Try.func17, Try.ntmps17
          try dsimp only [List.append]
          go_wp2_with (first | (refine wpList_val (by rfl) (exec_load_ob rfl rfl O) ?_) | (go_at_call 40; refine (ppEnds_any o _).mono ?_; rintro e u2 ⟨rfl, g2⟩; have m24 := (g2.cell (p := ⟨W.heap.size, 24, none⟩) O.lt).trans k24; rw [show decide (o.PpEnds) = true from decide_eq_true H2.out]) | fail)
          go_ret
          exact ⟨ret_bool (decide_eq_false (fun hh : o.Pipe => absurd (hh.2.2.2.1) (by have := H3.out; omega))).symm, (HB.out.trans (g2.mono HB.out.size))⟩
      · have H2 := hide h2
        clear h2
        go_enter Try.func17, Try.ntmps17
        try dsimp only [List.append]
        go_wp2_with (first | (refine wpList_val (by rfl) (exec_load_ob rfl rfl O) ?_) | (go_at_call 40; refine (ppEnds_any o _).mono ?_; rintro e u2 ⟨rfl, g2⟩; have m24 := (g2.cell (p := ⟨W.heap.size, 24, none⟩) O.lt).trans k24; rw [show decide (o.PpEnds) = false from decide_eq_false H2.out]) | fail)
        go_ret
        exact ⟨ret_bool (decide_eq_false (fun hh : o.Pipe => H2.out (hh.2.2.1))).symm, (HB.out.trans (g2.mono HB.out.size))⟩
    · replace h1 := Decidable.not_not.1 h1
      have H1 := hide h1
      rw [h1] at k0
      clear h1
      go_enter Try.func17, Try.ntmps17
      try dsimp only [List.append]
      go_wp2_with (first | fail)
      go_ret
      exact ⟨ret_bool (decide_eq_false (fun hh : o.Pipe => hh.2.1 H1.out)).symm, HB.out⟩
  · have H0 := hide h0
    have b0 : (o.kind == 5) = false := by simpa using h0
    have c0 : (o.kind != 5) = true := by simpa using h0
    clear h0
    go_enter Try.func17, Try.ntmps17
    try dsimp only [List.append]
    go_wp2_with (first | fail)
    go_ret
    exact ⟨ret_bool (decide_eq_false (fun hh : o.Pipe => H0.out (hh.1))).symm, HB.out⟩
end Go.Proofs.Ytpibdfgcfhopaaa
