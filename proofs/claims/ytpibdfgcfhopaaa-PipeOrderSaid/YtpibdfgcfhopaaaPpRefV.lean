/- The reference of pipes: which objects are pipes (written by tools/mkppvalid.py). -/
import Derived.Test.YtpibdfgcfhopaaaPgBare
import Derived.Test.YtpibdfgcfhopaaaPpMath
namespace Go.Proofs.Ytpibdfgcfhopaaa
open Go.RowKit

set_option maxRecDepth 100000 in
set_option maxHeartbeats 4000000 in
theorem refPpValid_any (o : Ob) (W : World) : Calls Try.prog 18 #[.agg (oc o)] W (BoolPost (decide o.Pipe) W) := by
  obtain ⟨w1, hw, O, hb⟩ : ∃ w1, W.alloc (.cells (oc o) 41) = w1 ∧ Obl w1 W.heap.size 41 (oc o) ∧ Below W.heap.size W w1 := ⟨_, rfl, Obl.make W _ _, (Below.refl _ _).alloc (Nat.le_refl _) _⟩
  have k1 : w1.cell? ⟨W.heap.size, 1, none⟩ = some (.int .i64 o.kind) := O.cell 1
  have k0 : w1.cell? ⟨W.heap.size, 0, none⟩ = some (.int .u64 o.id) := O.cell 0
  have k27 : w1.cell? ⟨W.heap.size, 27, none⟩ = some (.int .i64 o.readers) := O.cell 27
  have k28 : w1.cell? ⟨W.heap.size, 28, none⟩ = some (.int .i64 o.writers) := O.cell 28
  have k24 : w1.cell? ⟨W.heap.size, 24, none⟩ = some (.slice o.data.A o.data.n o.data.c) := O.cell 24
  have z27 := O.free 27
  have R1 := O.put 27 (.int .i64 0)
  obtain ⟨w2, hw2⟩ : ∃ w2, w1.setCell ⟨W.heap.size, 27, none⟩ (.int .i64 0) = w2 := ⟨_, rfl⟩
  rw [hw2] at R1
  have z28 := R1.free 28
  have y28 : w2.cell? ⟨W.heap.size, 28, none⟩ = some (.int .i64 o.writers) := R1.cell 28
  have R2 := R1.put 28 (.int .i64 0)
  obtain ⟨w3, hw3⟩ : ∃ w3, w2.setCell ⟨W.heap.size, 28, none⟩ (.int .i64 0) = w3 := ⟨_, rfl⟩
  rw [hw3] at R2
  have z24 := R2.free 24
  have y24 : w3.cell? ⟨W.heap.size, 24, none⟩ = some (.slice o.data.A o.data.n o.data.c) := R2.cell 24
  have R : Obl (w3.setCell ⟨W.heap.size, 24, none⟩ (.slice none 0 0)) W.heap.size 41 (oc o.unpipe) := R2.put 24 (.slice none 0 0)
  have HB := hide (((hb.setCell (p := ⟨W.heap.size, 27, none⟩) (Nat.le_refl _) (.int .i64 0)).setCell (p := ⟨W.heap.size, 28, none⟩) (Nat.le_refl _) (.int .i64 0)).setCell (p := ⟨W.heap.size, 24, none⟩) (Nat.le_refl _) (.slice none 0 0))
  rw [hw2, hw3] at HB
  obtain ⟨w4, hw4⟩ : ∃ w4, w3.setCell ⟨W.heap.size, 24, none⟩ (.slice none 0 0) = w4 := ⟨_, rfl⟩
  rw [hw4] at R HB
  clear hb R1 R2
  by_cases h0 : o.kind = 5
  · have H0 := hide h0
    rw [h0] at k1
    clear h0
    by_cases h1 : ¬ o.id = 0
    · have H1 := hide h1
      have b1 : (o.id == 0) = false := by simpa using h1
      have c1 : (o.id != 0) = true := by simpa using h1
      clear h1
      by_cases h2 : 0 ≤ o.readers
      · have H2 := hide h2
        by_cases h3 : o.readers ≤ 1073741824
        · have H3 := hide h3
          by_cases h4 : 0 ≤ o.writers
          · have H4 := hide h4
            by_cases h5 : o.writers ≤ 1073741824
            · have H5 := hide h5
              by_cases h6 : 0 < o.readers + o.writers
              · have H6 := hide h6
                by_cases h7 : o.data.n ≤ 64
                · have H7 := hide h7
                  have i7 : (o.data.n : Int) ≤ 64 := by omega
                  clear h7
                  by_cases h8 : o.unpipe.Clear
                  · have H8 := hide h8
                    clear h8
                    go_enter Try.func18, Try.ntmps18
                    try dsimp only [List.append]
                    go_wp2_with (first | (refine wpList_val (by rfl) (exec_load_ob rfl rfl R) ?_) | (go_at_call 42; refine (bare_any o.unpipe _).mono ?_; rintro e u3 ⟨rfl, g3⟩; rw [show decide (o.unpipe.Clear) = true from decide_eq_true H8.out]) | fail)
                    go_ret
                    exact ⟨ret_bool (decide_eq_true (show o.Pipe from ⟨H0.out, H1.out, ⟨H2.out, H3.out, H4.out, H5.out, by have := H6.out; omega⟩, H7.out, (unpipe_clear o).1 H8.out⟩)).symm, (HB.out.trans (g3.mono HB.out.size))⟩
                  · have H8 := hide h8
                    clear h8
                    go_enter Try.func18, Try.ntmps18
                    try dsimp only [List.append]
                    go_wp2_with (first | (refine wpList_val (by rfl) (exec_load_ob rfl rfl R) ?_) | (go_at_call 42; refine (bare_any o.unpipe _).mono ?_; rintro e u3 ⟨rfl, g3⟩; rw [show decide (o.unpipe.Clear) = false from decide_eq_false H8.out]) | fail)
                    go_ret
                    exact ⟨ret_bool (decide_eq_false (fun hh : o.Pipe => H8.out ((unpipe_clear o).2 hh.2.2.2.2))).symm, (HB.out.trans (g3.mono HB.out.size))⟩
                · have H7 := hide h7
                  have i7 : ¬ (o.data.n : Int) ≤ 64 := by omega
                  clear h7
                  go_enter Try.func18, Try.ntmps18
                  try dsimp only [List.append]
                  go_wp2_with (first | fail)
                  go_ret
                  exact ⟨ret_bool (decide_eq_false (fun hh : o.Pipe => absurd (hh.2.2.2.1) (by have := H7.out; omega))).symm, HB.out⟩
              · have H6 := hide h6
                go_enter Try.func18, Try.ntmps18
                try dsimp only [List.append]
                go_wp2_with (first | fail)
                go_ret
                exact ⟨ret_bool (decide_eq_false (fun hh : o.Pipe => by obtain ⟨q1, q2, q3, q4, q5⟩ := hh.2.2.1; have := H6.out; omega)).symm, HB.out⟩
            · have H5 := hide h5
              go_enter Try.func18, Try.ntmps18
              try dsimp only [List.append]
              go_wp2_with (first | fail)
              go_ret
              exact ⟨ret_bool (decide_eq_false (fun hh : o.Pipe => absurd (hh.2.2.1.2.2.2.1) (by have := H5.out; omega))).symm, HB.out⟩
          · have H4 := hide h4
            go_enter Try.func18, Try.ntmps18
            try dsimp only [List.append]
            go_wp2_with (first | fail)
            go_ret
            exact ⟨ret_bool (decide_eq_false (fun hh : o.Pipe => absurd (hh.2.2.1.2.2.1) (by have := H4.out; omega))).symm, HB.out⟩
        · have H3 := hide h3
          go_enter Try.func18, Try.ntmps18
          try dsimp only [List.append]
          go_wp2_with (first | fail)
          go_ret
          exact ⟨ret_bool (decide_eq_false (fun hh : o.Pipe => absurd (hh.2.2.1.2.1) (by have := H3.out; omega))).symm, HB.out⟩
      · have H2 := hide h2
        go_enter Try.func18, Try.ntmps18
        try dsimp only [List.append]
        go_wp2_with (first | fail)
        go_ret
        exact ⟨ret_bool (decide_eq_false (fun hh : o.Pipe => absurd (hh.2.2.1.1) (by have := H2.out; omega))).symm, HB.out⟩
    · replace h1 := Decidable.not_not.1 h1
      have H1 := hide h1
      rw [h1] at k0
      clear h1
      go_enter Try.func18, Try.ntmps18
      try dsimp only [List.append]
      go_wp2_with (first | fail)
      go_ret
      exact ⟨ret_bool (decide_eq_false (fun hh : o.Pipe => hh.2.1 H1.out)).symm, HB.out⟩
  · have H0 := hide h0
    have b0 : (o.kind == 5) = false := by simpa using h0
    have c0 : (o.kind != 5) = true := by simpa using h0
    clear h0
    go_enter Try.func18, Try.ntmps18
    try dsimp only [List.append]
    go_wp2_with (first | fail)
    go_ret
    exact ⟨ret_bool (decide_eq_false (fun hh : o.Pipe => H0.out (hh.1))).symm, HB.out⟩
end Go.Proofs.Ytpibdfgcfhopaaa
