/- Layer 9: which objects have nothing but identifier and kind: package names's chains of conditions (written by tools/mkflvalid.py). | Layer 9: package names' Valid: a contract (written by tools/mknxnames.py). -/
import Derived.Test.YtejhnfeligifgaaDoorOb
import Derived.Test.YtejhnfeligifgaaDoorNxAre
import Derived.Test.YtejhnfeligifgaaDoorObMem
namespace Go.Proofs.YtejhnfeligifgaaDoor
open Go.RowKit

set_option maxRecDepth 100000 in
set_option maxHeartbeats 4000000 in
/-- Nothing of a program. -/
theorem nxNoProg_any (o : Ob) (W : World) : Calls Tryd.prog 87 #[.agg #[.slice o.code.A o.code.n o.code.c, .slice o.strs.A o.strs.n o.strs.c, .int .i64 o.ppages]] W (BoolPost (decide o.NoProg) W) := by
  obtain ⟨w1, hw, O, hb⟩ : ∃ w1, W.alloc (.cells #[.slice o.code.A o.code.n o.code.c, .slice o.strs.A o.strs.n o.strs.c, .int .i64 o.ppages] 27) = w1 ∧ Obl w1 W.heap.size 27 #[.slice o.code.A o.code.n o.code.c, .slice o.strs.A o.strs.n o.strs.c, .int .i64 o.ppages] ∧ Below W.heap.size W w1 := ⟨_, rfl, Obl.make W _ _, (Below.refl _ _).alloc (Nat.le_refl _) _⟩
  have HB := hide hb
  have lt := O.lt
  clear hb
  by_cases h0 : o.code.n = 0
  · by_cases h1 : o.strs.n = 0
    · by_cases h2 : o.ppages = 0
      · have k0 : w1.cell? ⟨W.heap.size, 0, none⟩ = some (.slice o.code.A 0 o.code.c) := (O.cell 0).trans (by show some (Value.slice o.code.A o.code.n o.code.c) = _; rw [h0])
        have H0 := hide h0
        clear h0
        have k1 : w1.cell? ⟨W.heap.size, 1, none⟩ = some (.slice o.strs.A 0 o.strs.c) := (O.cell 1).trans (by show some (Value.slice o.strs.A o.strs.n o.strs.c) = _; rw [h1])
        have H1 := hide h1
        clear h1
        have k2 : w1.cell? ⟨W.heap.size, 2, none⟩ = some (.int .i64 0) := (O.cell 2).trans (by show some (Value.int .i64 o.ppages) = _; rw [h2])
        have H2 := hide h2
        clear h2
        go_enter Tryd.func87, Tryd.ntmps87
        try dsimp only [List.append]
        go_wp2_with (first | fail)
        go_ret
        exact ⟨ret_bool (decide_eq_true (show o.NoProg from ⟨H0.out, H1.out, H2.out⟩)).symm, HB.out⟩
      · have k0 : w1.cell? ⟨W.heap.size, 0, none⟩ = some (.slice o.code.A 0 o.code.c) := (O.cell 0).trans (by show some (Value.slice o.code.A o.code.n o.code.c) = _; rw [h0])
        have H0 := hide h0
        clear h0
        have k1 : w1.cell? ⟨W.heap.size, 1, none⟩ = some (.slice o.strs.A 0 o.strs.c) := (O.cell 1).trans (by show some (Value.slice o.strs.A o.strs.n o.strs.c) = _; rw [h1])
        have H1 := hide h1
        clear h1
        have k2 : w1.cell? ⟨W.heap.size, 2, none⟩ = some (.int .i64 o.ppages) := (O.cell 2).trans (by show some (Value.int .i64 o.ppages) = _; rfl)
        have c2 : (o.ppages != 0) = true := by simpa using h2
        have b2 : (o.ppages == 0) = false := by simpa using h2
        have H2 := hide h2
        clear h2
        go_enter Tryd.func87, Tryd.ntmps87
        try dsimp only [List.append]
        go_wp2_with (first | fail)
        go_ret
        exact ⟨ret_bool (decide_eq_false (fun hh : o.NoProg => H2.out (hh.2.2))).symm, HB.out⟩
    · have k0 : w1.cell? ⟨W.heap.size, 0, none⟩ = some (.slice o.code.A 0 o.code.c) := (O.cell 0).trans (by show some (Value.slice o.code.A o.code.n o.code.c) = _; rw [h0])
      have H0 := hide h0
      clear h0
      have k1 : w1.cell? ⟨W.heap.size, 1, none⟩ = some (.slice o.strs.A o.strs.n o.strs.c) := (O.cell 1).trans (by show some (Value.slice o.strs.A o.strs.n o.strs.c) = _; rfl)
      have b1 : (((o.strs.n : Nat) : Int) == 0) = false := by simp; omega
      have e1 : ¬ ((o.strs.n : Nat) : Int) = 0 := by omega
      have H1 := hide h1
      clear h1
      go_enter Tryd.func87, Tryd.ntmps87
      try dsimp only [List.append]
      go_wp2_with (first | fail)
      go_ret
      exact ⟨ret_bool (decide_eq_false (fun hh : o.NoProg => H1.out (hh.2.1))).symm, HB.out⟩
  · have k0 : w1.cell? ⟨W.heap.size, 0, none⟩ = some (.slice o.code.A o.code.n o.code.c) := (O.cell 0).trans (by show some (Value.slice o.code.A o.code.n o.code.c) = _; rfl)
    have b0 : (((o.code.n : Nat) : Int) == 0) = false := by simp; omega
    have e0 : ¬ ((o.code.n : Nat) : Int) = 0 := by omega
    have H0 := hide h0
    clear h0
    go_enter Tryd.func87, Tryd.ntmps87
    try dsimp only [List.append]
    go_wp2_with (first | fail)
    go_ret
    exact ⟨ret_bool (decide_eq_false (fun hh : o.NoProg => H0.out (hh.1))).symm, HB.out⟩
set_option maxRecDepth 100000 in
set_option maxHeartbeats 4000000 in
/-- Nothing of a process. -/
theorem nxNoProc_any (o : Ob) (W : World) : Calls Tryd.prog 74 #[.agg (pcell o)] W (BoolPost (decide o.NoProc) W) := by
  obtain ⟨w1, hw, O, hb⟩ : ∃ w1, W.alloc (.cells (pcell o) 34) = w1 ∧ Obl w1 W.heap.size 34 (pcell o) ∧ Below W.heap.size W w1 := ⟨_, rfl, Obl.make W _ _, (Below.refl _ _).alloc (Nat.le_refl _) _⟩
  have HB := hide hb
  have lt := O.lt
  clear hb
  by_cases h0 : o.state = 0
  · by_cases h1 : o.parent = 0
    · by_cases h2 : o.children.n = 0
      · by_cases h3 : o.NoProg
        · by_cases h4 : o.cpu = Ob.noCpu
          · by_cases h5 : o.pages.n = 0
            · by_cases h6 : o.table.n = 0
              · by_cases h7 : o.pending = 0
                · by_cases h8 : o.alarm = 0
                  · by_cases h9 : o.status = 0
                    · have k0 : w1.cell? ⟨W.heap.size, 0, none⟩ = some (.int .i64 0) := (O.cell 0).trans (by show some (Value.int .i64 o.state) = _; rw [h0])
                      have H0 := hide h0
                      clear h0
                      have k1 : w1.cell? ⟨W.heap.size, 1, none⟩ = some (.int .u64 0) := (O.cell 1).trans (by show some (Value.int .u64 o.parent) = _; rw [h1])
                      have H1 := hide h1
                      clear h1
                      have k2 : w1.cell? ⟨W.heap.size, 2, none⟩ = some (.slice o.children.A 0 o.children.c) := (O.cell 2).trans (by show some (Value.slice o.children.A o.children.n o.children.c) = _; rw [h2])
                      have H2 := hide h2
                      clear h2
                      have H3 := hide h3
                      clear h3
                      have H4 := hide h4
                      clear h4
                      have k5 : w1.cell? ⟨W.heap.size, 15, none⟩ = some (.slice o.pages.A 0 o.pages.c) := (O.cell 15).trans (by show some (Value.slice o.pages.A o.pages.n o.pages.c) = _; rw [h5])
                      have H5 := hide h5
                      clear h5
                      have k6 : w1.cell? ⟨W.heap.size, 16, none⟩ = some (.slice o.table.A 0 o.table.c) := (O.cell 16).trans (by show some (Value.slice o.table.A o.table.n o.table.c) = _; rw [h6])
                      have H6 := hide h6
                      clear h6
                      have k7 : w1.cell? ⟨W.heap.size, 17, none⟩ = some (.int .i64 0) := (O.cell 17).trans (by show some (Value.int .i64 o.pending) = _; rw [h7])
                      have H7 := hide h7
                      clear h7
                      have k8 : w1.cell? ⟨W.heap.size, 18, none⟩ = some (.int .i64 0) := (O.cell 18).trans (by show some (Value.int .i64 o.alarm) = _; rw [h8])
                      have H8 := hide h8
                      clear h8
                      have k9 : w1.cell? ⟨W.heap.size, 19, none⟩ = some (.int .i64 0) := (O.cell 19).trans (by show some (Value.int .i64 o.status) = _; rw [h9])
                      have H9 := hide h9
                      clear h9
                      go_enter Tryd.func74, Tryd.ntmps74
                      try dsimp only [List.append]
                      go_wp2_with (first | (refine wpList_val (by rfl) (exec_load_prog rfl rfl O) ?_) | (go_at_call 87; refine (nxNoProg_any o _).mono ?_; rintro e u3 ⟨rfl, g3⟩; have m5 := (g3.cell (p := ⟨W.heap.size, 15, none⟩) O.lt).trans k5; have m6 := (g3.cell (p := ⟨W.heap.size, 16, none⟩) O.lt).trans k6; have m7 := (g3.cell (p := ⟨W.heap.size, 17, none⟩) O.lt).trans k7; have m8 := (g3.cell (p := ⟨W.heap.size, 18, none⟩) O.lt).trans k8; have m9 := (g3.cell (p := ⟨W.heap.size, 19, none⟩) O.lt).trans k9; rw [show decide (o.NoProg) = true from decide_eq_true H3.out]) | (refine wpList_val (by rfl) (exec_load_pcpu rfl rfl (O.below g3 O.lt)) ?_) | (refine wpList_val (by rfl) (exec_build rfl (vs := []) rfl built_nocpu) ?_) | (refine wpList_val (by rfl) (exec_eql_cpu rfl rfl rfl (x := o.cpu) (y := Ob.noCpu) rfl rfl) ?_; rw [show decide (o.cpu = Ob.noCpu) = true from decide_eq_true H4.out]) | fail)
                      go_ret
                      exact ⟨ret_bool (decide_eq_true (show o.NoProc from ⟨H0.out, H1.out, H2.out, H3.out, H4.out, H5.out, H6.out, H7.out, H8.out, H9.out⟩)).symm, (HB.out).trans (g3.mono (HB.out).size)⟩
                    · have k0 : w1.cell? ⟨W.heap.size, 0, none⟩ = some (.int .i64 0) := (O.cell 0).trans (by show some (Value.int .i64 o.state) = _; rw [h0])
                      have H0 := hide h0
                      clear h0
                      have k1 : w1.cell? ⟨W.heap.size, 1, none⟩ = some (.int .u64 0) := (O.cell 1).trans (by show some (Value.int .u64 o.parent) = _; rw [h1])
                      have H1 := hide h1
                      clear h1
                      have k2 : w1.cell? ⟨W.heap.size, 2, none⟩ = some (.slice o.children.A 0 o.children.c) := (O.cell 2).trans (by show some (Value.slice o.children.A o.children.n o.children.c) = _; rw [h2])
                      have H2 := hide h2
                      clear h2
                      have H3 := hide h3
                      clear h3
                      have H4 := hide h4
                      clear h4
                      have k5 : w1.cell? ⟨W.heap.size, 15, none⟩ = some (.slice o.pages.A 0 o.pages.c) := (O.cell 15).trans (by show some (Value.slice o.pages.A o.pages.n o.pages.c) = _; rw [h5])
                      have H5 := hide h5
                      clear h5
                      have k6 : w1.cell? ⟨W.heap.size, 16, none⟩ = some (.slice o.table.A 0 o.table.c) := (O.cell 16).trans (by show some (Value.slice o.table.A o.table.n o.table.c) = _; rw [h6])
                      have H6 := hide h6
                      clear h6
                      have k7 : w1.cell? ⟨W.heap.size, 17, none⟩ = some (.int .i64 0) := (O.cell 17).trans (by show some (Value.int .i64 o.pending) = _; rw [h7])
                      have H7 := hide h7
                      clear h7
                      have k8 : w1.cell? ⟨W.heap.size, 18, none⟩ = some (.int .i64 0) := (O.cell 18).trans (by show some (Value.int .i64 o.alarm) = _; rw [h8])
                      have H8 := hide h8
                      clear h8
                      have k9 : w1.cell? ⟨W.heap.size, 19, none⟩ = some (.int .i64 o.status) := (O.cell 19).trans (by show some (Value.int .i64 o.status) = _; rfl)
                      have c9 : (o.status != 0) = true := by simpa using h9
                      have b9 : (o.status == 0) = false := by simpa using h9
                      have H9 := hide h9
                      clear h9
                      go_enter Tryd.func74, Tryd.ntmps74
                      try dsimp only [List.append]
                      go_wp2_with (first | (refine wpList_val (by rfl) (exec_load_prog rfl rfl O) ?_) | (go_at_call 87; refine (nxNoProg_any o _).mono ?_; rintro e u3 ⟨rfl, g3⟩; have m5 := (g3.cell (p := ⟨W.heap.size, 15, none⟩) O.lt).trans k5; have m6 := (g3.cell (p := ⟨W.heap.size, 16, none⟩) O.lt).trans k6; have m7 := (g3.cell (p := ⟨W.heap.size, 17, none⟩) O.lt).trans k7; have m8 := (g3.cell (p := ⟨W.heap.size, 18, none⟩) O.lt).trans k8; have m9 := (g3.cell (p := ⟨W.heap.size, 19, none⟩) O.lt).trans k9; rw [show decide (o.NoProg) = true from decide_eq_true H3.out]) | (refine wpList_val (by rfl) (exec_load_pcpu rfl rfl (O.below g3 O.lt)) ?_) | (refine wpList_val (by rfl) (exec_build rfl (vs := []) rfl built_nocpu) ?_) | (refine wpList_val (by rfl) (exec_eql_cpu rfl rfl rfl (x := o.cpu) (y := Ob.noCpu) rfl rfl) ?_; rw [show decide (o.cpu = Ob.noCpu) = true from decide_eq_true H4.out]) | fail)
                      go_ret
                      exact ⟨ret_bool (decide_eq_false (fun hh : o.NoProc => H9.out (hh.2.2.2.2.2.2.2.2.2))).symm, (HB.out).trans (g3.mono (HB.out).size)⟩
                  · have k0 : w1.cell? ⟨W.heap.size, 0, none⟩ = some (.int .i64 0) := (O.cell 0).trans (by show some (Value.int .i64 o.state) = _; rw [h0])
                    have H0 := hide h0
                    clear h0
                    have k1 : w1.cell? ⟨W.heap.size, 1, none⟩ = some (.int .u64 0) := (O.cell 1).trans (by show some (Value.int .u64 o.parent) = _; rw [h1])
                    have H1 := hide h1
                    clear h1
                    have k2 : w1.cell? ⟨W.heap.size, 2, none⟩ = some (.slice o.children.A 0 o.children.c) := (O.cell 2).trans (by show some (Value.slice o.children.A o.children.n o.children.c) = _; rw [h2])
                    have H2 := hide h2
                    clear h2
                    have H3 := hide h3
                    clear h3
                    have H4 := hide h4
                    clear h4
                    have k5 : w1.cell? ⟨W.heap.size, 15, none⟩ = some (.slice o.pages.A 0 o.pages.c) := (O.cell 15).trans (by show some (Value.slice o.pages.A o.pages.n o.pages.c) = _; rw [h5])
                    have H5 := hide h5
                    clear h5
                    have k6 : w1.cell? ⟨W.heap.size, 16, none⟩ = some (.slice o.table.A 0 o.table.c) := (O.cell 16).trans (by show some (Value.slice o.table.A o.table.n o.table.c) = _; rw [h6])
                    have H6 := hide h6
                    clear h6
                    have k7 : w1.cell? ⟨W.heap.size, 17, none⟩ = some (.int .i64 0) := (O.cell 17).trans (by show some (Value.int .i64 o.pending) = _; rw [h7])
                    have H7 := hide h7
                    clear h7
                    have k8 : w1.cell? ⟨W.heap.size, 18, none⟩ = some (.int .i64 o.alarm) := (O.cell 18).trans (by show some (Value.int .i64 o.alarm) = _; rfl)
                    have c8 : (o.alarm != 0) = true := by simpa using h8
                    have b8 : (o.alarm == 0) = false := by simpa using h8
                    have H8 := hide h8
                    clear h8
                    go_enter Tryd.func74, Tryd.ntmps74
                    try dsimp only [List.append]
                    go_wp2_with (first | (refine wpList_val (by rfl) (exec_load_prog rfl rfl O) ?_) | (go_at_call 87; refine (nxNoProg_any o _).mono ?_; rintro e u3 ⟨rfl, g3⟩; have m5 := (g3.cell (p := ⟨W.heap.size, 15, none⟩) O.lt).trans k5; have m6 := (g3.cell (p := ⟨W.heap.size, 16, none⟩) O.lt).trans k6; have m7 := (g3.cell (p := ⟨W.heap.size, 17, none⟩) O.lt).trans k7; have m8 := (g3.cell (p := ⟨W.heap.size, 18, none⟩) O.lt).trans k8; rw [show decide (o.NoProg) = true from decide_eq_true H3.out]) | (refine wpList_val (by rfl) (exec_load_pcpu rfl rfl (O.below g3 O.lt)) ?_) | (refine wpList_val (by rfl) (exec_build rfl (vs := []) rfl built_nocpu) ?_) | (refine wpList_val (by rfl) (exec_eql_cpu rfl rfl rfl (x := o.cpu) (y := Ob.noCpu) rfl rfl) ?_; rw [show decide (o.cpu = Ob.noCpu) = true from decide_eq_true H4.out]) | fail)
                    go_ret
                    exact ⟨ret_bool (decide_eq_false (fun hh : o.NoProc => H8.out (hh.2.2.2.2.2.2.2.2.1))).symm, (HB.out).trans (g3.mono (HB.out).size)⟩
                · have k0 : w1.cell? ⟨W.heap.size, 0, none⟩ = some (.int .i64 0) := (O.cell 0).trans (by show some (Value.int .i64 o.state) = _; rw [h0])
                  have H0 := hide h0
                  clear h0
                  have k1 : w1.cell? ⟨W.heap.size, 1, none⟩ = some (.int .u64 0) := (O.cell 1).trans (by show some (Value.int .u64 o.parent) = _; rw [h1])
                  have H1 := hide h1
                  clear h1
                  have k2 : w1.cell? ⟨W.heap.size, 2, none⟩ = some (.slice o.children.A 0 o.children.c) := (O.cell 2).trans (by show some (Value.slice o.children.A o.children.n o.children.c) = _; rw [h2])
                  have H2 := hide h2
                  clear h2
                  have H3 := hide h3
                  clear h3
                  have H4 := hide h4
                  clear h4
                  have k5 : w1.cell? ⟨W.heap.size, 15, none⟩ = some (.slice o.pages.A 0 o.pages.c) := (O.cell 15).trans (by show some (Value.slice o.pages.A o.pages.n o.pages.c) = _; rw [h5])
                  have H5 := hide h5
                  clear h5
                  have k6 : w1.cell? ⟨W.heap.size, 16, none⟩ = some (.slice o.table.A 0 o.table.c) := (O.cell 16).trans (by show some (Value.slice o.table.A o.table.n o.table.c) = _; rw [h6])
                  have H6 := hide h6
                  clear h6
                  have k7 : w1.cell? ⟨W.heap.size, 17, none⟩ = some (.int .i64 o.pending) := (O.cell 17).trans (by show some (Value.int .i64 o.pending) = _; rfl)
                  have c7 : (o.pending != 0) = true := by simpa using h7
                  have b7 : (o.pending == 0) = false := by simpa using h7
                  have H7 := hide h7
                  clear h7
                  go_enter Tryd.func74, Tryd.ntmps74
                  try dsimp only [List.append]
                  go_wp2_with (first | (refine wpList_val (by rfl) (exec_load_prog rfl rfl O) ?_) | (go_at_call 87; refine (nxNoProg_any o _).mono ?_; rintro e u3 ⟨rfl, g3⟩; have m5 := (g3.cell (p := ⟨W.heap.size, 15, none⟩) O.lt).trans k5; have m6 := (g3.cell (p := ⟨W.heap.size, 16, none⟩) O.lt).trans k6; have m7 := (g3.cell (p := ⟨W.heap.size, 17, none⟩) O.lt).trans k7; rw [show decide (o.NoProg) = true from decide_eq_true H3.out]) | (refine wpList_val (by rfl) (exec_load_pcpu rfl rfl (O.below g3 O.lt)) ?_) | (refine wpList_val (by rfl) (exec_build rfl (vs := []) rfl built_nocpu) ?_) | (refine wpList_val (by rfl) (exec_eql_cpu rfl rfl rfl (x := o.cpu) (y := Ob.noCpu) rfl rfl) ?_; rw [show decide (o.cpu = Ob.noCpu) = true from decide_eq_true H4.out]) | fail)
                  go_ret
                  exact ⟨ret_bool (decide_eq_false (fun hh : o.NoProc => H7.out (hh.2.2.2.2.2.2.2.1))).symm, (HB.out).trans (g3.mono (HB.out).size)⟩
              · have k0 : w1.cell? ⟨W.heap.size, 0, none⟩ = some (.int .i64 0) := (O.cell 0).trans (by show some (Value.int .i64 o.state) = _; rw [h0])
                have H0 := hide h0
                clear h0
                have k1 : w1.cell? ⟨W.heap.size, 1, none⟩ = some (.int .u64 0) := (O.cell 1).trans (by show some (Value.int .u64 o.parent) = _; rw [h1])
                have H1 := hide h1
                clear h1
                have k2 : w1.cell? ⟨W.heap.size, 2, none⟩ = some (.slice o.children.A 0 o.children.c) := (O.cell 2).trans (by show some (Value.slice o.children.A o.children.n o.children.c) = _; rw [h2])
                have H2 := hide h2
                clear h2
                have H3 := hide h3
                clear h3
                have H4 := hide h4
                clear h4
                have k5 : w1.cell? ⟨W.heap.size, 15, none⟩ = some (.slice o.pages.A 0 o.pages.c) := (O.cell 15).trans (by show some (Value.slice o.pages.A o.pages.n o.pages.c) = _; rw [h5])
                have H5 := hide h5
                clear h5
                have k6 : w1.cell? ⟨W.heap.size, 16, none⟩ = some (.slice o.table.A o.table.n o.table.c) := (O.cell 16).trans (by show some (Value.slice o.table.A o.table.n o.table.c) = _; rfl)
                have b6 : (((o.table.n : Nat) : Int) == 0) = false := by simp; omega
                have e6 : ¬ ((o.table.n : Nat) : Int) = 0 := by omega
                have H6 := hide h6
                clear h6
                go_enter Tryd.func74, Tryd.ntmps74
                try dsimp only [List.append]
                go_wp2_with (first | (refine wpList_val (by rfl) (exec_load_prog rfl rfl O) ?_) | (go_at_call 87; refine (nxNoProg_any o _).mono ?_; rintro e u3 ⟨rfl, g3⟩; have m5 := (g3.cell (p := ⟨W.heap.size, 15, none⟩) O.lt).trans k5; have m6 := (g3.cell (p := ⟨W.heap.size, 16, none⟩) O.lt).trans k6; rw [show decide (o.NoProg) = true from decide_eq_true H3.out]) | (refine wpList_val (by rfl) (exec_load_pcpu rfl rfl (O.below g3 O.lt)) ?_) | (refine wpList_val (by rfl) (exec_build rfl (vs := []) rfl built_nocpu) ?_) | (refine wpList_val (by rfl) (exec_eql_cpu rfl rfl rfl (x := o.cpu) (y := Ob.noCpu) rfl rfl) ?_; rw [show decide (o.cpu = Ob.noCpu) = true from decide_eq_true H4.out]) | fail)
                go_ret
                exact ⟨ret_bool (decide_eq_false (fun hh : o.NoProc => H6.out (hh.2.2.2.2.2.2.1))).symm, (HB.out).trans (g3.mono (HB.out).size)⟩
            · have k0 : w1.cell? ⟨W.heap.size, 0, none⟩ = some (.int .i64 0) := (O.cell 0).trans (by show some (Value.int .i64 o.state) = _; rw [h0])
              have H0 := hide h0
              clear h0
              have k1 : w1.cell? ⟨W.heap.size, 1, none⟩ = some (.int .u64 0) := (O.cell 1).trans (by show some (Value.int .u64 o.parent) = _; rw [h1])
              have H1 := hide h1
              clear h1
              have k2 : w1.cell? ⟨W.heap.size, 2, none⟩ = some (.slice o.children.A 0 o.children.c) := (O.cell 2).trans (by show some (Value.slice o.children.A o.children.n o.children.c) = _; rw [h2])
              have H2 := hide h2
              clear h2
              have H3 := hide h3
              clear h3
              have H4 := hide h4
              clear h4
              have k5 : w1.cell? ⟨W.heap.size, 15, none⟩ = some (.slice o.pages.A o.pages.n o.pages.c) := (O.cell 15).trans (by show some (Value.slice o.pages.A o.pages.n o.pages.c) = _; rfl)
              have b5 : (((o.pages.n : Nat) : Int) == 0) = false := by simp; omega
              have e5 : ¬ ((o.pages.n : Nat) : Int) = 0 := by omega
              have H5 := hide h5
              clear h5
              go_enter Tryd.func74, Tryd.ntmps74
              try dsimp only [List.append]
              go_wp2_with (first | (refine wpList_val (by rfl) (exec_load_prog rfl rfl O) ?_) | (go_at_call 87; refine (nxNoProg_any o _).mono ?_; rintro e u3 ⟨rfl, g3⟩; have m5 := (g3.cell (p := ⟨W.heap.size, 15, none⟩) O.lt).trans k5; rw [show decide (o.NoProg) = true from decide_eq_true H3.out]) | (refine wpList_val (by rfl) (exec_load_pcpu rfl rfl (O.below g3 O.lt)) ?_) | (refine wpList_val (by rfl) (exec_build rfl (vs := []) rfl built_nocpu) ?_) | (refine wpList_val (by rfl) (exec_eql_cpu rfl rfl rfl (x := o.cpu) (y := Ob.noCpu) rfl rfl) ?_; rw [show decide (o.cpu = Ob.noCpu) = true from decide_eq_true H4.out]) | fail)
              go_ret
              exact ⟨ret_bool (decide_eq_false (fun hh : o.NoProc => H5.out (hh.2.2.2.2.2.1))).symm, (HB.out).trans (g3.mono (HB.out).size)⟩
          · have k0 : w1.cell? ⟨W.heap.size, 0, none⟩ = some (.int .i64 0) := (O.cell 0).trans (by show some (Value.int .i64 o.state) = _; rw [h0])
            have H0 := hide h0
            clear h0
            have k1 : w1.cell? ⟨W.heap.size, 1, none⟩ = some (.int .u64 0) := (O.cell 1).trans (by show some (Value.int .u64 o.parent) = _; rw [h1])
            have H1 := hide h1
            clear h1
            have k2 : w1.cell? ⟨W.heap.size, 2, none⟩ = some (.slice o.children.A 0 o.children.c) := (O.cell 2).trans (by show some (Value.slice o.children.A o.children.n o.children.c) = _; rw [h2])
            have H2 := hide h2
            clear h2
            have H3 := hide h3
            clear h3
            have H4 := hide h4
            clear h4
            go_enter Tryd.func74, Tryd.ntmps74
            try dsimp only [List.append]
            go_wp2_with (first | (refine wpList_val (by rfl) (exec_load_prog rfl rfl O) ?_) | (go_at_call 87; refine (nxNoProg_any o _).mono ?_; rintro e u3 ⟨rfl, g3⟩; rw [show decide (o.NoProg) = true from decide_eq_true H3.out]) | (refine wpList_val (by rfl) (exec_load_pcpu rfl rfl (O.below g3 O.lt)) ?_) | (refine wpList_val (by rfl) (exec_build rfl (vs := []) rfl built_nocpu) ?_) | (refine wpList_val (by rfl) (exec_eql_cpu rfl rfl rfl (x := o.cpu) (y := Ob.noCpu) rfl rfl) ?_; rw [show decide (o.cpu = Ob.noCpu) = false from decide_eq_false H4.out]) | fail)
            go_ret
            exact ⟨ret_bool (decide_eq_false (fun hh : o.NoProc => H4.out (hh.2.2.2.2.1))).symm, (HB.out).trans (g3.mono (HB.out).size)⟩
        · have k0 : w1.cell? ⟨W.heap.size, 0, none⟩ = some (.int .i64 0) := (O.cell 0).trans (by show some (Value.int .i64 o.state) = _; rw [h0])
          have H0 := hide h0
          clear h0
          have k1 : w1.cell? ⟨W.heap.size, 1, none⟩ = some (.int .u64 0) := (O.cell 1).trans (by show some (Value.int .u64 o.parent) = _; rw [h1])
          have H1 := hide h1
          clear h1
          have k2 : w1.cell? ⟨W.heap.size, 2, none⟩ = some (.slice o.children.A 0 o.children.c) := (O.cell 2).trans (by show some (Value.slice o.children.A o.children.n o.children.c) = _; rw [h2])
          have H2 := hide h2
          clear h2
          have H3 := hide h3
          clear h3
          go_enter Tryd.func74, Tryd.ntmps74
          try dsimp only [List.append]
          go_wp2_with (first | (refine wpList_val (by rfl) (exec_load_prog rfl rfl O) ?_) | (go_at_call 87; refine (nxNoProg_any o _).mono ?_; rintro e u3 ⟨rfl, g3⟩; rw [show decide (o.NoProg) = false from decide_eq_false H3.out]) | fail)
          go_ret
          exact ⟨ret_bool (decide_eq_false (fun hh : o.NoProc => H3.out (hh.2.2.2.1))).symm, (HB.out).trans (g3.mono (HB.out).size)⟩
      · have k0 : w1.cell? ⟨W.heap.size, 0, none⟩ = some (.int .i64 0) := (O.cell 0).trans (by show some (Value.int .i64 o.state) = _; rw [h0])
        have H0 := hide h0
        clear h0
        have k1 : w1.cell? ⟨W.heap.size, 1, none⟩ = some (.int .u64 0) := (O.cell 1).trans (by show some (Value.int .u64 o.parent) = _; rw [h1])
        have H1 := hide h1
        clear h1
        have k2 : w1.cell? ⟨W.heap.size, 2, none⟩ = some (.slice o.children.A o.children.n o.children.c) := (O.cell 2).trans (by show some (Value.slice o.children.A o.children.n o.children.c) = _; rfl)
        have b2 : (((o.children.n : Nat) : Int) == 0) = false := by simp; omega
        have e2 : ¬ ((o.children.n : Nat) : Int) = 0 := by omega
        have H2 := hide h2
        clear h2
        go_enter Tryd.func74, Tryd.ntmps74
        try dsimp only [List.append]
        go_wp2_with (first | fail)
        go_ret
        exact ⟨ret_bool (decide_eq_false (fun hh : o.NoProc => H2.out (hh.2.2.1))).symm, HB.out⟩
    · have k0 : w1.cell? ⟨W.heap.size, 0, none⟩ = some (.int .i64 0) := (O.cell 0).trans (by show some (Value.int .i64 o.state) = _; rw [h0])
      have H0 := hide h0
      clear h0
      have k1 : w1.cell? ⟨W.heap.size, 1, none⟩ = some (.int .u64 o.parent) := (O.cell 1).trans (by show some (Value.int .u64 o.parent) = _; rfl)
      have c1 : (o.parent != 0) = true := by simpa using h1
      have b1 : (o.parent == 0) = false := by simpa using h1
      have H1 := hide h1
      clear h1
      go_enter Tryd.func74, Tryd.ntmps74
      try dsimp only [List.append]
      go_wp2_with (first | fail)
      go_ret
      exact ⟨ret_bool (decide_eq_false (fun hh : o.NoProc => H1.out (hh.2.1))).symm, HB.out⟩
  · have k0 : w1.cell? ⟨W.heap.size, 0, none⟩ = some (.int .i64 o.state) := (O.cell 0).trans (by show some (Value.int .i64 o.state) = _; rfl)
    have c0 : (o.state != 0) = true := by simpa using h0
    have b0 : (o.state == 0) = false := by simpa using h0
    have H0 := hide h0
    clear h0
    go_enter Tryd.func74, Tryd.ntmps74
    try dsimp only [List.append]
    go_wp2_with (first | fail)
    go_ret
    exact ⟨ret_bool (decide_eq_false (fun hh : o.NoProc => H0.out (hh.1))).symm, HB.out⟩
set_option maxRecDepth 100000 in
set_option maxHeartbeats 4000000 in
/-- No numbers. -/
theorem nxNoNumbers_any (o : Ob) (W : World) : Calls Tryd.prog 72 #[.agg (oc o)] W (BoolPost (decide o.Counts) W) := by
  obtain ⟨w1, hw, O, hb⟩ : ∃ w1, W.alloc (.cells (oc o) 41) = w1 ∧ Obl w1 W.heap.size 41 (oc o) ∧ Below W.heap.size W w1 := ⟨_, rfl, Obl.make W _ _, (Below.refl _ _).alloc (Nat.le_refl _) _⟩
  have HB := hide hb
  have lt := O.lt
  clear hb
  by_cases h0 : o.refs = 0
  · by_cases h1 : o.offset = 0
    · by_cases h2 : o.target = 0
      · by_cases h3 : o.readers = 0
        · by_cases h4 : o.writers = 0
          · by_cases h5 : [o.e0, o.e1] = [0, 0]
            · by_cases h6 : o.count = 0
              · have k0 : w1.cell? ⟨W.heap.size, 2, none⟩ = some (.int .i64 0) := (O.cell 2).trans (by show some (Value.int .i64 o.refs) = _; rw [h0])
                have H0 := hide h0
                clear h0
                have k1 : w1.cell? ⟨W.heap.size, 25, none⟩ = some (.int .i64 0) := (O.cell 25).trans (by show some (Value.int .i64 o.offset) = _; rw [h1])
                have H1 := hide h1
                clear h1
                have k2 : w1.cell? ⟨W.heap.size, 26, none⟩ = some (.int .u64 0) := (O.cell 26).trans (by show some (Value.int .u64 o.target) = _; rw [h2])
                have H2 := hide h2
                clear h2
                have k3 : w1.cell? ⟨W.heap.size, 27, none⟩ = some (.int .i64 0) := (O.cell 27).trans (by show some (Value.int .i64 o.readers) = _; rw [h3])
                have H3 := hide h3
                clear h3
                have k4 : w1.cell? ⟨W.heap.size, 28, none⟩ = some (.int .i64 0) := (O.cell 28).trans (by show some (Value.int .i64 o.writers) = _; rw [h4])
                have H4 := hide h4
                clear h4
                have H5 := hide h5
                clear h5
                have k6 : w1.cell? ⟨W.heap.size, 34, none⟩ = some (.int .i64 0) := (O.cell 34).trans (by show some (Value.int .i64 o.count) = _; rw [h6])
                have H6 := hide h6
                clear h6
                go_enter Tryd.func72, Tryd.ntmps72
                try dsimp only [List.append]
                go_wp2_with (first | (refine wpList_val (by rfl) (exec_load_ends rfl rfl O) ?_) | (refine wpList_val (by rfl) (exec_build rfl (vs := []) rfl built_ends) ?_) | (refine wpList_val (by rfl) (exec_eql_ends (L := [o.e0, o.e1]) (M := [0, 0]) rfl rfl rfl rfl rfl) ?_; rw [show decide ([o.e0, o.e1] = [0, 0]) = true from decide_eq_true H5.out]) | fail)
                go_ret
                exact ⟨ret_bool (decide_eq_true (show o.Counts from ⟨H0.out, H1.out, H2.out, H3.out, H4.out, H5.out, H6.out⟩)).symm, HB.out⟩
              · have k0 : w1.cell? ⟨W.heap.size, 2, none⟩ = some (.int .i64 0) := (O.cell 2).trans (by show some (Value.int .i64 o.refs) = _; rw [h0])
                have H0 := hide h0
                clear h0
                have k1 : w1.cell? ⟨W.heap.size, 25, none⟩ = some (.int .i64 0) := (O.cell 25).trans (by show some (Value.int .i64 o.offset) = _; rw [h1])
                have H1 := hide h1
                clear h1
                have k2 : w1.cell? ⟨W.heap.size, 26, none⟩ = some (.int .u64 0) := (O.cell 26).trans (by show some (Value.int .u64 o.target) = _; rw [h2])
                have H2 := hide h2
                clear h2
                have k3 : w1.cell? ⟨W.heap.size, 27, none⟩ = some (.int .i64 0) := (O.cell 27).trans (by show some (Value.int .i64 o.readers) = _; rw [h3])
                have H3 := hide h3
                clear h3
                have k4 : w1.cell? ⟨W.heap.size, 28, none⟩ = some (.int .i64 0) := (O.cell 28).trans (by show some (Value.int .i64 o.writers) = _; rw [h4])
                have H4 := hide h4
                clear h4
                have H5 := hide h5
                clear h5
                have k6 : w1.cell? ⟨W.heap.size, 34, none⟩ = some (.int .i64 o.count) := (O.cell 34).trans (by show some (Value.int .i64 o.count) = _; rfl)
                have c6 : (o.count != 0) = true := by simpa using h6
                have b6 : (o.count == 0) = false := by simpa using h6
                have H6 := hide h6
                clear h6
                go_enter Tryd.func72, Tryd.ntmps72
                try dsimp only [List.append]
                go_wp2_with (first | (refine wpList_val (by rfl) (exec_load_ends rfl rfl O) ?_) | (refine wpList_val (by rfl) (exec_build rfl (vs := []) rfl built_ends) ?_) | (refine wpList_val (by rfl) (exec_eql_ends (L := [o.e0, o.e1]) (M := [0, 0]) rfl rfl rfl rfl rfl) ?_; rw [show decide ([o.e0, o.e1] = [0, 0]) = true from decide_eq_true H5.out]) | fail)
                go_ret
                exact ⟨ret_bool (decide_eq_false (fun hh : o.Counts => H6.out (hh.2.2.2.2.2.2))).symm, HB.out⟩
            · have k0 : w1.cell? ⟨W.heap.size, 2, none⟩ = some (.int .i64 0) := (O.cell 2).trans (by show some (Value.int .i64 o.refs) = _; rw [h0])
              have H0 := hide h0
              clear h0
              have k1 : w1.cell? ⟨W.heap.size, 25, none⟩ = some (.int .i64 0) := (O.cell 25).trans (by show some (Value.int .i64 o.offset) = _; rw [h1])
              have H1 := hide h1
              clear h1
              have k2 : w1.cell? ⟨W.heap.size, 26, none⟩ = some (.int .u64 0) := (O.cell 26).trans (by show some (Value.int .u64 o.target) = _; rw [h2])
              have H2 := hide h2
              clear h2
              have k3 : w1.cell? ⟨W.heap.size, 27, none⟩ = some (.int .i64 0) := (O.cell 27).trans (by show some (Value.int .i64 o.readers) = _; rw [h3])
              have H3 := hide h3
              clear h3
              have k4 : w1.cell? ⟨W.heap.size, 28, none⟩ = some (.int .i64 0) := (O.cell 28).trans (by show some (Value.int .i64 o.writers) = _; rw [h4])
              have H4 := hide h4
              clear h4
              have H5 := hide h5
              clear h5
              go_enter Tryd.func72, Tryd.ntmps72
              try dsimp only [List.append]
              go_wp2_with (first | (refine wpList_val (by rfl) (exec_load_ends rfl rfl O) ?_) | (refine wpList_val (by rfl) (exec_build rfl (vs := []) rfl built_ends) ?_) | (refine wpList_val (by rfl) (exec_eql_ends (L := [o.e0, o.e1]) (M := [0, 0]) rfl rfl rfl rfl rfl) ?_; rw [show decide ([o.e0, o.e1] = [0, 0]) = false from decide_eq_false H5.out]) | fail)
              go_ret
              exact ⟨ret_bool (decide_eq_false (fun hh : o.Counts => H5.out (hh.2.2.2.2.2.1))).symm, HB.out⟩
          · have k0 : w1.cell? ⟨W.heap.size, 2, none⟩ = some (.int .i64 0) := (O.cell 2).trans (by show some (Value.int .i64 o.refs) = _; rw [h0])
            have H0 := hide h0
            clear h0
            have k1 : w1.cell? ⟨W.heap.size, 25, none⟩ = some (.int .i64 0) := (O.cell 25).trans (by show some (Value.int .i64 o.offset) = _; rw [h1])
            have H1 := hide h1
            clear h1
            have k2 : w1.cell? ⟨W.heap.size, 26, none⟩ = some (.int .u64 0) := (O.cell 26).trans (by show some (Value.int .u64 o.target) = _; rw [h2])
            have H2 := hide h2
            clear h2
            have k3 : w1.cell? ⟨W.heap.size, 27, none⟩ = some (.int .i64 0) := (O.cell 27).trans (by show some (Value.int .i64 o.readers) = _; rw [h3])
            have H3 := hide h3
            clear h3
            have k4 : w1.cell? ⟨W.heap.size, 28, none⟩ = some (.int .i64 o.writers) := (O.cell 28).trans (by show some (Value.int .i64 o.writers) = _; rfl)
            have c4 : (o.writers != 0) = true := by simpa using h4
            have b4 : (o.writers == 0) = false := by simpa using h4
            have H4 := hide h4
            clear h4
            go_enter Tryd.func72, Tryd.ntmps72
            try dsimp only [List.append]
            go_wp2_with (first | fail)
            go_ret
            exact ⟨ret_bool (decide_eq_false (fun hh : o.Counts => H4.out (hh.2.2.2.2.1))).symm, HB.out⟩
        · have k0 : w1.cell? ⟨W.heap.size, 2, none⟩ = some (.int .i64 0) := (O.cell 2).trans (by show some (Value.int .i64 o.refs) = _; rw [h0])
          have H0 := hide h0
          clear h0
          have k1 : w1.cell? ⟨W.heap.size, 25, none⟩ = some (.int .i64 0) := (O.cell 25).trans (by show some (Value.int .i64 o.offset) = _; rw [h1])
          have H1 := hide h1
          clear h1
          have k2 : w1.cell? ⟨W.heap.size, 26, none⟩ = some (.int .u64 0) := (O.cell 26).trans (by show some (Value.int .u64 o.target) = _; rw [h2])
          have H2 := hide h2
          clear h2
          have k3 : w1.cell? ⟨W.heap.size, 27, none⟩ = some (.int .i64 o.readers) := (O.cell 27).trans (by show some (Value.int .i64 o.readers) = _; rfl)
          have c3 : (o.readers != 0) = true := by simpa using h3
          have b3 : (o.readers == 0) = false := by simpa using h3
          have H3 := hide h3
          clear h3
          go_enter Tryd.func72, Tryd.ntmps72
          try dsimp only [List.append]
          go_wp2_with (first | fail)
          go_ret
          exact ⟨ret_bool (decide_eq_false (fun hh : o.Counts => H3.out (hh.2.2.2.1))).symm, HB.out⟩
      · have k0 : w1.cell? ⟨W.heap.size, 2, none⟩ = some (.int .i64 0) := (O.cell 2).trans (by show some (Value.int .i64 o.refs) = _; rw [h0])
        have H0 := hide h0
        clear h0
        have k1 : w1.cell? ⟨W.heap.size, 25, none⟩ = some (.int .i64 0) := (O.cell 25).trans (by show some (Value.int .i64 o.offset) = _; rw [h1])
        have H1 := hide h1
        clear h1
        have k2 : w1.cell? ⟨W.heap.size, 26, none⟩ = some (.int .u64 o.target) := (O.cell 26).trans (by show some (Value.int .u64 o.target) = _; rfl)
        have c2 : (o.target != 0) = true := by simpa using h2
        have b2 : (o.target == 0) = false := by simpa using h2
        have H2 := hide h2
        clear h2
        go_enter Tryd.func72, Tryd.ntmps72
        try dsimp only [List.append]
        go_wp2_with (first | fail)
        go_ret
        exact ⟨ret_bool (decide_eq_false (fun hh : o.Counts => H2.out (hh.2.2.1))).symm, HB.out⟩
    · have k0 : w1.cell? ⟨W.heap.size, 2, none⟩ = some (.int .i64 0) := (O.cell 2).trans (by show some (Value.int .i64 o.refs) = _; rw [h0])
      have H0 := hide h0
      clear h0
      have k1 : w1.cell? ⟨W.heap.size, 25, none⟩ = some (.int .i64 o.offset) := (O.cell 25).trans (by show some (Value.int .i64 o.offset) = _; rfl)
      have c1 : (o.offset != 0) = true := by simpa using h1
      have b1 : (o.offset == 0) = false := by simpa using h1
      have H1 := hide h1
      clear h1
      go_enter Tryd.func72, Tryd.ntmps72
      try dsimp only [List.append]
      go_wp2_with (first | fail)
      go_ret
      exact ⟨ret_bool (decide_eq_false (fun hh : o.Counts => H1.out (hh.2.1))).symm, HB.out⟩
  · have k0 : w1.cell? ⟨W.heap.size, 2, none⟩ = some (.int .i64 o.refs) := (O.cell 2).trans (by show some (Value.int .i64 o.refs) = _; rfl)
    have c0 : (o.refs != 0) = true := by simpa using h0
    have b0 : (o.refs == 0) = false := by simpa using h0
    have H0 := hide h0
    clear h0
    go_enter Tryd.func72, Tryd.ntmps72
    try dsimp only [List.append]
    go_wp2_with (first | fail)
    go_ret
    exact ⟨ret_bool (decide_eq_false (fun hh : o.Counts => H0.out (hh.1))).symm, HB.out⟩
set_option maxRecDepth 100000 in
set_option maxHeartbeats 4000000 in
/-- No lists. -/
theorem nxNoLists_any (o : Ob) (W : World) : Calls Tryd.prog 73 #[.agg (oc o)] W (BoolPost (decide o.Listless) W) := by
  obtain ⟨w1, hw, O, hb⟩ : ∃ w1, W.alloc (.cells (oc o) 41) = w1 ∧ Obl w1 W.heap.size 41 (oc o) ∧ Below W.heap.size W w1 := ⟨_, rfl, Obl.make W _ _, (Below.refl _ _).alloc (Nat.le_refl _) _⟩
  have HB := hide hb
  have lt := O.lt
  clear hb
  by_cases h0 : o.words.n = 0
  · by_cases h1 : o.data.n = 0
    · by_cases h2 : o.backlog.n = 0
      · by_cases h3 : o.names.n = 0
        · by_cases h4 : o.q0.n = 0
          · by_cases h5 : o.q1.n = 0
            · have k0 : w1.cell? ⟨W.heap.size, 23, none⟩ = some (.slice o.words.A 0 o.words.c) := (O.cell 23).trans (by show some (Value.slice o.words.A o.words.n o.words.c) = _; rw [h0])
              have H0 := hide h0
              clear h0
              have k1 : w1.cell? ⟨W.heap.size, 24, none⟩ = some (.slice o.data.A 0 o.data.c) := (O.cell 24).trans (by show some (Value.slice o.data.A o.data.n o.data.c) = _; rw [h1])
              have H1 := hide h1
              clear h1
              have k2 : w1.cell? ⟨W.heap.size, 29, none⟩ = some (.slice o.backlog.A 0 o.backlog.c) := (O.cell 29).trans (by show some (Value.slice o.backlog.A o.backlog.n o.backlog.c) = _; rw [h2])
              have H2 := hide h2
              clear h2
              have k3 : w1.cell? ⟨W.heap.size, 35, none⟩ = some (.slice o.names.A 0 o.names.c) := (O.cell 35).trans (by show some (Value.slice o.names.A o.names.n o.names.c) = _; rw [h3])
              have H3 := hide h3
              clear h3
              have k4 : w1.cell? ⟨W.heap.size, 30, none⟩ = some (.slice o.q0.A 0 o.q0.c) := (O.cell 30).trans (by show some (Value.slice o.q0.A o.q0.n o.q0.c) = _; rw [h4])
              have H4 := hide h4
              clear h4
              have k5 : w1.cell? ⟨W.heap.size, 31, none⟩ = some (.slice o.q1.A 0 o.q1.c) := (O.cell 31).trans (by show some (Value.slice o.q1.A o.q1.n o.q1.c) = _; rw [h5])
              have H5 := hide h5
              clear h5
              go_enter Tryd.func73, Tryd.ntmps73
              try dsimp only [List.append]
              go_wp2_with (first | fail)
              go_ret
              exact ⟨ret_bool (decide_eq_true (show o.Listless from ⟨H0.out, H1.out, H2.out, H3.out, H4.out, H5.out⟩)).symm, HB.out⟩
            · have k0 : w1.cell? ⟨W.heap.size, 23, none⟩ = some (.slice o.words.A 0 o.words.c) := (O.cell 23).trans (by show some (Value.slice o.words.A o.words.n o.words.c) = _; rw [h0])
              have H0 := hide h0
              clear h0
              have k1 : w1.cell? ⟨W.heap.size, 24, none⟩ = some (.slice o.data.A 0 o.data.c) := (O.cell 24).trans (by show some (Value.slice o.data.A o.data.n o.data.c) = _; rw [h1])
              have H1 := hide h1
              clear h1
              have k2 : w1.cell? ⟨W.heap.size, 29, none⟩ = some (.slice o.backlog.A 0 o.backlog.c) := (O.cell 29).trans (by show some (Value.slice o.backlog.A o.backlog.n o.backlog.c) = _; rw [h2])
              have H2 := hide h2
              clear h2
              have k3 : w1.cell? ⟨W.heap.size, 35, none⟩ = some (.slice o.names.A 0 o.names.c) := (O.cell 35).trans (by show some (Value.slice o.names.A o.names.n o.names.c) = _; rw [h3])
              have H3 := hide h3
              clear h3
              have k4 : w1.cell? ⟨W.heap.size, 30, none⟩ = some (.slice o.q0.A 0 o.q0.c) := (O.cell 30).trans (by show some (Value.slice o.q0.A o.q0.n o.q0.c) = _; rw [h4])
              have H4 := hide h4
              clear h4
              have k5 : w1.cell? ⟨W.heap.size, 31, none⟩ = some (.slice o.q1.A o.q1.n o.q1.c) := (O.cell 31).trans (by show some (Value.slice o.q1.A o.q1.n o.q1.c) = _; rfl)
              have b5 : (((o.q1.n : Nat) : Int) == 0) = false := by simp; omega
              have e5 : ¬ ((o.q1.n : Nat) : Int) = 0 := by omega
              have H5 := hide h5
              clear h5
              go_enter Tryd.func73, Tryd.ntmps73
              try dsimp only [List.append]
              go_wp2_with (first | fail)
              go_ret
              exact ⟨ret_bool (decide_eq_false (fun hh : o.Listless => H5.out (hh.2.2.2.2.2))).symm, HB.out⟩
          · have k0 : w1.cell? ⟨W.heap.size, 23, none⟩ = some (.slice o.words.A 0 o.words.c) := (O.cell 23).trans (by show some (Value.slice o.words.A o.words.n o.words.c) = _; rw [h0])
            have H0 := hide h0
            clear h0
            have k1 : w1.cell? ⟨W.heap.size, 24, none⟩ = some (.slice o.data.A 0 o.data.c) := (O.cell 24).trans (by show some (Value.slice o.data.A o.data.n o.data.c) = _; rw [h1])
            have H1 := hide h1
            clear h1
            have k2 : w1.cell? ⟨W.heap.size, 29, none⟩ = some (.slice o.backlog.A 0 o.backlog.c) := (O.cell 29).trans (by show some (Value.slice o.backlog.A o.backlog.n o.backlog.c) = _; rw [h2])
            have H2 := hide h2
            clear h2
            have k3 : w1.cell? ⟨W.heap.size, 35, none⟩ = some (.slice o.names.A 0 o.names.c) := (O.cell 35).trans (by show some (Value.slice o.names.A o.names.n o.names.c) = _; rw [h3])
            have H3 := hide h3
            clear h3
            have k4 : w1.cell? ⟨W.heap.size, 30, none⟩ = some (.slice o.q0.A o.q0.n o.q0.c) := (O.cell 30).trans (by show some (Value.slice o.q0.A o.q0.n o.q0.c) = _; rfl)
            have b4 : (((o.q0.n : Nat) : Int) == 0) = false := by simp; omega
            have e4 : ¬ ((o.q0.n : Nat) : Int) = 0 := by omega
            have H4 := hide h4
            clear h4
            go_enter Tryd.func73, Tryd.ntmps73
            try dsimp only [List.append]
            go_wp2_with (first | fail)
            go_ret
            exact ⟨ret_bool (decide_eq_false (fun hh : o.Listless => H4.out (hh.2.2.2.2.1))).symm, HB.out⟩
        · have k0 : w1.cell? ⟨W.heap.size, 23, none⟩ = some (.slice o.words.A 0 o.words.c) := (O.cell 23).trans (by show some (Value.slice o.words.A o.words.n o.words.c) = _; rw [h0])
          have H0 := hide h0
          clear h0
          have k1 : w1.cell? ⟨W.heap.size, 24, none⟩ = some (.slice o.data.A 0 o.data.c) := (O.cell 24).trans (by show some (Value.slice o.data.A o.data.n o.data.c) = _; rw [h1])
          have H1 := hide h1
          clear h1
          have k2 : w1.cell? ⟨W.heap.size, 29, none⟩ = some (.slice o.backlog.A 0 o.backlog.c) := (O.cell 29).trans (by show some (Value.slice o.backlog.A o.backlog.n o.backlog.c) = _; rw [h2])
          have H2 := hide h2
          clear h2
          have k3 : w1.cell? ⟨W.heap.size, 35, none⟩ = some (.slice o.names.A o.names.n o.names.c) := (O.cell 35).trans (by show some (Value.slice o.names.A o.names.n o.names.c) = _; rfl)
          have b3 : (((o.names.n : Nat) : Int) == 0) = false := by simp; omega
          have e3 : ¬ ((o.names.n : Nat) : Int) = 0 := by omega
          have H3 := hide h3
          clear h3
          go_enter Tryd.func73, Tryd.ntmps73
          try dsimp only [List.append]
          go_wp2_with (first | fail)
          go_ret
          exact ⟨ret_bool (decide_eq_false (fun hh : o.Listless => H3.out (hh.2.2.2.1))).symm, HB.out⟩
      · have k0 : w1.cell? ⟨W.heap.size, 23, none⟩ = some (.slice o.words.A 0 o.words.c) := (O.cell 23).trans (by show some (Value.slice o.words.A o.words.n o.words.c) = _; rw [h0])
        have H0 := hide h0
        clear h0
        have k1 : w1.cell? ⟨W.heap.size, 24, none⟩ = some (.slice o.data.A 0 o.data.c) := (O.cell 24).trans (by show some (Value.slice o.data.A o.data.n o.data.c) = _; rw [h1])
        have H1 := hide h1
        clear h1
        have k2 : w1.cell? ⟨W.heap.size, 29, none⟩ = some (.slice o.backlog.A o.backlog.n o.backlog.c) := (O.cell 29).trans (by show some (Value.slice o.backlog.A o.backlog.n o.backlog.c) = _; rfl)
        have b2 : (((o.backlog.n : Nat) : Int) == 0) = false := by simp; omega
        have e2 : ¬ ((o.backlog.n : Nat) : Int) = 0 := by omega
        have H2 := hide h2
        clear h2
        go_enter Tryd.func73, Tryd.ntmps73
        try dsimp only [List.append]
        go_wp2_with (first | fail)
        go_ret
        exact ⟨ret_bool (decide_eq_false (fun hh : o.Listless => H2.out (hh.2.2.1))).symm, HB.out⟩
    · have k0 : w1.cell? ⟨W.heap.size, 23, none⟩ = some (.slice o.words.A 0 o.words.c) := (O.cell 23).trans (by show some (Value.slice o.words.A o.words.n o.words.c) = _; rw [h0])
      have H0 := hide h0
      clear h0
      have k1 : w1.cell? ⟨W.heap.size, 24, none⟩ = some (.slice o.data.A o.data.n o.data.c) := (O.cell 24).trans (by show some (Value.slice o.data.A o.data.n o.data.c) = _; rfl)
      have b1 : (((o.data.n : Nat) : Int) == 0) = false := by simp; omega
      have e1 : ¬ ((o.data.n : Nat) : Int) = 0 := by omega
      have H1 := hide h1
      clear h1
      go_enter Tryd.func73, Tryd.ntmps73
      try dsimp only [List.append]
      go_wp2_with (first | fail)
      go_ret
      exact ⟨ret_bool (decide_eq_false (fun hh : o.Listless => H1.out (hh.2.1))).symm, HB.out⟩
  · have k0 : w1.cell? ⟨W.heap.size, 23, none⟩ = some (.slice o.words.A o.words.n o.words.c) := (O.cell 23).trans (by show some (Value.slice o.words.A o.words.n o.words.c) = _; rfl)
    have b0 : (((o.words.n : Nat) : Int) == 0) = false := by simp; omega
    have e0 : ¬ ((o.words.n : Nat) : Int) = 0 := by omega
    have H0 := hide h0
    clear h0
    go_enter Tryd.func73, Tryd.ntmps73
    try dsimp only [List.append]
    go_wp2_with (first | fail)
    go_ret
    exact ⟨ret_bool (decide_eq_false (fun hh : o.Listless => H0.out (hh.1))).symm, HB.out⟩
set_option maxRecDepth 100000 in
set_option maxHeartbeats 4000000 in
/-- Nothing but identifier and kind. -/
theorem nxBare_any (o : Ob) (W : World) : Calls Tryd.prog 45 #[.agg (oc o)] W (BoolPost (decide o.Clear) W) := by
  obtain ⟨w1, hw, O, hb⟩ : ∃ w1, W.alloc (.cells (oc o) 41) = w1 ∧ Obl w1 W.heap.size 41 (oc o) ∧ Below W.heap.size W w1 := ⟨_, rfl, Obl.make W _ _, (Below.refl _ _).alloc (Nat.le_refl _) _⟩
  have HB := hide hb
  have lt := O.lt
  clear hb
  by_cases h0 : o.Counts
  · by_cases h1 : o.Listless
    · by_cases h2 : o.NoProc
      · have H0 := hide h0
        clear h0
        have H1 := hide h1
        clear h1
        have H2 := hide h2
        clear h2
        go_enter Tryd.func45, Tryd.ntmps45
        try dsimp only [List.append]
        go_wp2_with (first | (refine wpList_val (by rfl) (exec_load_ob rfl rfl O) ?_) | (go_at_call 72; refine (nxNoNumbers_any o _).mono ?_; rintro e u0 ⟨rfl, g0⟩; rw [show decide (o.Counts) = true from decide_eq_true H0.out]) | (refine wpList_val (by rfl) (exec_load_ob rfl rfl (O.below g0 O.lt)) ?_) | (go_at_call 73; refine (nxNoLists_any o _).mono ?_; rintro e u1 ⟨rfl, g1⟩; rw [show decide (o.Listless) = true from decide_eq_true H1.out]) | (refine wpList_val (by rfl) (exec_load_proc rfl rfl ((O.below g0 O.lt).below g1 (O.below g0 O.lt).lt)) ?_) | (go_at_call 74; refine (nxNoProc_any o _).mono ?_; rintro e u2 ⟨rfl, g2⟩; rw [show decide (o.NoProc) = true from decide_eq_true H2.out]) | fail)
        go_ret
        exact ⟨ret_bool (decide_eq_true (show o.Clear from ⟨H1.out.1, H0.out, H1.out.2, H2.out⟩)).symm, (((HB.out).trans (g0.mono (HB.out).size)).trans (g1.mono ((HB.out).trans (g0.mono (HB.out).size)).size)).trans (g2.mono (((HB.out).trans (g0.mono (HB.out).size)).trans (g1.mono ((HB.out).trans (g0.mono (HB.out).size)).size)).size)⟩
      · have H0 := hide h0
        clear h0
        have H1 := hide h1
        clear h1
        have H2 := hide h2
        clear h2
        go_enter Tryd.func45, Tryd.ntmps45
        try dsimp only [List.append]
        go_wp2_with (first | (refine wpList_val (by rfl) (exec_load_ob rfl rfl O) ?_) | (go_at_call 72; refine (nxNoNumbers_any o _).mono ?_; rintro e u0 ⟨rfl, g0⟩; rw [show decide (o.Counts) = true from decide_eq_true H0.out]) | (refine wpList_val (by rfl) (exec_load_ob rfl rfl (O.below g0 O.lt)) ?_) | (go_at_call 73; refine (nxNoLists_any o _).mono ?_; rintro e u1 ⟨rfl, g1⟩; rw [show decide (o.Listless) = true from decide_eq_true H1.out]) | (refine wpList_val (by rfl) (exec_load_proc rfl rfl ((O.below g0 O.lt).below g1 (O.below g0 O.lt).lt)) ?_) | (go_at_call 74; refine (nxNoProc_any o _).mono ?_; rintro e u2 ⟨rfl, g2⟩; rw [show decide (o.NoProc) = false from decide_eq_false H2.out]) | fail)
        go_ret
        exact ⟨ret_bool (decide_eq_false (fun hh : o.Clear => H2.out hh.2.2.2)).symm, (((HB.out).trans (g0.mono (HB.out).size)).trans (g1.mono ((HB.out).trans (g0.mono (HB.out).size)).size)).trans (g2.mono (((HB.out).trans (g0.mono (HB.out).size)).trans (g1.mono ((HB.out).trans (g0.mono (HB.out).size)).size)).size)⟩
    · have H0 := hide h0
      clear h0
      have H1 := hide h1
      clear h1
      go_enter Tryd.func45, Tryd.ntmps45
      try dsimp only [List.append]
      go_wp2_with (first | (refine wpList_val (by rfl) (exec_load_ob rfl rfl O) ?_) | (go_at_call 72; refine (nxNoNumbers_any o _).mono ?_; rintro e u0 ⟨rfl, g0⟩; rw [show decide (o.Counts) = true from decide_eq_true H0.out]) | (refine wpList_val (by rfl) (exec_load_ob rfl rfl (O.below g0 O.lt)) ?_) | (go_at_call 73; refine (nxNoLists_any o _).mono ?_; rintro e u1 ⟨rfl, g1⟩; rw [show decide (o.Listless) = false from decide_eq_false H1.out]) | fail)
      go_ret
      exact ⟨ret_bool (decide_eq_false (fun hh : o.Clear => H1.out ⟨hh.1, hh.2.2.1⟩)).symm, ((HB.out).trans (g0.mono (HB.out).size)).trans (g1.mono ((HB.out).trans (g0.mono (HB.out).size)).size)⟩
  · have H0 := hide h0
    clear h0
    go_enter Tryd.func45, Tryd.ntmps45
    try dsimp only [List.append]
    go_wp2_with (first | (refine wpList_val (by rfl) (exec_load_ob rfl rfl O) ?_) | (go_at_call 72; refine (nxNoNumbers_any o _).mono ?_; rintro e u0 ⟨rfl, g0⟩; rw [show decide (o.Counts) = false from decide_eq_false H0.out]) | fail)
    go_ret
    exact ⟨ret_bool (decide_eq_false (fun hh : o.Clear => H0.out hh.2.1)).symm, (HB.out).trans (g0.mono (HB.out).size)⟩
end Go.Proofs.YtejhnfeligifgaaDoor
namespace Go.Proofs.YtejhnfeligifgaaDoor
open Go.RowKit

/-- The object without its entries. -/
def Ob.nameless (o : Ob) : Ob := { o with names := ⟨none, 0, 0⟩ }
set_option maxRecDepth 100000 in
set_option maxHeartbeats 4000000 in
theorem nxNames_any (o : Ob) (l : List Nm) (E : List Nx.Ent) (W : World) (hl0 : Ents W W.heap.size o.names.A o.names.n l E) (hs : Short l) (HM0 : Mx W) : Calls Tryd.prog 17 #[.agg (oc o)] W (BoolPost (decide (o.Names E)) W) := by
  obtain ⟨w1, hw, O, hb⟩ : ∃ w1, W.alloc (.cells (oc o) 41) = w1 ∧ Obl w1 W.heap.size 41 (oc o) ∧ Below W.heap.size W w1 := ⟨_, rfl, Obl.make W _ _, (Below.refl _ _).alloc (Nat.le_refl _) _⟩
  obtain ⟨w2, hw2, m, hm, w3, hw3, OZ, R, hb3, hs3⟩ := laid_ob o w1
  have hWm : W.heap.size < m := by have := O.lt; omega
  have O3 := O.below hb3 O.lt
  have z35 := R.free 35
  have y35 : w3.cell? ⟨m, 35, none⟩ = some (.slice o.names.A o.names.n o.names.c) := R.cell 35
  have R4 : Obl (w3.setCell ⟨m, 35, none⟩ (.slice none 0 0)) m 41 (oc o.nameless) := R.put 35 _
  have O4 := O3.put_other (b' := m) (by omega) 35 (.slice none 0 0)
  have hmW : W.heap.size ≤ m := by omega
  have HB := hide ((hb.trans (hb3.mono (by omega))).setCell (p := ⟨m, 35, none⟩) hmW (.slice none 0 0))
  obtain ⟨w4, hw4⟩ : ∃ w4, w3.setCell ⟨m, 35, none⟩ (.slice none 0 0) = w4 := ⟨_, rfl⟩
  rw [hw4] at R4 O4 HB
  have k1 : w4.cell? ⟨W.heap.size, 1, none⟩ = some (.int .i64 o.kind) := O4.cell 1
  have k0 : w4.cell? ⟨W.heap.size, 0, none⟩ = some (.int .u64 o.id) := O4.cell 0
  have k35 : w4.cell? ⟨W.heap.size, 35, none⟩ = some (.slice o.names.A o.names.n o.names.c) := O4.cell 35
  have HEN := hide ((hl0.below HB.out).mono HB.out.size)
  have HS := hide hs
  have HM := hide (HM0.below HB.out)
  have HR := hide R4
  clear hb hb3 O3 hl0 hs HM0 R4 O4
  by_cases h0 : o.kind = 10
  · have H0 := hide h0
    rw [h0] at k1
    clear h0
    by_cases h1 : o.id = 1
    · have H1 := hide h1
      rw [h1] at k0
      clear h1
      by_cases h2 : o.names.n ≤ 256
      · have H2 := hide h2
        have i2 : (o.names.n : Int) ≤ 256 := by omega
        clear h2
        by_cases h3 : Nx.Space E
        · have H3 := hide h3
          clear h3
          by_cases h4 : o.nameless.Clear
          · have H4 := hide h4
            clear h4
            go_enter Tryd.func17, Tryd.ntmps17
            try dsimp only [List.append]
            go_wp2_with (first | (refine load_ob rfl _ rfl rfl O ?_) | (refine store_ob rfl _ _ rfl rfl (c := o) rfl OZ rfl ?_; rw [hw3]) | (go_at_call 44; refine (nxAre_any _ _ _ l E _ HEN.out HS.out HM.out (by have := H2.out; omega)).mono ?_; rintro e u3 ⟨rfl, g3⟩; rw [show decide (Nx.Space E) = true from decide_eq_true H3.out]) | (refine wpList_val (by rfl) (exec_load_ob rfl rfl (HR.out.below g3 HR.out.lt)) ?_) | (go_at_call 45; refine (nxBare_any o.nameless _).mono ?_; rintro e u4 ⟨rfl, g4⟩; rw [show decide (o.nameless.Clear) = true from decide_eq_true H4.out]) | fail)
            go_ret
            exact ⟨ret_bool (decide_eq_true (show o.Names E from ⟨H0.out, H1.out, H2.out, H3.out, H4.out⟩)).symm, (HB.out.trans (g3.mono HB.out.size)).trans (g4.mono (HB.out.trans (g3.mono HB.out.size)).size)⟩
          · have H4 := hide h4
            clear h4
            go_enter Tryd.func17, Tryd.ntmps17
            try dsimp only [List.append]
            go_wp2_with (first | (refine load_ob rfl _ rfl rfl O ?_) | (refine store_ob rfl _ _ rfl rfl (c := o) rfl OZ rfl ?_; rw [hw3]) | (go_at_call 44; refine (nxAre_any _ _ _ l E _ HEN.out HS.out HM.out (by have := H2.out; omega)).mono ?_; rintro e u3 ⟨rfl, g3⟩; rw [show decide (Nx.Space E) = true from decide_eq_true H3.out]) | (refine wpList_val (by rfl) (exec_load_ob rfl rfl (HR.out.below g3 HR.out.lt)) ?_) | (go_at_call 45; refine (nxBare_any o.nameless _).mono ?_; rintro e u4 ⟨rfl, g4⟩; rw [show decide (o.nameless.Clear) = false from decide_eq_false H4.out]) | fail)
            go_ret
            exact ⟨ret_bool (decide_eq_false (fun hh : o.Names E => H4.out (hh.2.2.2.2))).symm, (HB.out.trans (g3.mono HB.out.size)).trans (g4.mono (HB.out.trans (g3.mono HB.out.size)).size)⟩
        · have H3 := hide h3
          clear h3
          go_enter Tryd.func17, Tryd.ntmps17
          try dsimp only [List.append]
          go_wp2_with (first | (refine load_ob rfl _ rfl rfl O ?_) | (refine store_ob rfl _ _ rfl rfl (c := o) rfl OZ rfl ?_; rw [hw3]) | (go_at_call 44; refine (nxAre_any _ _ _ l E _ HEN.out HS.out HM.out (by have := H2.out; omega)).mono ?_; rintro e u3 ⟨rfl, g3⟩; rw [show decide (Nx.Space E) = false from decide_eq_false H3.out]) | fail)
          go_ret
          exact ⟨ret_bool (decide_eq_false (fun hh : o.Names E => H3.out (hh.2.2.2.1))).symm, HB.out.trans (g3.mono HB.out.size)⟩
      · have H2 := hide h2
        have i2 : ¬ (o.names.n : Int) ≤ 256 := by omega
        clear h2
        go_enter Tryd.func17, Tryd.ntmps17
        try dsimp only [List.append]
        go_wp2_with (first | (refine load_ob rfl _ rfl rfl O ?_) | (refine store_ob rfl _ _ rfl rfl (c := o) rfl OZ rfl ?_; rw [hw3]) | fail)
        go_ret
        exact ⟨ret_bool (decide_eq_false (fun hh : o.Names E => H2.out (hh.2.2.1))).symm, HB.out⟩
    · have H1 := hide h1
      have b1 : (o.id == 1) = false := by simpa using h1
      have c1 : (o.id != 1) = true := by simpa using h1
      clear h1
      go_enter Tryd.func17, Tryd.ntmps17
      try dsimp only [List.append]
      go_wp2_with (first | (refine load_ob rfl _ rfl rfl O ?_) | (refine store_ob rfl _ _ rfl rfl (c := o) rfl OZ rfl ?_; rw [hw3]) | fail)
      go_ret
      exact ⟨ret_bool (decide_eq_false (fun hh : o.Names E => H1.out (hh.2.1))).symm, HB.out⟩
  · have H0 := hide h0
    have b0 : (o.kind == 10) = false := by simpa using h0
    have c0 : (o.kind != 10) = true := by simpa using h0
    clear h0
    go_enter Tryd.func17, Tryd.ntmps17
    try dsimp only [List.append]
    go_wp2_with (first | (refine load_ob rfl _ rfl rfl O ?_) | (refine store_ob rfl _ _ rfl rfl (c := o) rfl OZ rfl ?_; rw [hw3]) | fail)
    go_ret
    exact ⟨ret_bool (decide_eq_false (fun hh : o.Names E => H0.out (hh.1))).symm, HB.out⟩
end Go.Proofs.YtejhnfeligifgaaDoor
