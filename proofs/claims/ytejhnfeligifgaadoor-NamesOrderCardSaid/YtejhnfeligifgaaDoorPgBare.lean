/- Which objects are pages: the reference's chain of conditions (written by tools/mkvalid.py). -/
import Derived.Test.YtejhnfeligifgaaDoorPgBlank
namespace Go.Proofs.YtejhnfeligifgaaDoor
open Go.RowKit

set_option maxRecDepth 100000 in
set_option maxHeartbeats 4000000 in
/-- Nothing but identifier and kind. -/
theorem bare_any (o : Ob) (W : World) : Calls Tryd.prog 47 #[.agg (oc o)] W (BoolPost (decide o.Clear) W) := by
  obtain ⟨w1, hw, O, hb⟩ : ∃ w1, W.alloc (.cells (oc o) 41) = w1 ∧ Obl w1 W.heap.size 41 (oc o) ∧ Below W.heap.size W w1 := ⟨_, rfl, Obl.make W _ _, (Below.refl _ _).alloc (Nat.le_refl _) _⟩
  have HB := hide hb
  have lt := O.lt
  clear hb
  by_cases h0 : o.refs = 0
  · by_cases h1 : o.words.n = 0
    · by_cases h2 : o.data.n = 0
      · by_cases h3 : o.offset = 0
        · by_cases h4 : o.target = 0
          · by_cases h5 : o.readers = 0
            · by_cases h6 : o.writers = 0
              · by_cases h7 : o.backlog.n = 0
                · by_cases h8 : o.q0.n = 0
                  · by_cases h9 : o.q1.n = 0
                    · by_cases h10 : [o.e0, o.e1] = [0, 0]
                      · by_cases h11 : o.count = 0
                        · by_cases h12 : o.names.n = 0
                          · by_cases h13 : o.NoProc
                            · have k0 : w1.cell? ⟨W.heap.size, 2, none⟩ = some (.int .i64 0) := (O.cell 2).trans (by show some (Value.int .i64 o.refs) = _; rw [h0])
                              have H0 := hide h0
                              clear h0
                              have k1 : w1.cell? ⟨W.heap.size, 23, none⟩ = some (.slice o.words.A 0 o.words.c) := (O.cell 23).trans (by show some (Value.slice o.words.A o.words.n o.words.c) = _; rw [h1])
                              have H1 := hide h1
                              clear h1
                              have k2 : w1.cell? ⟨W.heap.size, 24, none⟩ = some (.slice o.data.A 0 o.data.c) := (O.cell 24).trans (by show some (Value.slice o.data.A o.data.n o.data.c) = _; rw [h2])
                              have H2 := hide h2
                              clear h2
                              have k3 : w1.cell? ⟨W.heap.size, 25, none⟩ = some (.int .i64 0) := (O.cell 25).trans (by show some (Value.int .i64 o.offset) = _; rw [h3])
                              have H3 := hide h3
                              clear h3
                              have k4 : w1.cell? ⟨W.heap.size, 26, none⟩ = some (.int .u64 0) := (O.cell 26).trans (by show some (Value.int .u64 o.target) = _; rw [h4])
                              have H4 := hide h4
                              clear h4
                              have k5 : w1.cell? ⟨W.heap.size, 27, none⟩ = some (.int .i64 0) := (O.cell 27).trans (by show some (Value.int .i64 o.readers) = _; rw [h5])
                              have H5 := hide h5
                              clear h5
                              have k6 : w1.cell? ⟨W.heap.size, 28, none⟩ = some (.int .i64 0) := (O.cell 28).trans (by show some (Value.int .i64 o.writers) = _; rw [h6])
                              have H6 := hide h6
                              clear h6
                              have k7 : w1.cell? ⟨W.heap.size, 29, none⟩ = some (.slice o.backlog.A 0 o.backlog.c) := (O.cell 29).trans (by show some (Value.slice o.backlog.A o.backlog.n o.backlog.c) = _; rw [h7])
                              have H7 := hide h7
                              clear h7
                              have k8 : w1.cell? ⟨W.heap.size, 30, none⟩ = some (.slice o.q0.A 0 o.q0.c) := (O.cell 30).trans (by show some (Value.slice o.q0.A o.q0.n o.q0.c) = _; rw [h8])
                              have H8 := hide h8
                              clear h8
                              have k9 : w1.cell? ⟨W.heap.size, 31, none⟩ = some (.slice o.q1.A 0 o.q1.c) := (O.cell 31).trans (by show some (Value.slice o.q1.A o.q1.n o.q1.c) = _; rw [h9])
                              have H9 := hide h9
                              clear h9
                              have H10 := hide h10
                              clear h10
                              have k11 : w1.cell? ⟨W.heap.size, 34, none⟩ = some (.int .i64 0) := (O.cell 34).trans (by show some (Value.int .i64 o.count) = _; rw [h11])
                              have H11 := hide h11
                              clear h11
                              have k12 : w1.cell? ⟨W.heap.size, 35, none⟩ = some (.slice o.names.A 0 o.names.c) := (O.cell 35).trans (by show some (Value.slice o.names.A o.names.n o.names.c) = _; rw [h12])
                              have H12 := hide h12
                              clear h12
                              have H13 := hide h13
                              clear h13
                              go_enter Tryd.func47, Tryd.ntmps47
                              go_wp2_with (first | (refine wpList_val (by rfl) (exec_load_ends rfl rfl O) ?_) | (refine wpList_val (by rfl) (exec_build rfl (vs := []) rfl built_ends) ?_) | (refine wpList_val (by rfl) (exec_eql_ends (L := [o.e0, o.e1]) (M := [0, 0]) rfl rfl rfl rfl rfl) ?_; rw [show decide ([o.e0, o.e1] = [0, 0]) = true from decide_eq_true H10.out]) | (refine wpList_val (by rfl) (exec_load_proc rfl rfl O) ?_) | (go_at_call 75; refine (blank_any o _).mono ?_; rintro e u13 ⟨rfl, g13⟩; rw [show decide (o.NoProc) = true from decide_eq_true H13.out]) | fail)
                              go_ret
                              exact ⟨ret_bool (decide_eq_true (show o.Clear from ⟨H1.out, ⟨H0.out, H3.out, H4.out, H5.out, H6.out, H10.out, H11.out⟩, ⟨H2.out, H7.out, H12.out, H8.out, H9.out⟩, H13.out⟩)).symm, (HB.out).trans (g13.mono (HB.out).size)⟩
                            · have k0 : w1.cell? ⟨W.heap.size, 2, none⟩ = some (.int .i64 0) := (O.cell 2).trans (by show some (Value.int .i64 o.refs) = _; rw [h0])
                              have H0 := hide h0
                              clear h0
                              have k1 : w1.cell? ⟨W.heap.size, 23, none⟩ = some (.slice o.words.A 0 o.words.c) := (O.cell 23).trans (by show some (Value.slice o.words.A o.words.n o.words.c) = _; rw [h1])
                              have H1 := hide h1
                              clear h1
                              have k2 : w1.cell? ⟨W.heap.size, 24, none⟩ = some (.slice o.data.A 0 o.data.c) := (O.cell 24).trans (by show some (Value.slice o.data.A o.data.n o.data.c) = _; rw [h2])
                              have H2 := hide h2
                              clear h2
                              have k3 : w1.cell? ⟨W.heap.size, 25, none⟩ = some (.int .i64 0) := (O.cell 25).trans (by show some (Value.int .i64 o.offset) = _; rw [h3])
                              have H3 := hide h3
                              clear h3
                              have k4 : w1.cell? ⟨W.heap.size, 26, none⟩ = some (.int .u64 0) := (O.cell 26).trans (by show some (Value.int .u64 o.target) = _; rw [h4])
                              have H4 := hide h4
                              clear h4
                              have k5 : w1.cell? ⟨W.heap.size, 27, none⟩ = some (.int .i64 0) := (O.cell 27).trans (by show some (Value.int .i64 o.readers) = _; rw [h5])
                              have H5 := hide h5
                              clear h5
                              have k6 : w1.cell? ⟨W.heap.size, 28, none⟩ = some (.int .i64 0) := (O.cell 28).trans (by show some (Value.int .i64 o.writers) = _; rw [h6])
                              have H6 := hide h6
                              clear h6
                              have k7 : w1.cell? ⟨W.heap.size, 29, none⟩ = some (.slice o.backlog.A 0 o.backlog.c) := (O.cell 29).trans (by show some (Value.slice o.backlog.A o.backlog.n o.backlog.c) = _; rw [h7])
                              have H7 := hide h7
                              clear h7
                              have k8 : w1.cell? ⟨W.heap.size, 30, none⟩ = some (.slice o.q0.A 0 o.q0.c) := (O.cell 30).trans (by show some (Value.slice o.q0.A o.q0.n o.q0.c) = _; rw [h8])
                              have H8 := hide h8
                              clear h8
                              have k9 : w1.cell? ⟨W.heap.size, 31, none⟩ = some (.slice o.q1.A 0 o.q1.c) := (O.cell 31).trans (by show some (Value.slice o.q1.A o.q1.n o.q1.c) = _; rw [h9])
                              have H9 := hide h9
                              clear h9
                              have H10 := hide h10
                              clear h10
                              have k11 : w1.cell? ⟨W.heap.size, 34, none⟩ = some (.int .i64 0) := (O.cell 34).trans (by show some (Value.int .i64 o.count) = _; rw [h11])
                              have H11 := hide h11
                              clear h11
                              have k12 : w1.cell? ⟨W.heap.size, 35, none⟩ = some (.slice o.names.A 0 o.names.c) := (O.cell 35).trans (by show some (Value.slice o.names.A o.names.n o.names.c) = _; rw [h12])
                              have H12 := hide h12
                              clear h12
                              have H13 := hide h13
                              clear h13
                              go_enter Tryd.func47, Tryd.ntmps47
                              go_wp2_with (first | (refine wpList_val (by rfl) (exec_load_ends rfl rfl O) ?_) | (refine wpList_val (by rfl) (exec_build rfl (vs := []) rfl built_ends) ?_) | (refine wpList_val (by rfl) (exec_eql_ends (L := [o.e0, o.e1]) (M := [0, 0]) rfl rfl rfl rfl rfl) ?_; rw [show decide ([o.e0, o.e1] = [0, 0]) = true from decide_eq_true H10.out]) | (refine wpList_val (by rfl) (exec_load_proc rfl rfl O) ?_) | (go_at_call 75; refine (blank_any o _).mono ?_; rintro e u13 ⟨rfl, g13⟩; rw [show decide (o.NoProc) = false from decide_eq_false H13.out]) | fail)
                              go_ret
                              exact ⟨ret_bool (decide_eq_false (fun hh : o.Clear => H13.out (hh.2.2.2))).symm, (HB.out).trans (g13.mono (HB.out).size)⟩
                          · have k0 : w1.cell? ⟨W.heap.size, 2, none⟩ = some (.int .i64 0) := (O.cell 2).trans (by show some (Value.int .i64 o.refs) = _; rw [h0])
                            have H0 := hide h0
                            clear h0
                            have k1 : w1.cell? ⟨W.heap.size, 23, none⟩ = some (.slice o.words.A 0 o.words.c) := (O.cell 23).trans (by show some (Value.slice o.words.A o.words.n o.words.c) = _; rw [h1])
                            have H1 := hide h1
                            clear h1
                            have k2 : w1.cell? ⟨W.heap.size, 24, none⟩ = some (.slice o.data.A 0 o.data.c) := (O.cell 24).trans (by show some (Value.slice o.data.A o.data.n o.data.c) = _; rw [h2])
                            have H2 := hide h2
                            clear h2
                            have k3 : w1.cell? ⟨W.heap.size, 25, none⟩ = some (.int .i64 0) := (O.cell 25).trans (by show some (Value.int .i64 o.offset) = _; rw [h3])
                            have H3 := hide h3
                            clear h3
                            have k4 : w1.cell? ⟨W.heap.size, 26, none⟩ = some (.int .u64 0) := (O.cell 26).trans (by show some (Value.int .u64 o.target) = _; rw [h4])
                            have H4 := hide h4
                            clear h4
                            have k5 : w1.cell? ⟨W.heap.size, 27, none⟩ = some (.int .i64 0) := (O.cell 27).trans (by show some (Value.int .i64 o.readers) = _; rw [h5])
                            have H5 := hide h5
                            clear h5
                            have k6 : w1.cell? ⟨W.heap.size, 28, none⟩ = some (.int .i64 0) := (O.cell 28).trans (by show some (Value.int .i64 o.writers) = _; rw [h6])
                            have H6 := hide h6
                            clear h6
                            have k7 : w1.cell? ⟨W.heap.size, 29, none⟩ = some (.slice o.backlog.A 0 o.backlog.c) := (O.cell 29).trans (by show some (Value.slice o.backlog.A o.backlog.n o.backlog.c) = _; rw [h7])
                            have H7 := hide h7
                            clear h7
                            have k8 : w1.cell? ⟨W.heap.size, 30, none⟩ = some (.slice o.q0.A 0 o.q0.c) := (O.cell 30).trans (by show some (Value.slice o.q0.A o.q0.n o.q0.c) = _; rw [h8])
                            have H8 := hide h8
                            clear h8
                            have k9 : w1.cell? ⟨W.heap.size, 31, none⟩ = some (.slice o.q1.A 0 o.q1.c) := (O.cell 31).trans (by show some (Value.slice o.q1.A o.q1.n o.q1.c) = _; rw [h9])
                            have H9 := hide h9
                            clear h9
                            have H10 := hide h10
                            clear h10
                            have k11 : w1.cell? ⟨W.heap.size, 34, none⟩ = some (.int .i64 0) := (O.cell 34).trans (by show some (Value.int .i64 o.count) = _; rw [h11])
                            have H11 := hide h11
                            clear h11
                            have k12 : w1.cell? ⟨W.heap.size, 35, none⟩ = some (.slice o.names.A o.names.n o.names.c) := (O.cell 35).trans (by show some (Value.slice o.names.A o.names.n o.names.c) = _; rfl)
                            have b12 : (((o.names.n : Nat) : Int) == 0) = false := by simp; omega
                            have e12 : ¬ ((o.names.n : Nat) : Int) = 0 := by omega
                            have H12 := hide h12
                            clear h12
                            go_enter Tryd.func47, Tryd.ntmps47
                            go_wp2_with (first | (refine wpList_val (by rfl) (exec_load_ends rfl rfl O) ?_) | (refine wpList_val (by rfl) (exec_build rfl (vs := []) rfl built_ends) ?_) | (refine wpList_val (by rfl) (exec_eql_ends (L := [o.e0, o.e1]) (M := [0, 0]) rfl rfl rfl rfl rfl) ?_; rw [show decide ([o.e0, o.e1] = [0, 0]) = true from decide_eq_true H10.out]) | fail)
                            go_ret
                            exact ⟨ret_bool (decide_eq_false (fun hh : o.Clear => H12.out (hh.2.2.1.2.2.1))).symm, HB.out⟩
                        · have k0 : w1.cell? ⟨W.heap.size, 2, none⟩ = some (.int .i64 0) := (O.cell 2).trans (by show some (Value.int .i64 o.refs) = _; rw [h0])
                          have H0 := hide h0
                          clear h0
                          have k1 : w1.cell? ⟨W.heap.size, 23, none⟩ = some (.slice o.words.A 0 o.words.c) := (O.cell 23).trans (by show some (Value.slice o.words.A o.words.n o.words.c) = _; rw [h1])
                          have H1 := hide h1
                          clear h1
                          have k2 : w1.cell? ⟨W.heap.size, 24, none⟩ = some (.slice o.data.A 0 o.data.c) := (O.cell 24).trans (by show some (Value.slice o.data.A o.data.n o.data.c) = _; rw [h2])
                          have H2 := hide h2
                          clear h2
                          have k3 : w1.cell? ⟨W.heap.size, 25, none⟩ = some (.int .i64 0) := (O.cell 25).trans (by show some (Value.int .i64 o.offset) = _; rw [h3])
                          have H3 := hide h3
                          clear h3
                          have k4 : w1.cell? ⟨W.heap.size, 26, none⟩ = some (.int .u64 0) := (O.cell 26).trans (by show some (Value.int .u64 o.target) = _; rw [h4])
                          have H4 := hide h4
                          clear h4
                          have k5 : w1.cell? ⟨W.heap.size, 27, none⟩ = some (.int .i64 0) := (O.cell 27).trans (by show some (Value.int .i64 o.readers) = _; rw [h5])
                          have H5 := hide h5
                          clear h5
                          have k6 : w1.cell? ⟨W.heap.size, 28, none⟩ = some (.int .i64 0) := (O.cell 28).trans (by show some (Value.int .i64 o.writers) = _; rw [h6])
                          have H6 := hide h6
                          clear h6
                          have k7 : w1.cell? ⟨W.heap.size, 29, none⟩ = some (.slice o.backlog.A 0 o.backlog.c) := (O.cell 29).trans (by show some (Value.slice o.backlog.A o.backlog.n o.backlog.c) = _; rw [h7])
                          have H7 := hide h7
                          clear h7
                          have k8 : w1.cell? ⟨W.heap.size, 30, none⟩ = some (.slice o.q0.A 0 o.q0.c) := (O.cell 30).trans (by show some (Value.slice o.q0.A o.q0.n o.q0.c) = _; rw [h8])
                          have H8 := hide h8
                          clear h8
                          have k9 : w1.cell? ⟨W.heap.size, 31, none⟩ = some (.slice o.q1.A 0 o.q1.c) := (O.cell 31).trans (by show some (Value.slice o.q1.A o.q1.n o.q1.c) = _; rw [h9])
                          have H9 := hide h9
                          clear h9
                          have H10 := hide h10
                          clear h10
                          have k11 : w1.cell? ⟨W.heap.size, 34, none⟩ = some (.int .i64 o.count) := (O.cell 34).trans (by show some (Value.int .i64 o.count) = _; rfl)
                          have c11 : (o.count != 0) = true := by simpa using h11
                          have b11 : (o.count == 0) = false := by simpa using h11
                          have H11 := hide h11
                          clear h11
                          go_enter Tryd.func47, Tryd.ntmps47
                          go_wp2_with (first | (refine wpList_val (by rfl) (exec_load_ends rfl rfl O) ?_) | (refine wpList_val (by rfl) (exec_build rfl (vs := []) rfl built_ends) ?_) | (refine wpList_val (by rfl) (exec_eql_ends (L := [o.e0, o.e1]) (M := [0, 0]) rfl rfl rfl rfl rfl) ?_; rw [show decide ([o.e0, o.e1] = [0, 0]) = true from decide_eq_true H10.out]) | fail)
                          go_ret
                          exact ⟨ret_bool (decide_eq_false (fun hh : o.Clear => H11.out (hh.2.1.2.2.2.2.2.2))).symm, HB.out⟩
                      · have k0 : w1.cell? ⟨W.heap.size, 2, none⟩ = some (.int .i64 0) := (O.cell 2).trans (by show some (Value.int .i64 o.refs) = _; rw [h0])
                        have H0 := hide h0
                        clear h0
                        have k1 : w1.cell? ⟨W.heap.size, 23, none⟩ = some (.slice o.words.A 0 o.words.c) := (O.cell 23).trans (by show some (Value.slice o.words.A o.words.n o.words.c) = _; rw [h1])
                        have H1 := hide h1
                        clear h1
                        have k2 : w1.cell? ⟨W.heap.size, 24, none⟩ = some (.slice o.data.A 0 o.data.c) := (O.cell 24).trans (by show some (Value.slice o.data.A o.data.n o.data.c) = _; rw [h2])
                        have H2 := hide h2
                        clear h2
                        have k3 : w1.cell? ⟨W.heap.size, 25, none⟩ = some (.int .i64 0) := (O.cell 25).trans (by show some (Value.int .i64 o.offset) = _; rw [h3])
                        have H3 := hide h3
                        clear h3
                        have k4 : w1.cell? ⟨W.heap.size, 26, none⟩ = some (.int .u64 0) := (O.cell 26).trans (by show some (Value.int .u64 o.target) = _; rw [h4])
                        have H4 := hide h4
                        clear h4
                        have k5 : w1.cell? ⟨W.heap.size, 27, none⟩ = some (.int .i64 0) := (O.cell 27).trans (by show some (Value.int .i64 o.readers) = _; rw [h5])
                        have H5 := hide h5
                        clear h5
                        have k6 : w1.cell? ⟨W.heap.size, 28, none⟩ = some (.int .i64 0) := (O.cell 28).trans (by show some (Value.int .i64 o.writers) = _; rw [h6])
                        have H6 := hide h6
                        clear h6
                        have k7 : w1.cell? ⟨W.heap.size, 29, none⟩ = some (.slice o.backlog.A 0 o.backlog.c) := (O.cell 29).trans (by show some (Value.slice o.backlog.A o.backlog.n o.backlog.c) = _; rw [h7])
                        have H7 := hide h7
                        clear h7
                        have k8 : w1.cell? ⟨W.heap.size, 30, none⟩ = some (.slice o.q0.A 0 o.q0.c) := (O.cell 30).trans (by show some (Value.slice o.q0.A o.q0.n o.q0.c) = _; rw [h8])
                        have H8 := hide h8
                        clear h8
                        have k9 : w1.cell? ⟨W.heap.size, 31, none⟩ = some (.slice o.q1.A 0 o.q1.c) := (O.cell 31).trans (by show some (Value.slice o.q1.A o.q1.n o.q1.c) = _; rw [h9])
                        have H9 := hide h9
                        clear h9
                        have H10 := hide h10
                        clear h10
                        go_enter Tryd.func47, Tryd.ntmps47
                        go_wp2_with (first | (refine wpList_val (by rfl) (exec_load_ends rfl rfl O) ?_) | (refine wpList_val (by rfl) (exec_build rfl (vs := []) rfl built_ends) ?_) | (refine wpList_val (by rfl) (exec_eql_ends (L := [o.e0, o.e1]) (M := [0, 0]) rfl rfl rfl rfl rfl) ?_; rw [show decide ([o.e0, o.e1] = [0, 0]) = false from decide_eq_false H10.out]) | fail)
                        go_ret
                        exact ⟨ret_bool (decide_eq_false (fun hh : o.Clear => H10.out (hh.2.1.2.2.2.2.2.1))).symm, HB.out⟩
                    · have k0 : w1.cell? ⟨W.heap.size, 2, none⟩ = some (.int .i64 0) := (O.cell 2).trans (by show some (Value.int .i64 o.refs) = _; rw [h0])
                      have H0 := hide h0
                      clear h0
                      have k1 : w1.cell? ⟨W.heap.size, 23, none⟩ = some (.slice o.words.A 0 o.words.c) := (O.cell 23).trans (by show some (Value.slice o.words.A o.words.n o.words.c) = _; rw [h1])
                      have H1 := hide h1
                      clear h1
                      have k2 : w1.cell? ⟨W.heap.size, 24, none⟩ = some (.slice o.data.A 0 o.data.c) := (O.cell 24).trans (by show some (Value.slice o.data.A o.data.n o.data.c) = _; rw [h2])
                      have H2 := hide h2
                      clear h2
                      have k3 : w1.cell? ⟨W.heap.size, 25, none⟩ = some (.int .i64 0) := (O.cell 25).trans (by show some (Value.int .i64 o.offset) = _; rw [h3])
                      have H3 := hide h3
                      clear h3
                      have k4 : w1.cell? ⟨W.heap.size, 26, none⟩ = some (.int .u64 0) := (O.cell 26).trans (by show some (Value.int .u64 o.target) = _; rw [h4])
                      have H4 := hide h4
                      clear h4
                      have k5 : w1.cell? ⟨W.heap.size, 27, none⟩ = some (.int .i64 0) := (O.cell 27).trans (by show some (Value.int .i64 o.readers) = _; rw [h5])
                      have H5 := hide h5
                      clear h5
                      have k6 : w1.cell? ⟨W.heap.size, 28, none⟩ = some (.int .i64 0) := (O.cell 28).trans (by show some (Value.int .i64 o.writers) = _; rw [h6])
                      have H6 := hide h6
                      clear h6
                      have k7 : w1.cell? ⟨W.heap.size, 29, none⟩ = some (.slice o.backlog.A 0 o.backlog.c) := (O.cell 29).trans (by show some (Value.slice o.backlog.A o.backlog.n o.backlog.c) = _; rw [h7])
                      have H7 := hide h7
                      clear h7
                      have k8 : w1.cell? ⟨W.heap.size, 30, none⟩ = some (.slice o.q0.A 0 o.q0.c) := (O.cell 30).trans (by show some (Value.slice o.q0.A o.q0.n o.q0.c) = _; rw [h8])
                      have H8 := hide h8
                      clear h8
                      have k9 : w1.cell? ⟨W.heap.size, 31, none⟩ = some (.slice o.q1.A o.q1.n o.q1.c) := (O.cell 31).trans (by show some (Value.slice o.q1.A o.q1.n o.q1.c) = _; rfl)
                      have b9 : (((o.q1.n : Nat) : Int) == 0) = false := by simp; omega
                      have e9 : ¬ ((o.q1.n : Nat) : Int) = 0 := by omega
                      have H9 := hide h9
                      clear h9
                      go_enter Tryd.func47, Tryd.ntmps47
                      go_wp2_with (first | fail)
                      go_ret
                      exact ⟨ret_bool (decide_eq_false (fun hh : o.Clear => H9.out (hh.2.2.1.2.2.2.2))).symm, HB.out⟩
                  · have k0 : w1.cell? ⟨W.heap.size, 2, none⟩ = some (.int .i64 0) := (O.cell 2).trans (by show some (Value.int .i64 o.refs) = _; rw [h0])
                    have H0 := hide h0
                    clear h0
                    have k1 : w1.cell? ⟨W.heap.size, 23, none⟩ = some (.slice o.words.A 0 o.words.c) := (O.cell 23).trans (by show some (Value.slice o.words.A o.words.n o.words.c) = _; rw [h1])
                    have H1 := hide h1
                    clear h1
                    have k2 : w1.cell? ⟨W.heap.size, 24, none⟩ = some (.slice o.data.A 0 o.data.c) := (O.cell 24).trans (by show some (Value.slice o.data.A o.data.n o.data.c) = _; rw [h2])
                    have H2 := hide h2
                    clear h2
                    have k3 : w1.cell? ⟨W.heap.size, 25, none⟩ = some (.int .i64 0) := (O.cell 25).trans (by show some (Value.int .i64 o.offset) = _; rw [h3])
                    have H3 := hide h3
                    clear h3
                    have k4 : w1.cell? ⟨W.heap.size, 26, none⟩ = some (.int .u64 0) := (O.cell 26).trans (by show some (Value.int .u64 o.target) = _; rw [h4])
                    have H4 := hide h4
                    clear h4
                    have k5 : w1.cell? ⟨W.heap.size, 27, none⟩ = some (.int .i64 0) := (O.cell 27).trans (by show some (Value.int .i64 o.readers) = _; rw [h5])
                    have H5 := hide h5
                    clear h5
                    have k6 : w1.cell? ⟨W.heap.size, 28, none⟩ = some (.int .i64 0) := (O.cell 28).trans (by show some (Value.int .i64 o.writers) = _; rw [h6])
                    have H6 := hide h6
                    clear h6
                    have k7 : w1.cell? ⟨W.heap.size, 29, none⟩ = some (.slice o.backlog.A 0 o.backlog.c) := (O.cell 29).trans (by show some (Value.slice o.backlog.A o.backlog.n o.backlog.c) = _; rw [h7])
                    have H7 := hide h7
                    clear h7
                    have k8 : w1.cell? ⟨W.heap.size, 30, none⟩ = some (.slice o.q0.A o.q0.n o.q0.c) := (O.cell 30).trans (by show some (Value.slice o.q0.A o.q0.n o.q0.c) = _; rfl)
                    have b8 : (((o.q0.n : Nat) : Int) == 0) = false := by simp; omega
                    have e8 : ¬ ((o.q0.n : Nat) : Int) = 0 := by omega
                    have H8 := hide h8
                    clear h8
                    go_enter Tryd.func47, Tryd.ntmps47
                    go_wp2_with (first | fail)
                    go_ret
                    exact ⟨ret_bool (decide_eq_false (fun hh : o.Clear => H8.out (hh.2.2.1.2.2.2.1))).symm, HB.out⟩
                · have k0 : w1.cell? ⟨W.heap.size, 2, none⟩ = some (.int .i64 0) := (O.cell 2).trans (by show some (Value.int .i64 o.refs) = _; rw [h0])
                  have H0 := hide h0
                  clear h0
                  have k1 : w1.cell? ⟨W.heap.size, 23, none⟩ = some (.slice o.words.A 0 o.words.c) := (O.cell 23).trans (by show some (Value.slice o.words.A o.words.n o.words.c) = _; rw [h1])
                  have H1 := hide h1
                  clear h1
                  have k2 : w1.cell? ⟨W.heap.size, 24, none⟩ = some (.slice o.data.A 0 o.data.c) := (O.cell 24).trans (by show some (Value.slice o.data.A o.data.n o.data.c) = _; rw [h2])
                  have H2 := hide h2
                  clear h2
                  have k3 : w1.cell? ⟨W.heap.size, 25, none⟩ = some (.int .i64 0) := (O.cell 25).trans (by show some (Value.int .i64 o.offset) = _; rw [h3])
                  have H3 := hide h3
                  clear h3
                  have k4 : w1.cell? ⟨W.heap.size, 26, none⟩ = some (.int .u64 0) := (O.cell 26).trans (by show some (Value.int .u64 o.target) = _; rw [h4])
                  have H4 := hide h4
                  clear h4
                  have k5 : w1.cell? ⟨W.heap.size, 27, none⟩ = some (.int .i64 0) := (O.cell 27).trans (by show some (Value.int .i64 o.readers) = _; rw [h5])
                  have H5 := hide h5
                  clear h5
                  have k6 : w1.cell? ⟨W.heap.size, 28, none⟩ = some (.int .i64 0) := (O.cell 28).trans (by show some (Value.int .i64 o.writers) = _; rw [h6])
                  have H6 := hide h6
                  clear h6
                  have k7 : w1.cell? ⟨W.heap.size, 29, none⟩ = some (.slice o.backlog.A o.backlog.n o.backlog.c) := (O.cell 29).trans (by show some (Value.slice o.backlog.A o.backlog.n o.backlog.c) = _; rfl)
                  have b7 : (((o.backlog.n : Nat) : Int) == 0) = false := by simp; omega
                  have e7 : ¬ ((o.backlog.n : Nat) : Int) = 0 := by omega
                  have H7 := hide h7
                  clear h7
                  go_enter Tryd.func47, Tryd.ntmps47
                  go_wp2_with (first | fail)
                  go_ret
                  exact ⟨ret_bool (decide_eq_false (fun hh : o.Clear => H7.out (hh.2.2.1.2.1))).symm, HB.out⟩
              · have k0 : w1.cell? ⟨W.heap.size, 2, none⟩ = some (.int .i64 0) := (O.cell 2).trans (by show some (Value.int .i64 o.refs) = _; rw [h0])
                have H0 := hide h0
                clear h0
                have k1 : w1.cell? ⟨W.heap.size, 23, none⟩ = some (.slice o.words.A 0 o.words.c) := (O.cell 23).trans (by show some (Value.slice o.words.A o.words.n o.words.c) = _; rw [h1])
                have H1 := hide h1
                clear h1
                have k2 : w1.cell? ⟨W.heap.size, 24, none⟩ = some (.slice o.data.A 0 o.data.c) := (O.cell 24).trans (by show some (Value.slice o.data.A o.data.n o.data.c) = _; rw [h2])
                have H2 := hide h2
                clear h2
                have k3 : w1.cell? ⟨W.heap.size, 25, none⟩ = some (.int .i64 0) := (O.cell 25).trans (by show some (Value.int .i64 o.offset) = _; rw [h3])
                have H3 := hide h3
                clear h3
                have k4 : w1.cell? ⟨W.heap.size, 26, none⟩ = some (.int .u64 0) := (O.cell 26).trans (by show some (Value.int .u64 o.target) = _; rw [h4])
                have H4 := hide h4
                clear h4
                have k5 : w1.cell? ⟨W.heap.size, 27, none⟩ = some (.int .i64 0) := (O.cell 27).trans (by show some (Value.int .i64 o.readers) = _; rw [h5])
                have H5 := hide h5
                clear h5
                have k6 : w1.cell? ⟨W.heap.size, 28, none⟩ = some (.int .i64 o.writers) := (O.cell 28).trans (by show some (Value.int .i64 o.writers) = _; rfl)
                have c6 : (o.writers != 0) = true := by simpa using h6
                have b6 : (o.writers == 0) = false := by simpa using h6
                have H6 := hide h6
                clear h6
                go_enter Tryd.func47, Tryd.ntmps47
                go_wp2_with (first | fail)
                go_ret
                exact ⟨ret_bool (decide_eq_false (fun hh : o.Clear => H6.out (hh.2.1.2.2.2.2.1))).symm, HB.out⟩
            · have k0 : w1.cell? ⟨W.heap.size, 2, none⟩ = some (.int .i64 0) := (O.cell 2).trans (by show some (Value.int .i64 o.refs) = _; rw [h0])
              have H0 := hide h0
              clear h0
              have k1 : w1.cell? ⟨W.heap.size, 23, none⟩ = some (.slice o.words.A 0 o.words.c) := (O.cell 23).trans (by show some (Value.slice o.words.A o.words.n o.words.c) = _; rw [h1])
              have H1 := hide h1
              clear h1
              have k2 : w1.cell? ⟨W.heap.size, 24, none⟩ = some (.slice o.data.A 0 o.data.c) := (O.cell 24).trans (by show some (Value.slice o.data.A o.data.n o.data.c) = _; rw [h2])
              have H2 := hide h2
              clear h2
              have k3 : w1.cell? ⟨W.heap.size, 25, none⟩ = some (.int .i64 0) := (O.cell 25).trans (by show some (Value.int .i64 o.offset) = _; rw [h3])
              have H3 := hide h3
              clear h3
              have k4 : w1.cell? ⟨W.heap.size, 26, none⟩ = some (.int .u64 0) := (O.cell 26).trans (by show some (Value.int .u64 o.target) = _; rw [h4])
              have H4 := hide h4
              clear h4
              have k5 : w1.cell? ⟨W.heap.size, 27, none⟩ = some (.int .i64 o.readers) := (O.cell 27).trans (by show some (Value.int .i64 o.readers) = _; rfl)
              have c5 : (o.readers != 0) = true := by simpa using h5
              have b5 : (o.readers == 0) = false := by simpa using h5
              have H5 := hide h5
              clear h5
              go_enter Tryd.func47, Tryd.ntmps47
              go_wp2_with (first | fail)
              go_ret
              exact ⟨ret_bool (decide_eq_false (fun hh : o.Clear => H5.out (hh.2.1.2.2.2.1))).symm, HB.out⟩
          · have k0 : w1.cell? ⟨W.heap.size, 2, none⟩ = some (.int .i64 0) := (O.cell 2).trans (by show some (Value.int .i64 o.refs) = _; rw [h0])
            have H0 := hide h0
            clear h0
            have k1 : w1.cell? ⟨W.heap.size, 23, none⟩ = some (.slice o.words.A 0 o.words.c) := (O.cell 23).trans (by show some (Value.slice o.words.A o.words.n o.words.c) = _; rw [h1])
            have H1 := hide h1
            clear h1
            have k2 : w1.cell? ⟨W.heap.size, 24, none⟩ = some (.slice o.data.A 0 o.data.c) := (O.cell 24).trans (by show some (Value.slice o.data.A o.data.n o.data.c) = _; rw [h2])
            have H2 := hide h2
            clear h2
            have k3 : w1.cell? ⟨W.heap.size, 25, none⟩ = some (.int .i64 0) := (O.cell 25).trans (by show some (Value.int .i64 o.offset) = _; rw [h3])
            have H3 := hide h3
            clear h3
            have k4 : w1.cell? ⟨W.heap.size, 26, none⟩ = some (.int .u64 o.target) := (O.cell 26).trans (by show some (Value.int .u64 o.target) = _; rfl)
            have c4 : (o.target != 0) = true := by simpa using h4
            have b4 : (o.target == 0) = false := by simpa using h4
            have H4 := hide h4
            clear h4
            go_enter Tryd.func47, Tryd.ntmps47
            go_wp2_with (first | fail)
            go_ret
            exact ⟨ret_bool (decide_eq_false (fun hh : o.Clear => H4.out (hh.2.1.2.2.1))).symm, HB.out⟩
        · have k0 : w1.cell? ⟨W.heap.size, 2, none⟩ = some (.int .i64 0) := (O.cell 2).trans (by show some (Value.int .i64 o.refs) = _; rw [h0])
          have H0 := hide h0
          clear h0
          have k1 : w1.cell? ⟨W.heap.size, 23, none⟩ = some (.slice o.words.A 0 o.words.c) := (O.cell 23).trans (by show some (Value.slice o.words.A o.words.n o.words.c) = _; rw [h1])
          have H1 := hide h1
          clear h1
          have k2 : w1.cell? ⟨W.heap.size, 24, none⟩ = some (.slice o.data.A 0 o.data.c) := (O.cell 24).trans (by show some (Value.slice o.data.A o.data.n o.data.c) = _; rw [h2])
          have H2 := hide h2
          clear h2
          have k3 : w1.cell? ⟨W.heap.size, 25, none⟩ = some (.int .i64 o.offset) := (O.cell 25).trans (by show some (Value.int .i64 o.offset) = _; rfl)
          have c3 : (o.offset != 0) = true := by simpa using h3
          have b3 : (o.offset == 0) = false := by simpa using h3
          have H3 := hide h3
          clear h3
          go_enter Tryd.func47, Tryd.ntmps47
          go_wp2_with (first | fail)
          go_ret
          exact ⟨ret_bool (decide_eq_false (fun hh : o.Clear => H3.out (hh.2.1.2.1))).symm, HB.out⟩
      · have k0 : w1.cell? ⟨W.heap.size, 2, none⟩ = some (.int .i64 0) := (O.cell 2).trans (by show some (Value.int .i64 o.refs) = _; rw [h0])
        have H0 := hide h0
        clear h0
        have k1 : w1.cell? ⟨W.heap.size, 23, none⟩ = some (.slice o.words.A 0 o.words.c) := (O.cell 23).trans (by show some (Value.slice o.words.A o.words.n o.words.c) = _; rw [h1])
        have H1 := hide h1
        clear h1
        have k2 : w1.cell? ⟨W.heap.size, 24, none⟩ = some (.slice o.data.A o.data.n o.data.c) := (O.cell 24).trans (by show some (Value.slice o.data.A o.data.n o.data.c) = _; rfl)
        have b2 : (((o.data.n : Nat) : Int) == 0) = false := by simp; omega
        have e2 : ¬ ((o.data.n : Nat) : Int) = 0 := by omega
        have H2 := hide h2
        clear h2
        go_enter Tryd.func47, Tryd.ntmps47
        go_wp2_with (first | fail)
        go_ret
        exact ⟨ret_bool (decide_eq_false (fun hh : o.Clear => H2.out (hh.2.2.1.1))).symm, HB.out⟩
    · have k0 : w1.cell? ⟨W.heap.size, 2, none⟩ = some (.int .i64 0) := (O.cell 2).trans (by show some (Value.int .i64 o.refs) = _; rw [h0])
      have H0 := hide h0
      clear h0
      have k1 : w1.cell? ⟨W.heap.size, 23, none⟩ = some (.slice o.words.A o.words.n o.words.c) := (O.cell 23).trans (by show some (Value.slice o.words.A o.words.n o.words.c) = _; rfl)
      have b1 : (((o.words.n : Nat) : Int) == 0) = false := by simp; omega
      have e1 : ¬ ((o.words.n : Nat) : Int) = 0 := by omega
      have H1 := hide h1
      clear h1
      go_enter Tryd.func47, Tryd.ntmps47
      go_wp2_with (first | fail)
      go_ret
      exact ⟨ret_bool (decide_eq_false (fun hh : o.Clear => H1.out (hh.1))).symm, HB.out⟩
  · have k0 : w1.cell? ⟨W.heap.size, 2, none⟩ = some (.int .i64 o.refs) := (O.cell 2).trans (by show some (Value.int .i64 o.refs) = _; rfl)
    have c0 : (o.refs != 0) = true := by simpa using h0
    have b0 : (o.refs == 0) = false := by simpa using h0
    have H0 := hide h0
    clear h0
    go_enter Tryd.func47, Tryd.ntmps47
    go_wp2_with (first | fail)
    go_ret
    exact ⟨ret_bool (decide_eq_false (fun hh : o.Clear => H0.out (hh.2.1.1))).symm, HB.out⟩
end Go.Proofs.YtejhnfeligifgaaDoor
