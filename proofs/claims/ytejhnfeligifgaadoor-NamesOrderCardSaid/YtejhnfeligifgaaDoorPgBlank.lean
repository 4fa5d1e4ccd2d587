/- Which objects are pages: the reference's chains of conditions (written by tools/mkvalid.py). -/
import Derived.Test.YtejhnfeligifgaaDoorOb
namespace Go.Proofs.YtejhnfeligifgaaDoor
open Go.RowKit

set_option maxRecDepth 100000 in
set_option maxHeartbeats 4000000 in
/-- Nothing of a process. -/
theorem blank_any (o : Ob) (W : World) : Calls Tryd.prog 75 #[.agg (pcell o)] W (BoolPost (decide o.NoProc) W) := by
  obtain ⟨w1, hw, O, hb⟩ : ∃ w1, W.alloc (.cells (pcell o) 34) = w1 ∧ Obl w1 W.heap.size 34 (pcell o) ∧ Below W.heap.size W w1 := ⟨_, rfl, Obl.make W _ _, (Below.refl _ _).alloc (Nat.le_refl _) _⟩
  have HB := hide hb
  have lt := O.lt
  clear hb
  by_cases h0 : o.state = 0
  · by_cases h1 : o.parent = 0
    · by_cases h2 : o.children.n = 0
      · by_cases h3 : o.code.n = 0
        · by_cases h4 : o.strs.n = 0
          · by_cases h5 : o.ppages = 0
            · by_cases h6 : o.cpu = Ob.noCpu
              · by_cases h7 : o.pages.n = 0
                · by_cases h8 : o.table.n = 0
                  · by_cases h9 : o.pending = 0
                    · by_cases h10 : o.alarm = 0
                      · by_cases h11 : o.status = 0
                        · have k0 : w1.cell? ⟨W.heap.size, 0, none⟩ = some (.int .i64 0) := (O.cell 0).trans (by show some (Value.int .i64 o.state) = _; rw [h0])
                          have H0 := hide h0
                          clear h0
                          have k1 : w1.cell? ⟨W.heap.size, 1, none⟩ = some (.int .u64 0) := (O.cell 1).trans (by show some (Value.int .u64 o.parent) = _; rw [h1])
                          have H1 := hide h1
                          clear h1
                          have k2 : w1.cell? ⟨W.heap.size, 2, none⟩ = some (.slice o.children.A 0 o.children.c) := (O.cell 2).trans (by show some (Value.slice o.children.A o.children.n o.children.c) = _; rw [h2])
                          have H2 := hide h2
                          clear h2
                          have k3 : w1.cell? ⟨W.heap.size, 3, none⟩ = some (.slice o.code.A 0 o.code.c) := (O.cell 3).trans (by show some (Value.slice o.code.A o.code.n o.code.c) = _; rw [h3])
                          have H3 := hide h3
                          clear h3
                          have k4 : w1.cell? ⟨W.heap.size, 4, none⟩ = some (.slice o.strs.A 0 o.strs.c) := (O.cell 4).trans (by show some (Value.slice o.strs.A o.strs.n o.strs.c) = _; rw [h4])
                          have H4 := hide h4
                          clear h4
                          have k5 : w1.cell? ⟨W.heap.size, 5, none⟩ = some (.int .i64 0) := (O.cell 5).trans (by show some (Value.int .i64 o.ppages) = _; rw [h5])
                          have H5 := hide h5
                          clear h5
                          have H6 := hide h6
                          clear h6
                          have k7 : w1.cell? ⟨W.heap.size, 15, none⟩ = some (.slice o.pages.A 0 o.pages.c) := (O.cell 15).trans (by show some (Value.slice o.pages.A o.pages.n o.pages.c) = _; rw [h7])
                          have H7 := hide h7
                          clear h7
                          have k8 : w1.cell? ⟨W.heap.size, 16, none⟩ = some (.slice o.table.A 0 o.table.c) := (O.cell 16).trans (by show some (Value.slice o.table.A o.table.n o.table.c) = _; rw [h8])
                          have H8 := hide h8
                          clear h8
                          have k9 : w1.cell? ⟨W.heap.size, 17, none⟩ = some (.int .i64 0) := (O.cell 17).trans (by show some (Value.int .i64 o.pending) = _; rw [h9])
                          have H9 := hide h9
                          clear h9
                          have k10 : w1.cell? ⟨W.heap.size, 18, none⟩ = some (.int .i64 0) := (O.cell 18).trans (by show some (Value.int .i64 o.alarm) = _; rw [h10])
                          have H10 := hide h10
                          clear h10
                          have k11 : w1.cell? ⟨W.heap.size, 19, none⟩ = some (.int .i64 0) := (O.cell 19).trans (by show some (Value.int .i64 o.status) = _; rw [h11])
                          have H11 := hide h11
                          clear h11
                          go_enter Tryd.func75, Tryd.ntmps75
                          go_wp2_with (first | (refine wpList_val (by rfl) (exec_load_pcpu rfl rfl O) ?_) | (refine wpList_val (by rfl) (exec_build rfl (vs := []) rfl built_nocpu) ?_) | (refine wpList_val (by rfl) (exec_eql_cpu rfl rfl rfl (x := o.cpu) (y := Ob.noCpu) rfl rfl) ?_; rw [show decide (o.cpu = Ob.noCpu) = true from decide_eq_true H6.out]) | fail)
                          go_ret
                          exact ⟨ret_bool (decide_eq_true (show o.NoProc from ⟨H0.out, H1.out, H2.out, ⟨H3.out, H4.out, H5.out⟩, H6.out, H7.out, H8.out, H9.out, H10.out, H11.out⟩)).symm, HB.out⟩
                        · have k0 : w1.cell? ⟨W.heap.size, 0, none⟩ = some (.int .i64 0) := (O.cell 0).trans (by show some (Value.int .i64 o.state) = _; rw [h0])
                          have H0 := hide h0
                          clear h0
                          have k1 : w1.cell? ⟨W.heap.size, 1, none⟩ = some (.int .u64 0) := (O.cell 1).trans (by show some (Value.int .u64 o.parent) = _; rw [h1])
                          have H1 := hide h1
                          clear h1
                          have k2 : w1.cell? ⟨W.heap.size, 2, none⟩ = some (.slice o.children.A 0 o.children.c) := (O.cell 2).trans (by show some (Value.slice o.children.A o.children.n o.children.c) = _; rw [h2])
                          have H2 := hide h2
                          clear h2
                          have k3 : w1.cell? ⟨W.heap.size, 3, none⟩ = some (.slice o.code.A 0 o.code.c) := (O.cell 3).trans (by show some (Value.slice o.code.A o.code.n o.code.c) = _; rw [h3])
                          have H3 := hide h3
                          clear h3
                          have k4 : w1.cell? ⟨W.heap.size, 4, none⟩ = some (.slice o.strs.A 0 o.strs.c) := (O.cell 4).trans (by show some (Value.slice o.strs.A o.strs.n o.strs.c) = _; rw [h4])
                          have H4 := hide h4
                          clear h4
                          have k5 : w1.cell? ⟨W.heap.size, 5, none⟩ = some (.int .i64 0) := (O.cell 5).trans (by show some (Value.int .i64 o.ppages) = _; rw [h5])
                          have H5 := hide h5
                          clear h5
                          have H6 := hide h6
                          clear h6
                          have k7 : w1.cell? ⟨W.heap.size, 15, none⟩ = some (.slice o.pages.A 0 o.pages.c) := (O.cell 15).trans (by show some (Value.slice o.pages.A o.pages.n o.pages.c) = _; rw [h7])
                          have H7 := hide h7
                          clear h7
                          have k8 : w1.cell? ⟨W.heap.size, 16, none⟩ = some (.slice o.table.A 0 o.table.c) := (O.cell 16).trans (by show some (Value.slice o.table.A o.table.n o.table.c) = _; rw [h8])
                          have H8 := hide h8
                          clear h8
                          have k9 : w1.cell? ⟨W.heap.size, 17, none⟩ = some (.int .i64 0) := (O.cell 17).trans (by show some (Value.int .i64 o.pending) = _; rw [h9])
                          have H9 := hide h9
                          clear h9
                          have k10 : w1.cell? ⟨W.heap.size, 18, none⟩ = some (.int .i64 0) := (O.cell 18).trans (by show some (Value.int .i64 o.alarm) = _; rw [h10])
                          have H10 := hide h10
                          clear h10
                          have k11 : w1.cell? ⟨W.heap.size, 19, none⟩ = some (.int .i64 o.status) := (O.cell 19).trans (by show some (Value.int .i64 o.status) = _; rfl)
                          have c11 : (o.status != 0) = true := by simpa using h11
                          have b11 : (o.status == 0) = false := by simpa using h11
                          have H11 := hide h11
                          clear h11
                          go_enter Tryd.func75, Tryd.ntmps75
                          go_wp2_with (first | (refine wpList_val (by rfl) (exec_load_pcpu rfl rfl O) ?_) | (refine wpList_val (by rfl) (exec_build rfl (vs := []) rfl built_nocpu) ?_) | (refine wpList_val (by rfl) (exec_eql_cpu rfl rfl rfl (x := o.cpu) (y := Ob.noCpu) rfl rfl) ?_; rw [show decide (o.cpu = Ob.noCpu) = true from decide_eq_true H6.out]) | fail)
                          go_ret
                          exact ⟨ret_bool (decide_eq_false (fun hh : o.NoProc => H11.out (hh.2.2.2.2.2.2.2.2.2))).symm, HB.out⟩
                      · have k0 : w1.cell? ⟨W.heap.size, 0, none⟩ = some (.int .i64 0) := (O.cell 0).trans (by show some (Value.int .i64 o.state) = _; rw [h0])
                        have H0 := hide h0
                        clear h0
                        have k1 : w1.cell? ⟨W.heap.size, 1, none⟩ = some (.int .u64 0) := (O.cell 1).trans (by show some (Value.int .u64 o.parent) = _; rw [h1])
                        have H1 := hide h1
                        clear h1
                        have k2 : w1.cell? ⟨W.heap.size, 2, none⟩ = some (.slice o.children.A 0 o.children.c) := (O.cell 2).trans (by show some (Value.slice o.children.A o.children.n o.children.c) = _; rw [h2])
                        have H2 := hide h2
                        clear h2
                        have k3 : w1.cell? ⟨W.heap.size, 3, none⟩ = some (.slice o.code.A 0 o.code.c) := (O.cell 3).trans (by show some (Value.slice o.code.A o.code.n o.code.c) = _; rw [h3])
                        have H3 := hide h3
                        clear h3
                        have k4 : w1.cell? ⟨W.heap.size, 4, none⟩ = some (.slice o.strs.A 0 o.strs.c) := (O.cell 4).trans (by show some (Value.slice o.strs.A o.strs.n o.strs.c) = _; rw [h4])
                        have H4 := hide h4
                        clear h4
                        have k5 : w1.cell? ⟨W.heap.size, 5, none⟩ = some (.int .i64 0) := (O.cell 5).trans (by show some (Value.int .i64 o.ppages) = _; rw [h5])
                        have H5 := hide h5
                        clear h5
                        have H6 := hide h6
                        clear h6
                        have k7 : w1.cell? ⟨W.heap.size, 15, none⟩ = some (.slice o.pages.A 0 o.pages.c) := (O.cell 15).trans (by show some (Value.slice o.pages.A o.pages.n o.pages.c) = _; rw [h7])
                        have H7 := hide h7
                        clear h7
                        have k8 : w1.cell? ⟨W.heap.size, 16, none⟩ = some (.slice o.table.A 0 o.table.c) := (O.cell 16).trans (by show some (Value.slice o.table.A o.table.n o.table.c) = _; rw [h8])
                        have H8 := hide h8
                        clear h8
                        have k9 : w1.cell? ⟨W.heap.size, 17, none⟩ = some (.int .i64 0) := (O.cell 17).trans (by show some (Value.int .i64 o.pending) = _; rw [h9])
                        have H9 := hide h9
                        clear h9
                        have k10 : w1.cell? ⟨W.heap.size, 18, none⟩ = some (.int .i64 o.alarm) := (O.cell 18).trans (by show some (Value.int .i64 o.alarm) = _; rfl)
                        have c10 : (o.alarm != 0) = true := by simpa using h10
                        have b10 : (o.alarm == 0) = false := by simpa using h10
                        have H10 := hide h10
                        clear h10
                        go_enter Tryd.func75, Tryd.ntmps75
                        go_wp2_with (first | (refine wpList_val (by rfl) (exec_load_pcpu rfl rfl O) ?_) | (refine wpList_val (by rfl) (exec_build rfl (vs := []) rfl built_nocpu) ?_) | (refine wpList_val (by rfl) (exec_eql_cpu rfl rfl rfl (x := o.cpu) (y := Ob.noCpu) rfl rfl) ?_; rw [show decide (o.cpu = Ob.noCpu) = true from decide_eq_true H6.out]) | fail)
                        go_ret
                        exact ⟨ret_bool (decide_eq_false (fun hh : o.NoProc => H10.out (hh.2.2.2.2.2.2.2.2.1))).symm, HB.out⟩
                    · have k0 : w1.cell? ⟨W.heap.size, 0, none⟩ = some (.int .i64 0) := (O.cell 0).trans (by show some (Value.int .i64 o.state) = _; rw [h0])
                      have H0 := hide h0
                      clear h0
                      have k1 : w1.cell? ⟨W.heap.size, 1, none⟩ = some (.int .u64 0) := (O.cell 1).trans (by show some (Value.int .u64 o.parent) = _; rw [h1])
                      have H1 := hide h1
                      clear h1
                      have k2 : w1.cell? ⟨W.heap.size, 2, none⟩ = some (.slice o.children.A 0 o.children.c) := (O.cell 2).trans (by show some (Value.slice o.children.A o.children.n o.children.c) = _; rw [h2])
                      have H2 := hide h2
                      clear h2
                      have k3 : w1.cell? ⟨W.heap.size, 3, none⟩ = some (.slice o.code.A 0 o.code.c) := (O.cell 3).trans (by show some (Value.slice o.code.A o.code.n o.code.c) = _; rw [h3])
                      have H3 := hide h3
                      clear h3
                      have k4 : w1.cell? ⟨W.heap.size, 4, none⟩ = some (.slice o.strs.A 0 o.strs.c) := (O.cell 4).trans (by show some (Value.slice o.strs.A o.strs.n o.strs.c) = _; rw [h4])
                      have H4 := hide h4
                      clear h4
                      have k5 : w1.cell? ⟨W.heap.size, 5, none⟩ = some (.int .i64 0) := (O.cell 5).trans (by show some (Value.int .i64 o.ppages) = _; rw [h5])
                      have H5 := hide h5
                      clear h5
                      have H6 := hide h6
                      clear h6
                      have k7 : w1.cell? ⟨W.heap.size, 15, none⟩ = some (.slice o.pages.A 0 o.pages.c) := (O.cell 15).trans (by show some (Value.slice o.pages.A o.pages.n o.pages.c) = _; rw [h7])
                      have H7 := hide h7
                      clear h7
                      have k8 : w1.cell? ⟨W.heap.size, 16, none⟩ = some (.slice o.table.A 0 o.table.c) := (O.cell 16).trans (by show some (Value.slice o.table.A o.table.n o.table.c) = _; rw [h8])
                      have H8 := hide h8
                      clear h8
                      have k9 : w1.cell? ⟨W.heap.size, 17, none⟩ = some (.int .i64 o.pending) := (O.cell 17).trans (by show some (Value.int .i64 o.pending) = _; rfl)
                      have c9 : (o.pending != 0) = true := by simpa using h9
                      have b9 : (o.pending == 0) = false := by simpa using h9
                      have H9 := hide h9
                      clear h9
                      go_enter Tryd.func75, Tryd.ntmps75
                      go_wp2_with (first | (refine wpList_val (by rfl) (exec_load_pcpu rfl rfl O) ?_) | (refine wpList_val (by rfl) (exec_build rfl (vs := []) rfl built_nocpu) ?_) | (refine wpList_val (by rfl) (exec_eql_cpu rfl rfl rfl (x := o.cpu) (y := Ob.noCpu) rfl rfl) ?_; rw [show decide (o.cpu = Ob.noCpu) = true from decide_eq_true H6.out]) | fail)
                      go_ret
                      exact ⟨ret_bool (decide_eq_false (fun hh : o.NoProc => H9.out (hh.2.2.2.2.2.2.2.1))).symm, HB.out⟩
                  · have k0 : w1.cell? ⟨W.heap.size, 0, none⟩ = some (.int .i64 0) := (O.cell 0).trans (by show some (Value.int .i64 o.state) = _; rw [h0])
                    have H0 := hide h0
                    clear h0
                    have k1 : w1.cell? ⟨W.heap.size, 1, none⟩ = some (.int .u64 0) := (O.cell 1).trans (by show some (Value.int .u64 o.parent) = _; rw [h1])
                    have H1 := hide h1
                    clear h1
                    have k2 : w1.cell? ⟨W.heap.size, 2, none⟩ = some (.slice o.children.A 0 o.children.c) := (O.cell 2).trans (by show some (Value.slice o.children.A o.children.n o.children.c) = _; rw [h2])
                    have H2 := hide h2
                    clear h2
                    have k3 : w1.cell? ⟨W.heap.size, 3, none⟩ = some (.slice o.code.A 0 o.code.c) := (O.cell 3).trans (by show some (Value.slice o.code.A o.code.n o.code.c) = _; rw [h3])
                    have H3 := hide h3
                    clear h3
                    have k4 : w1.cell? ⟨W.heap.size, 4, none⟩ = some (.slice o.strs.A 0 o.strs.c) := (O.cell 4).trans (by show some (Value.slice o.strs.A o.strs.n o.strs.c) = _; rw [h4])
                    have H4 := hide h4
                    clear h4
                    have k5 : w1.cell? ⟨W.heap.size, 5, none⟩ = some (.int .i64 0) := (O.cell 5).trans (by show some (Value.int .i64 o.ppages) = _; rw [h5])
                    have H5 := hide h5
                    clear h5
                    have H6 := hide h6
                    clear h6
                    have k7 : w1.cell? ⟨W.heap.size, 15, none⟩ = some (.slice o.pages.A 0 o.pages.c) := (O.cell 15).trans (by show some (Value.slice o.pages.A o.pages.n o.pages.c) = _; rw [h7])
                    have H7 := hide h7
                    clear h7
                    have k8 : w1.cell? ⟨W.heap.size, 16, none⟩ = some (.slice o.table.A o.table.n o.table.c) := (O.cell 16).trans (by show some (Value.slice o.table.A o.table.n o.table.c) = _; rfl)
                    have b8 : (((o.table.n : Nat) : Int) == 0) = false := by simp; omega
                    have e8 : ¬ ((o.table.n : Nat) : Int) = 0 := by omega
                    have H8 := hide h8
                    clear h8
                    go_enter Tryd.func75, Tryd.ntmps75
                    go_wp2_with (first | (refine wpList_val (by rfl) (exec_load_pcpu rfl rfl O) ?_) | (refine wpList_val (by rfl) (exec_build rfl (vs := []) rfl built_nocpu) ?_) | (refine wpList_val (by rfl) (exec_eql_cpu rfl rfl rfl (x := o.cpu) (y := Ob.noCpu) rfl rfl) ?_; rw [show decide (o.cpu = Ob.noCpu) = true from decide_eq_true H6.out]) | fail)
                    go_ret
                    exact ⟨ret_bool (decide_eq_false (fun hh : o.NoProc => H8.out (hh.2.2.2.2.2.2.1))).symm, HB.out⟩
                · have k0 : w1.cell? ⟨W.heap.size, 0, none⟩ = some (.int .i64 0) := (O.cell 0).trans (by show some (Value.int .i64 o.state) = _; rw [h0])
                  have H0 := hide h0
                  clear h0
                  have k1 : w1.cell? ⟨W.heap.size, 1, none⟩ = some (.int .u64 0) := (O.cell 1).trans (by show some (Value.int .u64 o.parent) = _; rw [h1])
                  have H1 := hide h1
                  clear h1
                  have k2 : w1.cell? ⟨W.heap.size, 2, none⟩ = some (.slice o.children.A 0 o.children.c) := (O.cell 2).trans (by show some (Value.slice o.children.A o.children.n o.children.c) = _; rw [h2])
                  have H2 := hide h2
                  clear h2
                  have k3 : w1.cell? ⟨W.heap.size, 3, none⟩ = some (.slice o.code.A 0 o.code.c) := (O.cell 3).trans (by show some (Value.slice o.code.A o.code.n o.code.c) = _; rw [h3])
                  have H3 := hide h3
                  clear h3
                  have k4 : w1.cell? ⟨W.heap.size, 4, none⟩ = some (.slice o.strs.A 0 o.strs.c) := (O.cell 4).trans (by show some (Value.slice o.strs.A o.strs.n o.strs.c) = _; rw [h4])
                  have H4 := hide h4
                  clear h4
                  have k5 : w1.cell? ⟨W.heap.size, 5, none⟩ = some (.int .i64 0) := (O.cell 5).trans (by show some (Value.int .i64 o.ppages) = _; rw [h5])
                  have H5 := hide h5
                  clear h5
                  have H6 := hide h6
                  clear h6
                  have k7 : w1.cell? ⟨W.heap.size, 15, none⟩ = some (.slice o.pages.A o.pages.n o.pages.c) := (O.cell 15).trans (by show some (Value.slice o.pages.A o.pages.n o.pages.c) = _; rfl)
                  have b7 : (((o.pages.n : Nat) : Int) == 0) = false := by simp; omega
                  have e7 : ¬ ((o.pages.n : Nat) : Int) = 0 := by omega
                  have H7 := hide h7
                  clear h7
                  go_enter Tryd.func75, Tryd.ntmps75
                  go_wp2_with (first | (refine wpList_val (by rfl) (exec_load_pcpu rfl rfl O) ?_) | (refine wpList_val (by rfl) (exec_build rfl (vs := []) rfl built_nocpu) ?_) | (refine wpList_val (by rfl) (exec_eql_cpu rfl rfl rfl (x := o.cpu) (y := Ob.noCpu) rfl rfl) ?_; rw [show decide (o.cpu = Ob.noCpu) = true from decide_eq_true H6.out]) | fail)
                  go_ret
                  exact ⟨ret_bool (decide_eq_false (fun hh : o.NoProc => H7.out (hh.2.2.2.2.2.1))).symm, HB.out⟩
              · have k0 : w1.cell? ⟨W.heap.size, 0, none⟩ = some (.int .i64 0) := (O.cell 0).trans (by show some (Value.int .i64 o.state) = _; rw [h0])
                have H0 := hide h0
                clear h0
                have k1 : w1.cell? ⟨W.heap.size, 1, none⟩ = some (.int .u64 0) := (O.cell 1).trans (by show some (Value.int .u64 o.parent) = _; rw [h1])
                have H1 := hide h1
                clear h1
                have k2 : w1.cell? ⟨W.heap.size, 2, none⟩ = some (.slice o.children.A 0 o.children.c) := (O.cell 2).trans (by show some (Value.slice o.children.A o.children.n o.children.c) = _; rw [h2])
                have H2 := hide h2
                clear h2
                have k3 : w1.cell? ⟨W.heap.size, 3, none⟩ = some (.slice o.code.A 0 o.code.c) := (O.cell 3).trans (by show some (Value.slice o.code.A o.code.n o.code.c) = _; rw [h3])
                have H3 := hide h3
                clear h3
                have k4 : w1.cell? ⟨W.heap.size, 4, none⟩ = some (.slice o.strs.A 0 o.strs.c) := (O.cell 4).trans (by show some (Value.slice o.strs.A o.strs.n o.strs.c) = _; rw [h4])
                have H4 := hide h4
                clear h4
                have k5 : w1.cell? ⟨W.heap.size, 5, none⟩ = some (.int .i64 0) := (O.cell 5).trans (by show some (Value.int .i64 o.ppages) = _; rw [h5])
                have H5 := hide h5
                clear h5
                have H6 := hide h6
                clear h6
                go_enter Tryd.func75, Tryd.ntmps75
                go_wp2_with (first | (refine wpList_val (by rfl) (exec_load_pcpu rfl rfl O) ?_) | (refine wpList_val (by rfl) (exec_build rfl (vs := []) rfl built_nocpu) ?_) | (refine wpList_val (by rfl) (exec_eql_cpu rfl rfl rfl (x := o.cpu) (y := Ob.noCpu) rfl rfl) ?_; rw [show decide (o.cpu = Ob.noCpu) = false from decide_eq_false H6.out]) | fail)
                go_ret
                exact ⟨ret_bool (decide_eq_false (fun hh : o.NoProc => H6.out (hh.2.2.2.2.1))).symm, HB.out⟩
            · have k0 : w1.cell? ⟨W.heap.size, 0, none⟩ = some (.int .i64 0) := (O.cell 0).trans (by show some (Value.int .i64 o.state) = _; rw [h0])
              have H0 := hide h0
              clear h0
              have k1 : w1.cell? ⟨W.heap.size, 1, none⟩ = some (.int .u64 0) := (O.cell 1).trans (by show some (Value.int .u64 o.parent) = _; rw [h1])
              have H1 := hide h1
              clear h1
              have k2 : w1.cell? ⟨W.heap.size, 2, none⟩ = some (.slice o.children.A 0 o.children.c) := (O.cell 2).trans (by show some (Value.slice o.children.A o.children.n o.children.c) = _; rw [h2])
              have H2 := hide h2
              clear h2
              have k3 : w1.cell? ⟨W.heap.size, 3, none⟩ = some (.slice o.code.A 0 o.code.c) := (O.cell 3).trans (by show some (Value.slice o.code.A o.code.n o.code.c) = _; rw [h3])
              have H3 := hide h3
              clear h3
              have k4 : w1.cell? ⟨W.heap.size, 4, none⟩ = some (.slice o.strs.A 0 o.strs.c) := (O.cell 4).trans (by show some (Value.slice o.strs.A o.strs.n o.strs.c) = _; rw [h4])
              have H4 := hide h4
              clear h4
              have k5 : w1.cell? ⟨W.heap.size, 5, none⟩ = some (.int .i64 o.ppages) := (O.cell 5).trans (by show some (Value.int .i64 o.ppages) = _; rfl)
              have c5 : (o.ppages != 0) = true := by simpa using h5
              have b5 : (o.ppages == 0) = false := by simpa using h5
              have H5 := hide h5
              clear h5
              go_enter Tryd.func75, Tryd.ntmps75
              go_wp2_with (first | fail)
              go_ret
              exact ⟨ret_bool (decide_eq_false (fun hh : o.NoProc => H5.out (hh.2.2.2.1.2.2))).symm, HB.out⟩
          · have k0 : w1.cell? ⟨W.heap.size, 0, none⟩ = some (.int .i64 0) := (O.cell 0).trans (by show some (Value.int .i64 o.state) = _; rw [h0])
            have H0 := hide h0
            clear h0
            have k1 : w1.cell? ⟨W.heap.size, 1, none⟩ = some (.int .u64 0) := (O.cell 1).trans (by show some (Value.int .u64 o.parent) = _; rw [h1])
            have H1 := hide h1
            clear h1
            have k2 : w1.cell? ⟨W.heap.size, 2, none⟩ = some (.slice o.children.A 0 o.children.c) := (O.cell 2).trans (by show some (Value.slice o.children.A o.children.n o.children.c) = _; rw [h2])
            have H2 := hide h2
            clear h2
            have k3 : w1.cell? ⟨W.heap.size, 3, none⟩ = some (.slice o.code.A 0 o.code.c) := (O.cell 3).trans (by show some (Value.slice o.code.A o.code.n o.code.c) = _; rw [h3])
            have H3 := hide h3
            clear h3
            have k4 : w1.cell? ⟨W.heap.size, 4, none⟩ = some (.slice o.strs.A o.strs.n o.strs.c) := (O.cell 4).trans (by show some (Value.slice o.strs.A o.strs.n o.strs.c) = _; rfl)
            have b4 : (((o.strs.n : Nat) : Int) == 0) = false := by simp; omega
            have e4 : ¬ ((o.strs.n : Nat) : Int) = 0 := by omega
            have H4 := hide h4
            clear h4
            go_enter Tryd.func75, Tryd.ntmps75
            go_wp2_with (first | fail)
            go_ret
            exact ⟨ret_bool (decide_eq_false (fun hh : o.NoProc => H4.out (hh.2.2.2.1.2.1))).symm, HB.out⟩
        · have k0 : w1.cell? ⟨W.heap.size, 0, none⟩ = some (.int .i64 0) := (O.cell 0).trans (by show some (Value.int .i64 o.state) = _; rw [h0])
          have H0 := hide h0
          clear h0
          have k1 : w1.cell? ⟨W.heap.size, 1, none⟩ = some (.int .u64 0) := (O.cell 1).trans (by show some (Value.int .u64 o.parent) = _; rw [h1])
          have H1 := hide h1
          clear h1
          have k2 : w1.cell? ⟨W.heap.size, 2, none⟩ = some (.slice o.children.A 0 o.children.c) := (O.cell 2).trans (by show some (Value.slice o.children.A o.children.n o.children.c) = _; rw [h2])
          have H2 := hide h2
          clear h2
          have k3 : w1.cell? ⟨W.heap.size, 3, none⟩ = some (.slice o.code.A o.code.n o.code.c) := (O.cell 3).trans (by show some (Value.slice o.code.A o.code.n o.code.c) = _; rfl)
          have b3 : (((o.code.n : Nat) : Int) == 0) = false := by simp; omega
          have e3 : ¬ ((o.code.n : Nat) : Int) = 0 := by omega
          have H3 := hide h3
          clear h3
          go_enter Tryd.func75, Tryd.ntmps75
          go_wp2_with (first | fail)
          go_ret
          exact ⟨ret_bool (decide_eq_false (fun hh : o.NoProc => H3.out (hh.2.2.2.1.1))).symm, HB.out⟩
      · have k0 : w1.cell? ⟨W.heap.size, 0, none⟩ = some (.int .i64 0) := (O.cell 0).trans (by show some (Value.int .i64 o.state) = _; rw [h0])
        have H0 := hide h0
        clear h0
        have k1 : w1.cell? ⟨W.heap.size, 1, none⟩ = some (.int .u64 0) := (O.cell 1).trans (by show some (Value.int .u64 o.parent) = _; rw [h1])
        have H1 := hide h1
        clear h1
        have k2 : w1.cell? ⟨W.heap.size, 2, none⟩ = some (.slice o.children.A o.children.n o.children.c) := (O.cell 2).trans (by show some (Value.slice o.children.A o.children.n o.children.c) = _; rfl)
        have b2 : (((o.children.n : Nat) : Int) == 0) = false := by simp; omega
        have e2 : ¬ ((o.children.n : Nat) : Int) = 0 := by omega
        have H2 := hide h2
        clear h2
        go_enter Tryd.func75, Tryd.ntmps75
        go_wp2_with (first | fail)
        go_ret
        exact ⟨ret_bool (decide_eq_false (fun hh : o.NoProc => H2.out (hh.2.2.1))).symm, HB.out⟩
    · have k0 : w1.cell? ⟨W.heap.size, 0, none⟩ = some (.int .i64 0) := (O.cell 0).trans (by show some (Value.int .i64 o.state) = _; rw [h0])
      have H0 := hide h0
      clear h0
      have k1 : w1.cell? ⟨W.heap.size, 1, none⟩ = some (.int .u64 o.parent) := (O.cell 1).trans (by show some (Value.int .u64 o.parent) = _; rfl)
      have c1 : (o.parent != 0) = true := by simpa using h1
      have b1 : (o.parent == 0) = false := by simpa using h1
      have H1 := hide h1
      clear h1
      go_enter Tryd.func75, Tryd.ntmps75
      go_wp2_with (first | fail)
      go_ret
      exact ⟨ret_bool (decide_eq_false (fun hh : o.NoProc => H1.out (hh.2.1))).symm, HB.out⟩
  · have k0 : w1.cell? ⟨W.heap.size, 0, none⟩ = some (.int .i64 o.state) := (O.cell 0).trans (by show some (Value.int .i64 o.state) = _; rfl)
    have c0 : (o.state != 0) = true := by simpa using h0
    have b0 : (o.state == 0) = false := by simpa using h0
    have H0 := hide h0
    clear h0
    go_enter Tryd.func75, Tryd.ntmps75
    go_wp2_with (first | fail)
    go_ret
    exact ⟨ret_bool (decide_eq_false (fun hh : o.NoProc => H0.out (hh.1))).symm, HB.out⟩
end Go.Proofs.YtejhnfeligifgaaDoor
