/- Layer 8: package file's ValidOpen (written by tools/mkflops.py). | Layer 8, what the laws share: files laid in blocks, the sanity check. -/
import Derived.Test.YtcgiobffobonpaaFlValid
import Derived.Test.YtcgiobffobonpaaFlMath
import Derived.Test.YtcgiobffobonpaaFlOps
namespace Go.Proofs.Ytcgiobffobonpaa
open Go.RowKit

set_option maxRecDepth 100000 in
set_option maxHeartbeats 4000000 in
theorem flValidOpen_any (o : Ob) (W : World) : Calls Try.prog 19 #[.agg (oc o)] W (BoolPost (decide o.Desc) W) := by
  obtain ⟨w1, hw, O, hb⟩ : ∃ w1, W.alloc (.cells (oc o) 41) = w1 ∧ Obl w1 W.heap.size 41 (oc o) ∧ Below W.heap.size W w1 := ⟨_, rfl, Obl.make W _ _, (Below.refl _ _).alloc (Nat.le_refl _) _⟩
  obtain ⟨w2, hw2, m, hm, w3, hw3, OZ, R, hb3, hs3⟩ := laid_ob o w1
  have hWm : W.heap.size < m := by have := O.lt; omega
  have O3 := O.below hb3 O.lt
  have z2 := R.free 2
  have y2 : w3.cell? ⟨m, 2, none⟩ = some (.int .i64 o.refs) := R.cell 2
  have R4 := R.put 2 (.int .i64 0)
  have O4 := O3.put_other (b' := m) (by omega) 2 (.int .i64 0)
  obtain ⟨w4, hw4⟩ : ∃ w4, w3.setCell ⟨m, 2, none⟩ (.int .i64 0) = w4 := ⟨_, rfl⟩
  rw [hw4] at R4 O4
  have z25 := R4.free 25
  have y25 : w4.cell? ⟨m, 25, none⟩ = some (.int .i64 o.offset) := R4.cell 25
  have R5 := R4.put 25 (.int .i64 0)
  have O5 := O4.put_other (b' := m) (by omega) 25 (.int .i64 0)
  obtain ⟨w5, hw5⟩ : ∃ w5, w4.setCell ⟨m, 25, none⟩ (.int .i64 0) = w5 := ⟨_, rfl⟩
  rw [hw5] at R5 O5
  have z26 := R5.free 26
  have y26 : w5.cell? ⟨m, 26, none⟩ = some (.int .u64 o.target) := R5.cell 26
  have R6 := R5.put 26 (.int .u64 0)
  have O6 := O5.put_other (b' := m) (by omega) 26 (.int .u64 0)
  rw [oc_undesc] at R6
  have hmW : W.heap.size ≤ m := by omega
  have HB := hide ((((hb.trans (hb3.mono (by omega))).setCell (p := ⟨m, 2, none⟩) hmW (.int .i64 0)).setCell (p := ⟨m, 25, none⟩) hmW (.int .i64 0)).setCell (p := ⟨m, 26, none⟩) hmW (.int .u64 0))
  rw [hw4, hw5] at HB
  obtain ⟨w6, hw6⟩ : ∃ w6, w5.setCell ⟨m, 26, none⟩ (.int .u64 0) = w6 := ⟨_, rfl⟩
  rw [hw6] at R6 O6 HB
  have k1 : w6.cell? ⟨W.heap.size, 1, none⟩ = some (.int .i64 o.kind) := O6.cell 1
  have k0 : w6.cell? ⟨W.heap.size, 0, none⟩ = some (.int .u64 o.id) := O6.cell 0
  have k26 : w6.cell? ⟨W.heap.size, 26, none⟩ = some (.int .u64 o.target) := O6.cell 26
  have k2 : w6.cell? ⟨W.heap.size, 2, none⟩ = some (.int .i64 o.refs) := O6.cell 2
  have k25 : w6.cell? ⟨W.heap.size, 25, none⟩ = some (.int .i64 o.offset) := O6.cell 25
  clear hb hb3 O3 O4 O5 R4 R5
  by_cases h0 : o.kind = 4
  · have H0 := hide h0
    rw [h0] at k1
    clear h0
    by_cases h1 : ¬ o.id = 0
    · have H1 := hide h1
      have b1 : (o.id == 0) = false := by simpa using h1
      have c1 : (o.id != 0) = true := by simpa using h1
      clear h1
      by_cases h2 : ¬ o.target = 0
      · have H2 := hide h2
        have b2 : (o.target == 0) = false := by simpa using h2
        have c2 : (o.target != 0) = true := by simpa using h2
        clear h2
        by_cases h3 : 1 ≤ o.refs
        · have H3 := hide h3
          by_cases h4 : 0 ≤ o.offset
          · have H4 := hide h4
            by_cases h5 : o.offset ≤ 1073741824
            · have H5 := hide h5
              by_cases h6 : o.undesc.Clear
              · have H6 := hide h6
                clear h6
                go_enter Try.func19, Try.ntmps19
                try dsimp only [List.append]
                go_wp2_with (first | (refine load_ob rfl _ rfl rfl O ?_) | (refine store_ob rfl _ _ rfl rfl (c := o) rfl OZ rfl ?_; rw [hw3]) | (refine wpList_val (by rfl) (exec_load_ob rfl rfl R6) ?_) | (go_at_call 42; refine (flBare_any o.undesc _).mono ?_; rintro e u3 ⟨rfl, g3⟩; rw [show decide (o.undesc.Clear) = true from decide_eq_true H6.out]) | fail)
                go_ret
                exact ⟨ret_bool (decide_eq_true (show o.Desc from ⟨H0.out, H1.out, H2.out, H3.out, H4.out, H5.out, H6.out⟩)).symm, HB.out.trans (g3.mono HB.out.size)⟩
              · have H6 := hide h6
                clear h6
                go_enter Try.func19, Try.ntmps19
                try dsimp only [List.append]
                go_wp2_with (first | (refine load_ob rfl _ rfl rfl O ?_) | (refine store_ob rfl _ _ rfl rfl (c := o) rfl OZ rfl ?_; rw [hw3]) | (refine wpList_val (by rfl) (exec_load_ob rfl rfl R6) ?_) | (go_at_call 42; refine (flBare_any o.undesc _).mono ?_; rintro e u3 ⟨rfl, g3⟩; rw [show decide (o.undesc.Clear) = false from decide_eq_false H6.out]) | fail)
                go_ret
                exact ⟨ret_bool (decide_eq_false (fun hh : o.Desc => H6.out (hh.2.2.2.2.2.2))).symm, HB.out.trans (g3.mono HB.out.size)⟩
            · have H5 := hide h5
              go_enter Try.func19, Try.ntmps19
              try dsimp only [List.append]
              go_wp2_with (first | (refine load_ob rfl _ rfl rfl O ?_) | (refine store_ob rfl _ _ rfl rfl (c := o) rfl OZ rfl ?_; rw [hw3]) | fail)
              go_ret
              exact ⟨ret_bool (decide_eq_false (fun hh : o.Desc => absurd (hh.2.2.2.2.2.1) (by have := H5.out; omega))).symm, HB.out⟩
          · have H4 := hide h4
            go_enter Try.func19, Try.ntmps19
            try dsimp only [List.append]
            go_wp2_with (first | (refine load_ob rfl _ rfl rfl O ?_) | (refine store_ob rfl _ _ rfl rfl (c := o) rfl OZ rfl ?_; rw [hw3]) | fail)
            go_ret
            exact ⟨ret_bool (decide_eq_false (fun hh : o.Desc => absurd (hh.2.2.2.2.1) (by have := H4.out; omega))).symm, HB.out⟩
        · have H3 := hide h3
          go_enter Try.func19, Try.ntmps19
          try dsimp only [List.append]
          go_wp2_with (first | (refine load_ob rfl _ rfl rfl O ?_) | (refine store_ob rfl _ _ rfl rfl (c := o) rfl OZ rfl ?_; rw [hw3]) | fail)
          go_ret
          exact ⟨ret_bool (decide_eq_false (fun hh : o.Desc => absurd (hh.2.2.2.1) (by have := H3.out; omega))).symm, HB.out⟩
      · replace h2 := Decidable.not_not.1 h2
        have H2 := hide h2
        rw [h2] at k26
        clear h2
        go_enter Try.func19, Try.ntmps19
        try dsimp only [List.append]
        go_wp2_with (first | (refine load_ob rfl _ rfl rfl O ?_) | (refine store_ob rfl _ _ rfl rfl (c := o) rfl OZ rfl ?_; rw [hw3]) | fail)
        go_ret
        exact ⟨ret_bool (decide_eq_false (fun hh : o.Desc => hh.2.2.1 H2.out)).symm, HB.out⟩
    · replace h1 := Decidable.not_not.1 h1
      have H1 := hide h1
      rw [h1] at k0
      clear h1
      go_enter Try.func19, Try.ntmps19
      try dsimp only [List.append]
      go_wp2_with (first | (refine load_ob rfl _ rfl rfl O ?_) | (refine store_ob rfl _ _ rfl rfl (c := o) rfl OZ rfl ?_; rw [hw3]) | fail)
      go_ret
      exact ⟨ret_bool (decide_eq_false (fun hh : o.Desc => hh.2.1 H1.out)).symm, HB.out⟩
  · have H0 := hide h0
    have b0 : (o.kind == 4) = false := by simpa using h0
    have c0 : (o.kind != 4) = true := by simpa using h0
    clear h0
    go_enter Try.func19, Try.ntmps19
    try dsimp only [List.append]
    go_wp2_with (first | (refine load_ob rfl _ rfl rfl O ?_) | (refine store_ob rfl _ _ rfl rfl (c := o) rfl OZ rfl ?_; rw [hw3]) | fail)
    go_ret
    exact ⟨ret_bool (decide_eq_false (fun hh : o.Desc => H0.out (hh.1))).symm, HB.out⟩
end Go.Proofs.Ytcgiobffobonpaa
namespace Go.Proofs.Ytcgiobffobonpaa
open Go.RowKit

/-- Block m is the file id, whose bytes are D. -/
structure FlAt (w : World) (m : Nat) (id : Int) (A : Option Addr) (n c : Nat) (D : List UInt8) : Prop where
  ob : Obl w m 41 (oc (Ob.file id ⟨A, n, c⟩))
  data : Bytes w w.heap.size A n D
theorem FlAt.below {w w' : World} {m : Nat} {id : Int} {A : Option Addr} {n c : Nat} {D : List UInt8} (h : FlAt w m id A n c D) (hb : Below w.heap.size w w') : FlAt w' m id A n c D := ⟨h.ob.below hb h.ob.lt, (h.data.below hb).mono hb.size⟩
theorem Fl.getD_put (D : List UInt8) (n k : Nat) (c : UInt8) : (Fl.put D n c).getD k 0 = if k = n then c else D.getD k 0 := by
  rw [List.getD_eq_getElem?_getD, List.getD_eq_getElem?_getD]
  split
  · rename_i h; subst h; rw [Fl.put_same]; rfl
  · rename_i h
    rw [Fl.put_other c h]
    split
    · rfl
    · rename_i hk
      rw [List.getElem?_eq_none (by omega : D.length ≤ k)]
      split <;> rfl
theorem file_read {id : Int} {s : Sl} (hid : id ≠ 0) (hs : s.n ≤ 4096) (D : List UInt8) (k : Nat) : (Ob.file id s).fcheck (k : Int) = 0 ∧ (Ob.file id s).fthere D (k : Int) = decide (k < D.length) ∧ (Ob.file id s).fbyte D (k : Int) = ((D.getD k 0).toNat : Int) := by
  have h := Ob.fcheck_ok (file_file hid hs) (n := (k : Int)) (by omega)
  refine ⟨h, ?_, ?_⟩
  · unfold Ob.fthere; rw [h]; simp
  · unfold Ob.fbyte
    split
    · rw [Int.toNat_natCast]
    · rename_i hk
      rw [List.getD_eq_getElem?_getD, List.getElem?_eq_none (by rw [h] at hk; omega)]
      rfl
theorem file_write {id : Int} {s : Sl} (hid : id ≠ 0) (hs : s.n ≤ 4096) {k : Nat} (hk : k < 4096) : (Ob.file id s).fwrite (k : Int) = 0 := Ob.fwrite_ok (Ob.fcheck_ok (file_file hid hs) (by omega)) (by omega)

set_option maxRecDepth 100000 in
set_option maxHeartbeats 4000000 in
theorem flSane_any (W : World) : Calls Try.prog 6 #[] W (BoolPost true W) := by
  go_enter Try.func6, Try.ntmps6
  try dsimp only [List.append]
  go_wp2_with fail
  refine (flNew_any 3 _).mono ?_
  rintro e w1 ⟨rfl, hb1⟩
  have HB1 := hide hb1
  clear hb1
  go_wp2_with fail
  refine (flWrite_ok (Ob.file 3 ⟨none, 0, 0⟩) [] 2 7 _ (file_write (by decide) (by decide) (by decide)) Bytes.nil).mono ?_
  rintro e w2 ⟨A, n, c, rfl, hown, hb2⟩
  have hD := Bytes.of_own hown
  clear hown
  rw [show Fl.put [] 2 7 = [0, 0, 7] from rfl] at hD
  obtain rfl : n = 3 := hD.len.symm
  obtain ⟨w3, hw3, m, hm, w4, hw4, OZ, OM, hb4, hs4⟩ := laid_ob (Ob.file 3 ⟨A, 3, c⟩) w2
  have P : FlAt w4 m 3 A 3 c [0, 0, 7] := ⟨OM, (hD.below hb4).mono hb4.size⟩
  have HB4 := hide (HB1.out.trans ((hb2.trans (hb4.mono hb2.size)).mono HB1.out.size))
  clear hb2 hb4 HB1 OM hD
  go_wp2_with (first | (refine store_ob rfl _ _ rfl rfl (c := Ob.file 3 ⟨A, 3, c⟩) rfl OZ rfl ?_; rw [hw4]) | (refine load_ob rfl _ rfl rfl P.ob ?_) | fail)
  refine (flRead_any (Ob.file 3 ⟨A, 3, c⟩) [0, 0, 7] 2 _ P.data).mono ?_
  rintro e w5 ⟨rfl, hb5⟩
  obtain ⟨r1, r2, r3⟩ := file_read (id := 3) (s := ⟨A, 3, c⟩) (by decide) (show 3 ≤ 4096 by omega) [0, 0, 7] 2
  rw [show ((2 : Nat) : Int) = 2 from rfl] at r1 r2 r3
  rw [r1, r2, r3]
  replace P := P.below hb5
  have HB5 := hide (HB4.out.trans (hb5.mono HB4.out.size))
  clear hb5 HB4 OZ hw4 hw3 hm hs4 r1 r2 r3
  go_wp2_with (first | (refine load_ob rfl _ rfl rfl P.ob ?_) | fail)
  refine (flRead_any (Ob.file 3 ⟨A, 3, c⟩) [0, 0, 7] 3 _ P.data).mono ?_
  rintro e w6 ⟨rfl, hb6⟩
  obtain ⟨r1, r2, r3⟩ := file_read (id := 3) (s := ⟨A, 3, c⟩) (by decide) (show 3 ≤ 4096 by omega) [0, 0, 7] 3
  rw [show ((3 : Nat) : Int) = 3 from rfl] at r1 r2 r3
  rw [r1, r2, r3]
  replace P := P.below hb6
  have HB6 := hide (HB5.out.trans (hb6.mono HB5.out.size))
  clear hb6 HB5 r1 r2 r3
  obtain ⟨b, f, hl, rfl, hlt, c0⟩ := P.data.at_ (k := 0) (by omega)
  have k24 : w6.cell? ⟨m, 24, none⟩ = some (.slice (some ⟨b, f, none⟩) 3 c) := P.ob.cell 24
  have c0' : w6.cell? ⟨b, f + 0, none⟩ = some (.int .u8 0) := c0
  rw [Nat.add_zero] at c0'
  have OM := P.ob
  clear c0 P
  go_wp2_with (first | (refine wpList_val (by rfl) (exec_load_ob rfl rfl OM) ?_) | (go_at_call 17; refine (flValid_any _ _).mono ?_; rintro e w7 ⟨rfl, hb7⟩; rw [decide_eq_true (file_file (id := 3) (s := ⟨some ⟨b, f, none⟩, 3, c⟩) (by decide) (show 3 ≤ 4096 by omega))]) | (go_at_call 23; refine (flOpened_any 4 3 _).mono ?_; rintro e w8 ⟨rfl, hb8⟩) | (go_at_call 19; refine (flValidOpen_any _ _).mono ?_; rintro e w9 ⟨rfl, hb9⟩; rw [show decide (Ob.desc 4 3).Desc = true from rfl]) | fail)
  go_ret
  exact ⟨rfl, HB6.out.trans ((hb7.trans ((hb8.trans (hb9.mono hb8.size)).mono hb7.size)).mono HB6.out.size)⟩
end Go.Proofs.Ytcgiobffobonpaa
