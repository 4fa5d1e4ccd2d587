/- The reference of files: Valid, ValidOpen (written by tools/mkflops.py). | The reference of files: Read, Write: contracts. -/
import Derived.Test.YtcgiobffobonpaaPgBare
import Derived.Test.YtcgiobffobonpaaFlMath
import Derived.Test.YtcgiobffobonpaaFlOps
namespace Go.Proofs.Ytcgiobffobonpaa
open Go.RowKit

set_option maxRecDepth 100000 in
set_option maxHeartbeats 4000000 in
theorem refFlValid_any (o : Ob) (W : World) : Calls Try.prog 18 #[.agg (oc o)] W (BoolPost (decide o.File) W) := by
  obtain ⟨w1, hw, O, hb⟩ : ∃ w1, W.alloc (.cells (oc o) 41) = w1 ∧ Obl w1 W.heap.size 41 (oc o) ∧ Below W.heap.size W w1 := ⟨_, rfl, Obl.make W _ _, (Below.refl _ _).alloc (Nat.le_refl _) _⟩
  have z24 := O.free 24
  have y24 : w1.cell? ⟨W.heap.size, 24, none⟩ = some (.slice o.data.A o.data.n o.data.c) := O.cell 24
  have R := O.put 24 (.slice none 0 0)
  rw [oc_dataless] at R
  have HB := hide (hb.setCell (p := ⟨W.heap.size, 24, none⟩) (Nat.le_refl _) (.slice none 0 0))
  obtain ⟨w2, hw2⟩ : ∃ w2, w1.setCell ⟨W.heap.size, 24, none⟩ (.slice none 0 0) = w2 := ⟨_, rfl⟩
  rw [hw2] at R HB
  have k1 : w2.cell? ⟨W.heap.size, 1, none⟩ = some (.int .i64 o.kind) := R.cell 1
  have k0 : w2.cell? ⟨W.heap.size, 0, none⟩ = some (.int .u64 o.id) := R.cell 0
  clear hb
  by_cases h0 : o.kind = 3
  · have H0 := hide h0
    rw [h0] at k1
    clear h0
    by_cases h1 : ¬ o.id = 0
    · have H1 := hide h1
      have b1 : (o.id == 0) = false := by simpa using h1
      have c1 : (o.id != 0) = true := by simpa using h1
      clear h1
      by_cases h2 : o.data.n ≤ 4096
      · have H2 := hide h2
        have i2 : (o.data.n : Int) ≤ 4096 := by omega
        clear h2
        by_cases h3 : o.dataless.Clear
        · have H3 := hide h3
          clear h3
          go_enter Try.func18, Try.ntmps18
          try dsimp only [List.append]
          go_wp2_with (first | (refine wpList_val (by rfl) (exec_load_ob rfl rfl R) ?_) | (go_at_call 43; refine (bare_any o.dataless _).mono ?_; rintro e u3 ⟨rfl, g3⟩; rw [show decide (o.dataless.Clear) = true from decide_eq_true H3.out]) | fail)
          go_ret
          exact ⟨ret_bool (decide_eq_true (show o.File from ⟨H0.out, H1.out, H2.out, H3.out⟩)).symm, HB.out.trans (g3.mono HB.out.size)⟩
        · have H3 := hide h3
          clear h3
          go_enter Try.func18, Try.ntmps18
          try dsimp only [List.append]
          go_wp2_with (first | (refine wpList_val (by rfl) (exec_load_ob rfl rfl R) ?_) | (go_at_call 43; refine (bare_any o.dataless _).mono ?_; rintro e u3 ⟨rfl, g3⟩; rw [show decide (o.dataless.Clear) = false from decide_eq_false H3.out]) | fail)
          go_ret
          exact ⟨ret_bool (decide_eq_false (fun hh : o.File => H3.out (hh.2.2.2))).symm, HB.out.trans (g3.mono HB.out.size)⟩
      · have H2 := hide h2
        have i2 : ¬ (o.data.n : Int) ≤ 4096 := by omega
        clear h2
        go_enter Try.func18, Try.ntmps18
        try dsimp only [List.append]
        go_wp2_with (first | fail)
        go_ret
        exact ⟨ret_bool (decide_eq_false (fun hh : o.File => absurd (hh.2.2.1) (by have := H2.out; omega))).symm, HB.out⟩
    · replace h1 := Decidable.not_not.1 h1
      have H1 := hide h1
      rw [h1] at k0
      clear h1
      go_enter Try.func18, Try.ntmps18
      try dsimp only [List.append]
      go_wp2_with (first | fail)
      go_ret
      exact ⟨ret_bool (decide_eq_false (fun hh : o.File => hh.2.1 H1.out)).symm, HB.out⟩
  · have H0 := hide h0
    have b0 : (o.kind == 3) = false := by simpa using h0
    have c0 : (o.kind != 3) = true := by simpa using h0
    clear h0
    go_enter Try.func18, Try.ntmps18
    try dsimp only [List.append]
    go_wp2_with (first | fail)
    go_ret
    exact ⟨ret_bool (decide_eq_false (fun hh : o.File => H0.out (hh.1))).symm, HB.out⟩
set_option maxRecDepth 100000 in
set_option maxHeartbeats 4000000 in
theorem refFlValidOpen_any (o : Ob) (W : World) : Calls Try.prog 20 #[.agg (oc o)] W (BoolPost (decide o.Desc) W) := by
  obtain ⟨w1, hw, O, hb⟩ : ∃ w1, W.alloc (.cells (oc o) 41) = w1 ∧ Obl w1 W.heap.size 41 (oc o) ∧ Below W.heap.size W w1 := ⟨_, rfl, Obl.make W _ _, (Below.refl _ _).alloc (Nat.le_refl _) _⟩
  have k1 : w1.cell? ⟨W.heap.size, 1, none⟩ = some (.int .i64 o.kind) := O.cell 1
  have k0 : w1.cell? ⟨W.heap.size, 0, none⟩ = some (.int .u64 o.id) := O.cell 0
  have k26 : w1.cell? ⟨W.heap.size, 26, none⟩ = some (.int .u64 o.target) := O.cell 26
  have k2 : w1.cell? ⟨W.heap.size, 2, none⟩ = some (.int .i64 o.refs) := O.cell 2
  have k25 : w1.cell? ⟨W.heap.size, 25, none⟩ = some (.int .i64 o.offset) := O.cell 25
  have z2 := O.free 2
  have R4 := O.put 2 (.int .i64 0)
  obtain ⟨w4, hw4⟩ : ∃ w4, w1.setCell ⟨W.heap.size, 2, none⟩ (.int .i64 0) = w4 := ⟨_, rfl⟩
  rw [hw4] at R4
  have z26 := R4.free 26
  have y26 : w4.cell? ⟨W.heap.size, 26, none⟩ = some (.int .u64 o.target) := R4.cell 26
  have R5 := R4.put 26 (.int .u64 0)
  obtain ⟨w5, hw5⟩ : ∃ w5, w4.setCell ⟨W.heap.size, 26, none⟩ (.int .u64 0) = w5 := ⟨_, rfl⟩
  rw [hw5] at R5
  have z25 := R5.free 25
  have y25 : w5.cell? ⟨W.heap.size, 25, none⟩ = some (.int .i64 o.offset) := R5.cell 25
  have R6 : Obl (w5.setCell ⟨W.heap.size, 25, none⟩ (.int .i64 0)) W.heap.size 41 (oc o.undesc) := R5.put 25 (.int .i64 0)
  have HB := hide (((hb.setCell (p := ⟨W.heap.size, 2, none⟩) (Nat.le_refl _) (.int .i64 0)).setCell (p := ⟨W.heap.size, 26, none⟩) (Nat.le_refl _) (.int .u64 0)).setCell (p := ⟨W.heap.size, 25, none⟩) (Nat.le_refl _) (.int .i64 0))
  rw [hw4, hw5] at HB
  obtain ⟨w6, hw6⟩ : ∃ w6, w5.setCell ⟨W.heap.size, 25, none⟩ (.int .i64 0) = w6 := ⟨_, rfl⟩
  rw [hw6] at R6 HB
  clear hb R4 R5
  by_cases h0 : o.kind = 4
  · have H0 := hide h0
    rw [h0] at k1
    clear h0
    by_cases h1 : ¬ o.id = 0
    · have H1 := hide h1
      have b1 : (o.id == 0) = false := by simpa using h1
      have c1 : (o.id != 0) = true := by simpa using h1
      clear h1
      by_cases h2 : ¬ o.target = 0
      · have H2 := hide h2
        have b2 : (o.target == 0) = false := by simpa using h2
        have c2 : (o.target != 0) = true := by simpa using h2
        clear h2
        by_cases h3 : 1 ≤ o.refs
        · have H3 := hide h3
          by_cases h4 : 0 ≤ o.offset
          · have H4 := hide h4
            by_cases h5 : o.offset ≤ 1073741824
            · have H5 := hide h5
              by_cases h6 : o.undesc.Clear
              · have H6 := hide h6
                clear h6
                go_enter Try.func20, Try.ntmps20
                try dsimp only [List.append]
                go_wp2_with (first | (refine wpList_val (by rfl) (exec_load_ob rfl rfl R6) ?_) | (go_at_call 43; refine (bare_any o.undesc _).mono ?_; rintro e u3 ⟨rfl, g3⟩; rw [show decide (o.undesc.Clear) = true from decide_eq_true H6.out]) | fail)
                go_ret
                exact ⟨ret_bool (decide_eq_true (show o.Desc from ⟨H0.out, H1.out, H2.out, H3.out, H4.out, H5.out, H6.out⟩)).symm, HB.out.trans (g3.mono HB.out.size)⟩
              · have H6 := hide h6
                clear h6
                go_enter Try.func20, Try.ntmps20
                try dsimp only [List.append]
                go_wp2_with (first | (refine wpList_val (by rfl) (exec_load_ob rfl rfl R6) ?_) | (go_at_call 43; refine (bare_any o.undesc _).mono ?_; rintro e u3 ⟨rfl, g3⟩; rw [show decide (o.undesc.Clear) = false from decide_eq_false H6.out]) | fail)
                go_ret
                exact ⟨ret_bool (decide_eq_false (fun hh : o.Desc => H6.out (hh.2.2.2.2.2.2))).symm, HB.out.trans (g3.mono HB.out.size)⟩
            · have H5 := hide h5
              go_enter Try.func20, Try.ntmps20
              try dsimp only [List.append]
              go_wp2_with (first | fail)
              go_ret
              exact ⟨ret_bool (decide_eq_false (fun hh : o.Desc => absurd (hh.2.2.2.2.2.1) (by have := H5.out; omega))).symm, HB.out⟩
          · have H4 := hide h4
            go_enter Try.func20, Try.ntmps20
            try dsimp only [List.append]
            go_wp2_with (first | fail)
            go_ret
            exact ⟨ret_bool (decide_eq_false (fun hh : o.Desc => absurd (hh.2.2.2.2.1) (by have := H4.out; omega))).symm, HB.out⟩
        · have H3 := hide h3
          go_enter Try.func20, Try.ntmps20
          try dsimp only [List.append]
          go_wp2_with (first | fail)
          go_ret
          exact ⟨ret_bool (decide_eq_false (fun hh : o.Desc => absurd (hh.2.2.2.1) (by have := H3.out; omega))).symm, HB.out⟩
      · replace h2 := Decidable.not_not.1 h2
        have H2 := hide h2
        rw [h2] at k26 y26
        clear h2
        go_enter Try.func20, Try.ntmps20
        try dsimp only [List.append]
        go_wp2_with (first | fail)
        go_ret
        exact ⟨ret_bool (decide_eq_false (fun hh : o.Desc => hh.2.2.1 H2.out)).symm, HB.out⟩
    · replace h1 := Decidable.not_not.1 h1
      have H1 := hide h1
      rw [h1] at k0
      clear h1
      go_enter Try.func20, Try.ntmps20
      try dsimp only [List.append]
      go_wp2_with (first | fail)
      go_ret
      exact ⟨ret_bool (decide_eq_false (fun hh : o.Desc => hh.2.1 H1.out)).symm, HB.out⟩
  · have H0 := hide h0
    have b0 : (o.kind == 4) = false := by simpa using h0
    have c0 : (o.kind != 4) = true := by simpa using h0
    clear h0
    go_enter Try.func20, Try.ntmps20
    try dsimp only [List.append]
    go_wp2_with (first | fail)
    go_ret
    exact ⟨ret_bool (decide_eq_false (fun hh : o.Desc => H0.out (hh.1))).symm, HB.out⟩
end Go.Proofs.Ytcgiobffobonpaa
namespace Go.Proofs.Ytcgiobffobonpaa
open Go.RowKit

set_option maxRecDepth 100000 in
set_option maxHeartbeats 4000000 in
theorem refFlRead_any (o : Ob) (D : List UInt8) (n : Int) (W : World) (hD : Bytes W W.heap.size o.data.A o.data.n D) : Calls Try.prog 13 #[.agg (oc o), .int .i64 n] W (ReadPost (o.fbyte D n) (o.fthere D n) (o.fcheck n) W) := by
  obtain ⟨w1, hw, O, hb⟩ : ∃ w1, W.alloc (.cells (oc o) 41) = w1 ∧ Obl w1 W.heap.size 41 (oc o) ∧ Below W.heap.size W w1 := ⟨_, rfl, Obl.make W _ _, (Below.refl _ _).alloc (Nat.le_refl _) _⟩
  have HB := hide hb
  have HD := hide hD
  have hlen := hD.len
  clear hb hD
  go_enter Try.func13, Try.ntmps13
  go_wp2_with (first | (refine load_ob rfl _ rfl rfl O ?_) | fail)
  refine (refFlValid_any o _).mono ?_
  rintro e w2 ⟨rfl, hb2⟩
  have HF := hide (HB.out.trans (hb2.mono HB.out.size))
  have O2 := O.below hb2 O.lt
  have hD2 := HD.out.below HF.out
  clear hb2 HD hw
  by_cases hp : o.File
  · rw [decide_eq_true hp]
    by_cases h0 : 0 ≤ n
    · have hv := Ob.fcheck_ok hp h0
      obtain ⟨k, rfl⟩ := Int.eq_ofNat_of_zero_le h0
      have k24 : w2.cell? ⟨W.heap.size, 24, none⟩ = some (.slice o.data.A o.data.n o.data.c) := O2.cell 24
      have HC := hide hv
      clear h0 hp
      by_cases hk : k < o.data.n
      · have hk' : (k : Int) < (o.data.n : Int) := by omega
        obtain ⟨b, f, hl, hA, hlt, hc⟩ := hD2.at_ hk
        obtain ⟨q1, q2⟩ := Ob.fread_ok hv hl
        have HQ := hide q1
        have HR := hide q2
        rw [hA] at k24
        obtain ⟨v, hvv⟩ : ∃ v, D[k] = v := ⟨_, rfl⟩
        rw [hvv] at hc HR
        clear hvv q1 q2 hA hv hlt
        go_wp2
        go_ret3
        exact ⟨by rw [HC.out, HQ.out, HR.out]; rfl, HF.out⟩
      · have hk' : ¬ (k : Int) < (o.data.n : Int) := by omega
        obtain ⟨q1, q2⟩ := Ob.fread_no (o := o) (D := D) (n := (k : Int)) (fun h => hk (by omega))
        have HQ := hide q1
        have HR := hide q2
        clear q1 q2 hv
        go_wp2
        go_ret3
        exact ⟨by rw [HC.out, HQ.out, HR.out]; rfl, HF.out⟩
    · have hv : o.fcheck n = 2 := by unfold Ob.fcheck; rw [if_pos hp, if_neg h0]
      obtain ⟨q1, q2⟩ := Ob.fread_no (o := o) (D := D) (n := n) (fun h => by rw [hv] at h; exact absurd h.1 (by decide))
      have HQ := hide q1
      have HR := hide q2
      have HC := hide hv
      clear q1 q2 hv hp
      go_wp2
      go_ret3
      exact ⟨by rw [HC.out, HQ.out, HR.out]; rfl, HF.out⟩
  · have hv : o.fcheck n = 1 := by unfold Ob.fcheck; rw [if_neg hp]
    obtain ⟨q1, q2⟩ := Ob.fread_no (o := o) (D := D) (n := n) (fun h => by rw [hv] at h; exact absurd h.1 (by decide))
    have HQ := hide q1
    have HR := hide q2
    have HC := hide hv
    rw [decide_eq_false hp]
    clear q1 q2 hv hp
    go_wp2
    go_ret3
    exact ⟨by rw [HC.out, HQ.out, HR.out]; rfl, HF.out⟩

set_option maxRecDepth 100000 in
set_option maxHeartbeats 4000000 in
theorem refFlWrite_no (o : Ob) (n : Int) (c : UInt8) (W : World) (hc : o.fwrite n ≠ 0) : Calls Try.prog 15 #[.agg (oc o), .int .i64 n, .int .u8 (c.toNat : Int)] W (PageNo (o.fwrite n) W) := by
  obtain ⟨w1, hw, O, OR, hb, hs⟩ := start_oz W o
  have HB := hide hb
  clear hb
  go_enter Try.func15, Try.ntmps15
  go_wp2_with (first | (refine load_ob rfl _ rfl rfl O ?_) | fail)
  refine (refFlValid_any o _).mono ?_
  rintro e w2 ⟨rfl, hb2⟩
  have OR2 := OR.below hb2 OR.lt
  have HF := hide (below_row (HB.out.trans (hb2.mono HB.out.size)) (g := W.heap.size + 1) (by omega) (oc Ob.zero))
  clear hb2 hw
  by_cases hp : o.File
  · rw [decide_eq_true hp]
    by_cases h0 : 0 ≤ n
    · have hv := Ob.fcheck_ok hp h0
      have h1 : ¬ n < 4096 := fun h => hc (Ob.fwrite_ok hv h)
      have HC : Hid (o.fwrite n = 9) := hide (by unfold Ob.fwrite; rw [if_pos hv, if_neg h1])
      clear hc hv hp
      go_wp2_with (first | (refine store_ob rfl _ _ rfl rfl (c := Ob.zero) rfl OR2 rfl ?_) | fail)
      refine bodyPost_ret (ret_ob2 rfl _ rfl (OR2.row_same _)) rfl ?_
      exact ⟨by rw [HC.out]; rfl, HF.out⟩
    · have hv : o.fcheck n = 2 := by unfold Ob.fcheck; rw [if_pos hp, if_neg h0]
      have HC : Hid (o.fwrite n = 2) := hide (by unfold Ob.fwrite; rw [hv]; rfl)
      clear hc hv hp
      go_wp2_with (first | (refine store_ob rfl _ _ rfl rfl (c := Ob.zero) rfl OR2 rfl ?_) | fail)
      refine bodyPost_ret (ret_ob2 rfl _ rfl (OR2.row_same _)) rfl ?_
      exact ⟨by rw [HC.out]; rfl, HF.out⟩
  · have hv : o.fcheck n = 1 := by unfold Ob.fcheck; rw [if_neg hp]
    have HC : Hid (o.fwrite n = 1) := hide (by unfold Ob.fwrite; rw [hv]; rfl)
    rw [decide_eq_false hp]
    clear hc hv hp
    go_wp2_with (first | (refine store_ob rfl _ _ rfl rfl (c := Ob.zero) rfl OR2 rfl ?_) | fail)
    refine bodyPost_ret (ret_ob2 rfl _ rfl (OR2.row_same _)) rfl ?_
    exact ⟨by rw [HC.out]; rfl, HF.out⟩

/-- How many bytes an object's data has, that lies in block b. -/
def dataLen (w : World) (b : Nat) : Nat := match w.cell? ⟨b, 24, none⟩ with | some (.slice _ m _) => m | _ => 0
theorem dataLen_of {w : World} {b m c : Nat} {O : Option Addr} (h : w.cell? ⟨b, 24, none⟩ = some (.slice O m c)) : dataLen w b = m := by unfold dataLen; rw [h]
set_option maxRecDepth 100000 in
set_option maxHeartbeats 4000000 in
theorem refFlWrite_ok (o : Ob) (D : List UInt8) (k : Nat) (c : UInt8) (W : World) (hc : o.fwrite (k : Int) = 0) (hD : Bytes W W.heap.size o.data.A o.data.n D) : Calls Try.prog 15 #[.agg (oc o), .int .i64 (k : Int), .int .u8 (c.toNat : Int)] W (DataOk o (Fl.put D k c) W) := by
  obtain ⟨w1, hw, O, OR, hb, hs⟩ := start_oz W o
  obtain ⟨h0, h1⟩ := Ob.fwrite_0 hc
  obtain ⟨hp, -⟩ := Ob.fcheck_0 h0
  have hn := hp.2.2.1
  have hk : k < 4096 := by omega
  have hl := hD.len
  have HB := hide hb
  have HD := hide hD
  have HP := hide hp
  clear hb hD hp hc h0
  go_enter Try.func15, Try.ntmps15
  go_wp2_with (first | (refine load_ob rfl _ rfl rfl O ?_) | fail)
  refine (refFlValid_any o _).mono ?_
  rintro e w2 ⟨rfl, hb2⟩
  rw [decide_eq_true HP.out]
  have O2 := O.below hb2 O.lt
  have OR2 := OR.below hb2 OR.lt
  have HB2 := hide (HB.out.trans (hb2.mono HB.out.size))
  have hD2 := HD.out.belowLe HB2.out (Nat.le_refl _)
  have k24 : w2.cell? ⟨W.heap.size, 24, none⟩ = some (.slice o.data.A o.data.n o.data.c) := O2.cell 24
  have hs2 : W.heap.size + 2 ≤ w2.heap.size := by have := hb2.size; omega
  clear hb2 HB HD O OR hw hs HP
  go_wp2_with (first | (at_builtin; refine wpList_append_rd rfl _ _ _ rfl byteTy (A := none) (n := 0) (c := 0) (xs := []) (base := w2.heap.size) rfl own_none (S := o.data.A) (m := o.data.n) (d := o.data.c) (news := bv D) rfl hD2.2 (bv_one _) (by unfold maxLen; omega) (by omega) (Nat.le_refl _) ?_; intro A3 c3 w3 hown3 hg3 _; rw [Nat.zero_add, List.nil_append] at hown3; rw [Nat.zero_add]; have hb3 := below_none hg3; have O3 := O2.below hb3 O2.lt; have OR3 := OR2.below hb3 OR2.lt; have z3 := O3.free 24; have k3 : w3.cell? ⟨W.heap.size, 24, none⟩ = some (.slice o.data.A o.data.n o.data.c) := O3.cell 24; have HB3 := hide (HB2.out.trans (hb3.mono HB2.out.size)); have HO4 := hide (own_keep hown3 (keep_put (m := W.heap.size) (by omega) 24 (.slice A3 o.data.n c3))); have O4 := O3.put 24 (.slice A3 o.data.n c3); have OR4 := OR3.put_other (b' := W.heap.size) (by omega) 24 (.slice A3 o.data.n c3); have HB4 := hide (HB3.out.setCell (p := ⟨W.heap.size, 24, none⟩) (Nat.le_refl _) (.slice A3 o.data.n c3)); rw [oc_data] at O4; obtain ⟨w4, hw4⟩ : ∃ w4, w3.setCell ⟨W.heap.size, 24, none⟩ (.slice A3 o.data.n c3) = w4 := ⟨_, rfl⟩; rw [hw4] at HO4 O4 OR4 HB4; have HW4 := hide O4; have HR4 := hide OR4; clear hown3 hg3 hb3 O3 OR3 O4 OR4 HB3 k24 hD2 O2 OR2) | fail)
  go_loopw [29] (fun _ wr => ∃ (m c' : Nat) (O : Option Addr), o.data.n ≤ m ∧ m ≤ max o.data.n (k + 1) ∧ Hid (Obl wr W.heap.size 41 (oc { o with data := ⟨O, m, c'⟩ })) ∧ Hid (Obl wr (W.heap.size + 1) 41 (oc Ob.zero)) ∧ Hid (wr.ownsRow (W.heap.size + 2) 5 1 (.slice O m c') m (bv (D ++ List.replicate (m - o.data.n) 0))) ∧ Hid (Below W.heap.size W wr)) (fun _ wr => k + 1 - dataLen wr W.heap.size)
  case atStart => exact ⟨o.data.n, c3, A3, by omega, by omega, HW4, HR4, hide (by rw [Nat.sub_self]; simpa using own_weaken HO4.out (by omega)), HB4⟩
  case round =>
    clear HW4 HR4 HO4 HB4 hw4 k3 z3
    obtain ⟨m, c', O, g1, g2, HO, HR, HW, HB⟩ := hrel
    have O1 := HO.out
    have hOl := O1.lt
    have hRl := HR.out.lt
    have k24 : wr.cell? ⟨W.heap.size, 24, none⟩ = some (.slice O m c') := O1.cell 24
    have z24 := O1.free 24
    have HM1 := hide (dataLen_of k24)
    by_cases hlt : m ≤ k
    · have hlt' : (m : Int) ≤ (k : Int) := by omega
      have HM := hide (Fl.more (D := D) g1)
      obtain ⟨L, hL⟩ : ∃ L, bv (D ++ List.replicate (m - o.data.n) 0) = L := ⟨_, rfl⟩
      rw [hL] at HW HM
      clear hL
      go_wp2_with (first | (at_builtin; refine wpList_append_rd rfl _ _ _ rfl byteTy (base := W.heap.size + 2) rfl (HW.out.alloc (.cells #[.int .u8 0] 5)) rfl (Row.new wr (.int .u8 0) 5) (by simp [Value.oneCell']) (by unfold maxLen; omega) (by omega) (by simp; omega) ?_; intro A5 c5 w5 hown5 hg5 _; have hbel := below_own (Below.refl (W.heap.size + 2) _) (HW.out.alloc (.cells #[.int .u8 0] 5)) hg5 (by simp; omega); rw [HM.out] at hown5; have O5 := (O1.alloc (.cells #[.int .u8 0] 5)).below hbel (by omega); have R5 := (HR.out.alloc (.cells #[.int .u8 0] 5)).below hbel (by omega); have HB5 := hide ((HB.out.alloc HB.out.size (.cells #[.int .u8 0] 5)).trans (hbel.mono (by omega))); have z5 := O5.free 24; have k5 : w5.cell? ⟨W.heap.size, 24, none⟩ = some (.slice O m c') := O5.cell 24; have HO6 := hide (O5.put 24 (.slice A5 (m + 1) c5)); have HR6 := hide (R5.put_other (b' := W.heap.size) (by omega) 24 (.slice A5 (m + 1) c5)); have HW6 := hide (own_keep hown5 (keep_put (m := W.heap.size) (by omega) 24 (.slice A5 (m + 1) c5))); have HB6 := hide (HB5.out.setCell (p := ⟨W.heap.size, 24, none⟩) (Nat.le_refl _) (.slice A5 (m + 1) c5)); have HM6 := hide (dataLen_of (HO6.out.cell 24)); clear hown5 hg5 hbel O5 R5 HB5 O1 k24 z24) | fail)
      go_roundw
      case rel => exact ⟨m + 1, c5, A5, by omega, by omega, HO6, HR6, HW6, HB6⟩
      case measure => rw [HM1.out, HM6.out]; omega
    · have hlt' : ¬ (m : Int) ≤ (k : Int) := by omega
      have hU := Fl.upto_of hl g1 g2 (by omega)
      obtain ⟨g, rfl, hg, hg2⟩ := own_addr HW.out (by omega)
      have hown := HW.out
      rw [hU] at hown
      have hkU : k < (Fl.upto D k).length := by rw [Fl.upto_length]; omega
      have zk := own_free hown k
      have ck := own_cell hown (bv_at hkU)
      have hown8 := own_set hown (i := k) (.int .u8 (c.toNat : Int))
      rw [bv_set] at hown8
      have O8 := O1.put_other (b' := g) (by omega) k (.int .u8 (c.toNat : Int))
      have R8 := HR.out.put_other (b' := g) (by omega) k (.int .u8 (c.toNat : Int))
      have HB8 := hide (HB.out.setCell (p := ⟨g, k, none⟩) (show W.heap.size ≤ g by omega) (.int .u8 (c.toNat : Int)))
      obtain ⟨w8, hw8⟩ : ∃ w8, wr.setCell ⟨g, k, none⟩ (.int .u8 (c.toNat : Int)) = w8 := ⟨_, rfl⟩
      rw [hw8] at O8 R8 hown8 HB8
      have HO8 := hide (own_keep hown8 (keep_row (m := W.heap.size + 1) (by omega) (oc { o with data := ⟨some ⟨g, 0, none⟩, m, c'⟩ })))
      have hkn : (k : Int) < (m : Int) := by omega
      generalize (Fl.upto D k)[k] = old at ck
      clear hown hown8 HW HR HO hkU hU O1 HM1
      go_wp2_with (first | (refine load_ob rfl _ rfl rfl O8 ?_) | (refine store_ob rfl _ _ rfl rfl (c := { o with data := ⟨some ⟨g, 0, none⟩, m, c'⟩ }) rfl R8 rfl ?_) | fail)
      refine bodyPost_ret (ret_ob2 rfl _ rfl (R8.row_same _)) rfl ?_
      exact ⟨some ⟨g, 0, none⟩, m, c', rfl, Bytes.of_own HO8.out, below_row HB8.out (by omega) _⟩
end Go.Proofs.Ytcgiobffobonpaa
