/- Layer 8: package file: contracts. -/
import Derived.Test.YtcgiobffobonpaaFlValid
import Derived.Test.YtcgiobffobonpaaFlMath
namespace Go.Proofs.Ytcgiobffobonpaa
open Go.RowKit

set_option maxRecDepth 100000 in
set_option maxHeartbeats 4000000 in
theorem flValid_any (o : Ob) (W : World) : Calls Try.prog 17 #[.agg (oc o)] W (BoolPost (decide o.File) W) := by
  obtain ⟨w1, hw, O, hb⟩ : ∃ w1, W.alloc (.cells (oc o) 41) = w1 ∧ Obl w1 W.heap.size 41 (oc o) ∧ Below W.heap.size W w1 := ⟨_, rfl, Obl.make W _ _, (Below.refl _ _).alloc (Nat.le_refl _) _⟩
  obtain ⟨w2, hw2, m, hm, w3, hw3, OZ, R, hb3, hs3⟩ := laid_ob o w1
  have hWm : W.heap.size < m := by have := O.lt; omega
  have O3 := (O.below hb3 O.lt).put_other (b' := m) (by omega) 24 (.slice none 0 0)
  have z24 := R.free 24
  have k24 : w3.cell? ⟨m, 24, none⟩ = some (.slice o.data.A o.data.n o.data.c) := R.cell 24
  have R4 := R.put 24 (.slice none 0 0)
  rw [oc_dataless] at R4
  have HB := hide ((hb.trans (hb3.mono (by omega))).setCell (p := ⟨m, 24, none⟩) (show W.heap.size ≤ m by omega) (.slice none 0 0))
  obtain ⟨w4, hw4⟩ : ∃ w4, w3.setCell ⟨m, 24, none⟩ (.slice none 0 0) = w4 := ⟨_, rfl⟩
  rw [hw4] at O3 R4 HB
  have k1 : w4.cell? ⟨W.heap.size, 1, none⟩ = some (.int .i64 o.kind) := O3.cell 1
  have k0 : w4.cell? ⟨W.heap.size, 0, none⟩ = some (.int .u64 o.id) := O3.cell 0
  have kd : w4.cell? ⟨W.heap.size, 24, none⟩ = some (.slice o.data.A o.data.n o.data.c) := O3.cell 24
  clear hb hb3
  by_cases h0 : o.kind = 3
  · have H0 := hide h0
    rw [h0] at k1
    clear h0
    by_cases h1 : o.id = 0
    · have H1 := hide h1
      rw [h1] at k0
      clear h1
      go_enter Try.func17, Try.ntmps17
      go_wp2_with (first | (refine load_ob rfl _ rfl rfl O ?_) | (refine store_ob rfl _ _ rfl rfl (c := o) rfl OZ rfl ?_; rw [hw3]) | fail)
      go_ret
      exact ⟨ret_bool (decide_eq_false (fun hh : o.File => hh.2.1 H1.out)).symm, HB.out⟩
    · have H1 := hide h1
      have b1 : (o.id != 0) = true := by simpa using h1
      have b1' : (o.id == 0) = false := by simpa using h1
      clear h1
      by_cases h2 : o.data.n ≤ 4096
      · have H2 := hide h2
        have h2' : (o.data.n : Int) ≤ 4096 := by omega
        clear h2
        by_cases h3 : o.dataless.Clear
        · have H3 := hide h3
          clear h3
          go_enter Try.func17, Try.ntmps17
          go_wp2_with (first | (refine load_ob rfl _ rfl rfl O ?_) | (refine store_ob rfl _ _ rfl rfl (c := o) rfl OZ rfl ?_; rw [hw3]) | (refine wpList_val (by rfl) (exec_load_ob rfl rfl R4) ?_) | (go_at_call 42; refine (flBare_any o.dataless _).mono ?_; rintro e u3 ⟨rfl, g3⟩; rw [show decide o.dataless.Clear = true from decide_eq_true H3.out]) | fail)
          go_ret
          exact ⟨ret_bool (decide_eq_true (show o.File from ⟨H0.out, H1.out, H2.out, H3.out⟩)).symm, HB.out.trans (g3.mono HB.out.size)⟩
        · have H3 := hide h3
          clear h3
          go_enter Try.func17, Try.ntmps17
          go_wp2_with (first | (refine load_ob rfl _ rfl rfl O ?_) | (refine store_ob rfl _ _ rfl rfl (c := o) rfl OZ rfl ?_; rw [hw3]) | (refine wpList_val (by rfl) (exec_load_ob rfl rfl R4) ?_) | (go_at_call 42; refine (flBare_any o.dataless _).mono ?_; rintro e u3 ⟨rfl, g3⟩; rw [show decide o.dataless.Clear = false from decide_eq_false H3.out]) | fail)
          go_ret
          exact ⟨ret_bool (decide_eq_false (fun hh : o.File => H3.out hh.2.2.2)).symm, HB.out.trans (g3.mono HB.out.size)⟩
      · have H2 := hide h2
        have h2' : ¬ (o.data.n : Int) ≤ 4096 := by omega
        clear h2
        go_enter Try.func17, Try.ntmps17
        go_wp2_with (first | (refine load_ob rfl _ rfl rfl O ?_) | (refine store_ob rfl _ _ rfl rfl (c := o) rfl OZ rfl ?_; rw [hw3]) | fail)
        go_ret
        exact ⟨ret_bool (decide_eq_false (fun hh : o.File => H2.out hh.2.2.1)).symm, HB.out⟩
  · have H0 := hide h0
    have b0 : (o.kind == 3) = false := by simpa using h0
    clear h0
    go_enter Try.func17, Try.ntmps17
    go_wp2_with (first | (refine load_ob rfl _ rfl rfl O ?_) | (refine store_ob rfl _ _ rfl rfl (c := o) rfl OZ rfl ?_; rw [hw3]) | fail)
    go_ret
    exact ⟨ret_bool (decide_eq_false (fun hh : o.File => H0.out hh.1)).symm, HB.out⟩

theorem built_file (id : Int) : Try.prog.built 41 [(0, .int .u64 id), (1, .int .i64 3)] = some (oc (Ob.file id ⟨none, 0, 0⟩)) := by kernel_rfl
/-- The description id of a file. -/
def Ob.desc (id file : Int) : Ob := { Ob.zero with id := id, kind := 4, refs := 1, target := file }
theorem built_desc (id f : Int) : Try.prog.built 41 [(0, .int .u64 id), (1, .int .i64 4), (2, .int .i64 1), (7, .int .u64 f)] = some (oc (Ob.desc id f)) := by kernel_rfl
/-- An object comes back. -/
def GivesOb (o : Ob) (w : World) (e : Ending) (w' : World) : Prop := e = .returned (.agg (oc o)) ∧ Below w.heap.size w w'
set_option maxRecDepth 100000 in
set_option maxHeartbeats 4000000 in
theorem flNew_any (id : Int) (W : World) : Calls Try.prog 21 #[.int .u64 id] W (GivesOb (Ob.file id ⟨none, 0, 0⟩) W) := by
  obtain ⟨w1, hw, O, hb, hs⟩ := start_z W
  have HB := hide hb
  clear hb
  go_enter Try.func21, Try.ntmps21
  go_wp2_with (first | (refine store_ob rfl _ _ rfl rfl (c := Ob.file id ⟨none, 0, 0⟩) rfl O rfl ?_) | fail)
  refine bodyPost_ret (ret_ob rfl _ rfl (O.row_same _)) rfl ?_
  exact ⟨rfl, below_row HB.out (Nat.le_refl _) _⟩
set_option maxRecDepth 100000 in
set_option maxHeartbeats 4000000 in
theorem flOpened_any (id f : Int) (W : World) : Calls Try.prog 23 #[.int .u64 id, .int .u64 f] W (GivesOb (Ob.desc id f) W) := by
  obtain ⟨w1, hw, O, hb, hs⟩ := start_z W
  have HB := hide hb
  clear hb
  go_enter Try.func23, Try.ntmps23
  go_wp2_with (first | (refine store_ob rfl _ _ rfl rfl (c := Ob.desc id f) rfl O rfl ?_) | fail)
  refine bodyPost_ret (ret_ob rfl _ rfl (O.row_same _)) rfl ?_
  exact ⟨rfl, below_row HB.out (Nat.le_refl _) _⟩

set_option maxRecDepth 100000 in
set_option maxHeartbeats 4000000 in
theorem flCheck_any (o : Ob) (n : Int) (W : World) : Calls Try.prog 38 #[.agg (oc o), .int .i64 n] W (IntPost (o.fcheck n) W) := by
  obtain ⟨w1, hw, O, hb⟩ : ∃ w1, W.alloc (.cells (oc o) 41) = w1 ∧ Obl w1 W.heap.size 41 (oc o) ∧ Below W.heap.size W w1 := ⟨_, rfl, Obl.make W _ _, (Below.refl _ _).alloc (Nat.le_refl _) _⟩
  have HB := hide hb
  clear hb
  go_enter Try.func38, Try.ntmps38
  go_wp2_with (first | (refine load_ob rfl _ rfl rfl O ?_) | fail)
  refine (flValid_any o _).mono ?_
  rintro e w2 ⟨rfl, hb2⟩
  have HF := hide (HB.out.trans (hb2.mono HB.out.size))
  clear hb2
  by_cases hv : o.File
  · rw [decide_eq_true hv]
    by_cases h0 : 0 ≤ n
    · have HC : Hid (o.fcheck n = 0) := hide (Ob.fcheck_ok hv h0)
      go_wp2
      go_ret
      exact ⟨by rw [HC.out]; rfl, HF.out⟩
    · have HC : Hid (o.fcheck n = 2) := hide (by unfold Ob.fcheck; rw [if_pos hv, if_neg h0])
      go_wp2
      go_ret
      exact ⟨by rw [HC.out]; rfl, HF.out⟩
  · have HC : Hid (o.fcheck n = 1) := hide (by unfold Ob.fcheck; rw [if_neg hv])
    rw [decide_eq_false hv]
    go_wp2
    go_ret
    exact ⟨by rw [HC.out]; rfl, HF.out⟩

set_option maxRecDepth 100000 in
set_option maxHeartbeats 4000000 in
theorem flRead_any (o : Ob) (D : List UInt8) (n : Int) (W : World) (hD : Bytes W W.heap.size o.data.A o.data.n D) : Calls Try.prog 12 #[.agg (oc o), .int .i64 n] W (ReadPost (o.fbyte D n) (o.fthere D n) (o.fcheck n) W) := by
  obtain ⟨w1, hw, O, hb⟩ : ∃ w1, W.alloc (.cells (oc o) 41) = w1 ∧ Obl w1 W.heap.size 41 (oc o) ∧ Below W.heap.size W w1 := ⟨_, rfl, Obl.make W _ _, (Below.refl _ _).alloc (Nat.le_refl _) _⟩
  have HB := hide hb
  have HD := hide hD
  have hlen := hD.len
  clear hb hD
  go_enter Try.func12, Try.ntmps12
  go_wp2_with (first | (refine load_ob rfl _ rfl rfl O ?_) | fail)
  refine (flCheck_any o n _).mono ?_
  rintro e w2 ⟨rfl, hb2⟩
  have HF := hide (HB.out.trans (hb2.mono HB.out.size))
  have O2 := O.below hb2 O.lt
  have hD2 := HD.out.below HF.out
  clear hb2 HD hw
  by_cases hv : o.fcheck n = 0
  · obtain ⟨hp, h0⟩ := Ob.fcheck_0 hv
    obtain ⟨k, rfl⟩ := Int.eq_ofNat_of_zero_le h0
    have k24 : w2.cell? ⟨W.heap.size, 24, none⟩ = some (.slice o.data.A o.data.n o.data.c) := O2.cell 24
    have HC := hide hv
    rw [hv]
    clear h0 hp
    by_cases hk : k < o.data.n
    · have hk' : (k : Int) < (o.data.n : Int) := by omega
      obtain ⟨b, f, hl, hA, hlt, hc⟩ := hD2.at_ hk
      obtain ⟨q1, q2⟩ := Ob.fread_ok hv hl
      have HQ := hide q1
      have HR := hide q2
      rw [hA] at k24
      obtain ⟨v, hvv⟩ : ∃ v, D[k] = v := ⟨_, rfl⟩
      rw [hvv] at hc HR
      clear hvv q1 q2 hA hv hlt
      go_wp2
      go_ret3
      exact ⟨by rw [HC.out, HQ.out, HR.out]; rfl, HF.out⟩
    · have hk' : ¬ (k : Int) < (o.data.n : Int) := by omega
      obtain ⟨q1, q2⟩ := Ob.fread_no (o := o) (D := D) (n := (k : Int)) (fun h => hk (by omega))
      have HQ := hide q1
      have HR := hide q2
      clear q1 q2 hv
      go_wp2
      go_ret3
      exact ⟨by rw [HC.out, HQ.out, HR.out]; rfl, HF.out⟩
  · obtain ⟨q1, q2⟩ := Ob.fread_no (o := o) (D := D) (n := n) (fun h => hv h.1)
    have HQ := hide q1
    have HR := hide q2
    obtain ⟨r, hr⟩ : ∃ r, o.fcheck n = r := ⟨_, rfl⟩
    have HC := hide hr
    rw [hr] at hv ⊢
    have b0 : (r != 0) = true := by simpa using hv
    have b1 : (r == 0) = false := by simpa using hv
    clear hr hv q1 q2
    go_wp2
    go_ret3
    exact ⟨by rw [HC.out, HQ.out, HR.out]; rfl, HF.out⟩
end Go.Proofs.Ytcgiobffobonpaa
