/- Layer 8: package file: contracts. | Layer 8: package file's Write: contracts. -/
import Derived.Test.YtcgiobffobonpaaFlValid
import Derived.Test.YtcgiobffobonpaaFlMath
import Derived.Test.YtcgiobffobonpaaCloneB
import Derived.Test.YtcgiobffobonpaaObOwn
namespace Go.Proofs.Ytcgiobffobonpaa
open Go.RowKit

set_option maxRecDepth 100000 in
set_option maxHeartbeats 4000000 in
theorem flValid_any (o : Ob) (W : World) : Calls Try.prog 17 #[.agg (oc o)] W (BoolPost (decide o.File) W) := by
  obtain ⟨w1, hw, O, hb⟩ : ∃ w1, W.alloc (.cells (oc o) 41) = w1 ∧ Obl w1 W.heap.size 41 (oc o) ∧ Below W.heap.size W w1 := ⟨_, rfl, Obl.make W _ _, (Below.refl _ _).alloc (Nat.le_refl _) _⟩
  obtain ⟨w2, hw2, m, hm, w3, hw3, OZ, R, hb3, hs3⟩ := laid_ob o w1
  have hWm : W.heap.size < m := by have := O.lt; omega
  have O3 := (O.below hb3 O.lt).put_other (b' := m) (by omega) 24 (.slice none 0 0)
  have z24 := R.free 24
  have k24 : w3.cell? ⟨m, 24, none⟩ = some (.slice o.data.A o.data.n o.data.c) := R.cell 24
  have R4 := R.put 24 (.slice none 0 0)
  rw [oc_dataless] at R4
  have HB := hide ((hb.trans (hb3.mono (by omega))).setCell (p := ⟨m, 24, none⟩) (show W.heap.size ≤ m by omega) (.slice none 0 0))
  obtain ⟨w4, hw4⟩ : ∃ w4, w3.setCell ⟨m, 24, none⟩ (.slice none 0 0) = w4 := ⟨_, rfl⟩
  rw [hw4] at O3 R4 HB
  have k1 : w4.cell? ⟨W.heap.size, 1, none⟩ = some (.int .i64 o.kind) := O3.cell 1
  have k0 : w4.cell? ⟨W.heap.size, 0, none⟩ = some (.int .u64 o.id) := O3.cell 0
  have kd : w4.cell? ⟨W.heap.size, 24, none⟩ = some (.slice o.data.A o.data.n o.data.c) := O3.cell 24
  clear hb hb3
  by_cases h0 : o.kind = 3
  · have H0 := hide h0
    rw [h0] at k1
    clear h0
    by_cases h1 : o.id = 0
    · have H1 := hide h1
      rw [h1] at k0
      clear h1
      go_enter Try.func17, Try.ntmps17
      go_wp2_with (first | (refine load_ob rfl _ rfl rfl O ?_) | (refine store_ob rfl _ _ rfl rfl (c := o) rfl OZ rfl ?_; rw [hw3]) | fail)
      go_ret
      exact ⟨ret_bool (decide_eq_false (fun hh : o.File => hh.2.1 H1.out)).symm, HB.out⟩
    · have H1 := hide h1
      have b1 : (o.id != 0) = true := by simpa using h1
      have b1' : (o.id == 0) = false := by simpa using h1
      clear h1
      by_cases h2 : o.data.n ≤ 4096
      · have H2 := hide h2
        have h2' : (o.data.n : Int) ≤ 4096 := by omega
        clear h2
        by_cases h3 : o.dataless.Clear
        · have H3 := hide h3
          clear h3
          go_enter Try.func17, Try.ntmps17
          go_wp2_with (first | (refine load_ob rfl _ rfl rfl O ?_) | (refine store_ob rfl _ _ rfl rfl (c := o) rfl OZ rfl ?_; rw [hw3]) | (refine wpList_val (by rfl) (exec_load_ob rfl rfl R4) ?_) | (go_at_call 42; refine (flBare_any o.dataless _).mono ?_; rintro e u3 ⟨rfl, g3⟩; rw [show decide o.dataless.Clear = true from decide_eq_true H3.out]) | fail)
          go_ret
          exact ⟨ret_bool (decide_eq_true (show o.File from ⟨H0.out, H1.out, H2.out, H3.out⟩)).symm, HB.out.trans (g3.mono HB.out.size)⟩
        · have H3 := hide h3
          clear h3
          go_enter Try.func17, Try.ntmps17
          go_wp2_with (first | (refine load_ob rfl _ rfl rfl O ?_) | (refine store_ob rfl _ _ rfl rfl (c := o) rfl OZ rfl ?_; rw [hw3]) | (refine wpList_val (by rfl) (exec_load_ob rfl rfl R4) ?_) | (go_at_call 42; refine (flBare_any o.dataless _).mono ?_; rintro e u3 ⟨rfl, g3⟩; rw [show decide o.dataless.Clear = false from decide_eq_false H3.out]) | fail)
          go_ret
          exact ⟨ret_bool (decide_eq_false (fun hh : o.File => H3.out hh.2.2.2)).symm, HB.out.trans (g3.mono HB.out.size)⟩
      · have H2 := hide h2
        have h2' : ¬ (o.data.n : Int) ≤ 4096 := by omega
        clear h2
        go_enter Try.func17, Try.ntmps17
        go_wp2_with (first | (refine load_ob rfl _ rfl rfl O ?_) | (refine store_ob rfl _ _ rfl rfl (c := o) rfl OZ rfl ?_; rw [hw3]) | fail)
        go_ret
        exact ⟨ret_bool (decide_eq_false (fun hh : o.File => H2.out hh.2.2.1)).symm, HB.out⟩
  · have H0 := hide h0
    have b0 : (o.kind == 3) = false := by simpa using h0
    clear h0
    go_enter Try.func17, Try.ntmps17
    go_wp2_with (first | (refine load_ob rfl _ rfl rfl O ?_) | (refine store_ob rfl _ _ rfl rfl (c := o) rfl OZ rfl ?_; rw [hw3]) | fail)
    go_ret
    exact ⟨ret_bool (decide_eq_false (fun hh : o.File => H0.out hh.1)).symm, HB.out⟩

theorem built_file (id : Int) : Try.prog.built 41 [(0, .int .u64 id), (1, .int .i64 3)] = some (oc (Ob.file id ⟨none, 0, 0⟩)) := by kernel_rfl
/-- The description id of a file. -/
def Ob.desc (id file : Int) : Ob := { Ob.zero with id := id, kind := 4, refs := 1, target := file }
theorem built_desc (id f : Int) : Try.prog.built 41 [(0, .int .u64 id), (1, .int .i64 4), (2, .int .i64 1), (7, .int .u64 f)] = some (oc (Ob.desc id f)) := by kernel_rfl
/-- An object comes back. -/
def GivesOb (o : Ob) (w : World) (e : Ending) (w' : World) : Prop := e = .returned (.agg (oc o)) ∧ Below w.heap.size w w'
set_option maxRecDepth 100000 in
set_option maxHeartbeats 4000000 in
theorem flNew_any (id : Int) (W : World) : Calls Try.prog 21 #[.int .u64 id] W (GivesOb (Ob.file id ⟨none, 0, 0⟩) W) := by
  obtain ⟨w1, hw, O, hb, hs⟩ := start_z W
  have HB := hide hb
  clear hb
  go_enter Try.func21, Try.ntmps21
  go_wp2_with (first | (refine store_ob rfl _ _ rfl rfl (c := Ob.file id ⟨none, 0, 0⟩) rfl O rfl ?_) | fail)
  refine bodyPost_ret (ret_ob rfl _ rfl (O.row_same _)) rfl ?_
  exact ⟨rfl, below_row HB.out (Nat.le_refl _) _⟩
set_option maxRecDepth 100000 in
set_option maxHeartbeats 4000000 in
theorem flOpened_any (id f : Int) (W : World) : Calls Try.prog 23 #[.int .u64 id, .int .u64 f] W (GivesOb (Ob.desc id f) W) := by
  obtain ⟨w1, hw, O, hb, hs⟩ := start_z W
  have HB := hide hb
  clear hb
  go_enter Try.func23, Try.ntmps23
  go_wp2_with (first | (refine store_ob rfl _ _ rfl rfl (c := Ob.desc id f) rfl O rfl ?_) | fail)
  refine bodyPost_ret (ret_ob rfl _ rfl (O.row_same _)) rfl ?_
  exact ⟨rfl, below_row HB.out (Nat.le_refl _) _⟩

set_option maxRecDepth 100000 in
set_option maxHeartbeats 4000000 in
theorem flCheck_any (o : Ob) (n : Int) (W : World) : Calls Try.prog 38 #[.agg (oc o), .int .i64 n] W (IntPost (o.fcheck n) W) := by
  obtain ⟨w1, hw, O, hb⟩ : ∃ w1, W.alloc (.cells (oc o) 41) = w1 ∧ Obl w1 W.heap.size 41 (oc o) ∧ Below W.heap.size W w1 := ⟨_, rfl, Obl.make W _ _, (Below.refl _ _).alloc (Nat.le_refl _) _⟩
  have HB := hide hb
  clear hb
  go_enter Try.func38, Try.ntmps38
  go_wp2_with (first | (refine load_ob rfl _ rfl rfl O ?_) | fail)
  refine (flValid_any o _).mono ?_
  rintro e w2 ⟨rfl, hb2⟩
  have HF := hide (HB.out.trans (hb2.mono HB.out.size))
  clear hb2
  by_cases hv : o.File
  · rw [decide_eq_true hv]
    by_cases h0 : 0 ≤ n
    · have HC : Hid (o.fcheck n = 0) := hide (Ob.fcheck_ok hv h0)
      go_wp2
      go_ret
      exact ⟨by rw [HC.out]; rfl, HF.out⟩
    · have HC : Hid (o.fcheck n = 2) := hide (by unfold Ob.fcheck; rw [if_pos hv, if_neg h0])
      go_wp2
      go_ret
      exact ⟨by rw [HC.out]; rfl, HF.out⟩
  · have HC : Hid (o.fcheck n = 1) := hide (by unfold Ob.fcheck; rw [if_neg hv])
    rw [decide_eq_false hv]
    go_wp2
    go_ret
    exact ⟨by rw [HC.out]; rfl, HF.out⟩

set_option maxRecDepth 100000 in
set_option maxHeartbeats 4000000 in
theorem flRead_any (o : Ob) (D : List UInt8) (n : Int) (W : World) (hD : Bytes W W.heap.size o.data.A o.data.n D) : Calls Try.prog 12 #[.agg (oc o), .int .i64 n] W (ReadPost (o.fbyte D n) (o.fthere D n) (o.fcheck n) W) := by
  obtain ⟨w1, hw, O, hb⟩ : ∃ w1, W.alloc (.cells (oc o) 41) = w1 ∧ Obl w1 W.heap.size 41 (oc o) ∧ Below W.heap.size W w1 := ⟨_, rfl, Obl.make W _ _, (Below.refl _ _).alloc (Nat.le_refl _) _⟩
  have HB := hide hb
  have HD := hide hD
  have hlen := hD.len
  clear hb hD
  go_enter Try.func12, Try.ntmps12
  go_wp2_with (first | (refine load_ob rfl _ rfl rfl O ?_) | fail)
  refine (flCheck_any o n _).mono ?_
  rintro e w2 ⟨rfl, hb2⟩
  have HF := hide (HB.out.trans (hb2.mono HB.out.size))
  have O2 := O.below hb2 O.lt
  have hD2 := HD.out.below HF.out
  clear hb2 HD hw
  by_cases hv : o.fcheck n = 0
  · obtain ⟨hp, h0⟩ := Ob.fcheck_0 hv
    obtain ⟨k, rfl⟩ := Int.eq_ofNat_of_zero_le h0
    have k24 : w2.cell? ⟨W.heap.size, 24, none⟩ = some (.slice o.data.A o.data.n o.data.c) := O2.cell 24
    have HC := hide hv
    rw [hv]
    clear h0 hp
    by_cases hk : k < o.data.n
    · have hk' : (k : Int) < (o.data.n : Int) := by omega
      obtain ⟨b, f, hl, hA, hlt, hc⟩ := hD2.at_ hk
      obtain ⟨q1, q2⟩ := Ob.fread_ok hv hl
      have HQ := hide q1
      have HR := hide q2
      rw [hA] at k24
      obtain ⟨v, hvv⟩ : ∃ v, D[k] = v := ⟨_, rfl⟩
      rw [hvv] at hc HR
      clear hvv q1 q2 hA hv hlt
      go_wp2
      go_ret3
      exact ⟨by rw [HC.out, HQ.out, HR.out]; rfl, HF.out⟩
    · have hk' : ¬ (k : Int) < (o.data.n : Int) := by omega
      obtain ⟨q1, q2⟩ := Ob.fread_no (o := o) (D := D) (n := (k : Int)) (fun h => hk (by omega))
      have HQ := hide q1
      have HR := hide q2
      clear q1 q2 hv
      go_wp2
      go_ret3
      exact ⟨by rw [HC.out, HQ.out, HR.out]; rfl, HF.out⟩
  · obtain ⟨q1, q2⟩ := Ob.fread_no (o := o) (D := D) (n := n) (fun h => hv h.1)
    have HQ := hide q1
    have HR := hide q2
    obtain ⟨r, hr⟩ : ∃ r, o.fcheck n = r := ⟨_, rfl⟩
    have HC := hide hr
    rw [hr] at hv ⊢
    have b0 : (r != 0) = true := by simpa using hv
    have b1 : (r == 0) = false := by simpa using hv
    clear hr hv q1 q2
    go_wp2
    go_ret3
    exact ⟨by rw [HC.out, HQ.out, HR.out]; rfl, HF.out⟩
end Go.Proofs.Ytcgiobffobonpaa
namespace Go.Proofs.Ytcgiobffobonpaa
open Go.RowKit

theorem bv_set (L : List UInt8) (k : Nat) (c : UInt8) : (bv L).set k (.int .u8 (c.toNat : Int)) = bv (L.set k c) := by simp [bv]
theorem Fl.upto_of {D : List UInt8} {n m k : Nat} (hD : D.length = n) (h1 : n ≤ m) (h2 : m ≤ max n (k + 1)) (h3 : k < m) : D ++ List.replicate (m - n) 0 = Fl.upto D k := by
  unfold Fl.upto
  rw [show m - n = k + 1 - D.length by omega]
theorem Fl.more {D : List UInt8} {n m : Nat} (h : n ≤ m) : bv (D ++ List.replicate (m - n) 0) ++ [.int .u8 0] = bv (D ++ List.replicate (m + 1 - n) 0) := by
  rw [show m + 1 - n = (m - n) + 1 by omega, List.replicate_succ', ← List.append_assoc, bv_append (D ++ _)]
  rfl
/-- A row of bytes of the call's own comes back. -/
def RowPost (D : List UInt8) (w : World) (e : Ending) (w' : World) : Prop := ∃ A n c, e = .returned (.slice A n c) ∧ w'.ownsRow w.heap.size 5 1 (.slice A n c) n (bv D) ∧ Below w.heap.size w w'
set_option maxRecDepth 100000 in
set_option maxHeartbeats 4000000 in
theorem reaching_any (D : List UInt8) (A : Option Addr) (n cap k : Nat) (W : World) (h : Bytes W W.heap.size A n D) (hn : n ≤ 1000000) (hk : k ≤ 1000000) : Calls Try.prog 39 #[.slice A n cap, .int .i64 (k : Int)] W (RowPost (Fl.upto D k) W) := by
  have hl := h.len
  have HR := hide h
  clear h
  go_enter Try.func39, Try.ntmps39
  go_wp2_with fail
  refine (cloneB_any D A n cap _ HR.out hn).mono ?_
  rintro e w1 ⟨A1, c1, rfl, hown, hb1⟩
  have HO := hide hown
  have HB := hide hb1
  clear hown hb1 HR
  go_wp2_with fail
  go_loopw [5] (fun s5 wr => ∃ (m c : Nat) (O : Option Addr), s5 = .slice O m c ∧ n ≤ m ∧ m ≤ max n (k + 1) ∧ Hid (wr.ownsRow W.heap.size 5 1 (.slice O m c) m (bv (D ++ List.replicate (m - n) 0))) ∧ Hid (Below W.heap.size W wr)) (fun s5 _ => match s5 with | .slice _ m _ => k + 1 - m | _ => 0)
  case atStart => exact ⟨n, c1, A1, rfl, by omega, by omega, hide (by rw [Nat.sub_self]; simpa using HO.out), HB⟩
  case round =>
    clear HO HB
    obtain ⟨m, c, O, rfl, h1, h2, HO, HB⟩ := hrel
    have hW := HB.out.size
    by_cases hlt : m ≤ k
    · have hlt' : (m : Int) ≤ (k : Int) := by omega
      have HM := hide (Fl.more (D := D) h1)
      obtain ⟨L, hL⟩ : ∃ L, bv (D ++ List.replicate (m - n) 0) = L := ⟨_, rfl⟩
      rw [hL] at HO HM
      clear hL
      go_wp2_with (first | (at_builtin; refine wpList_append_rd rfl _ _ _ rfl byteTy (base := W.heap.size) rfl (HO.out.alloc (.cells #[.int .u8 0] 5)) rfl (Row.new wr (.int .u8 0) 5) (by simp [Value.oneCell']) (by unfold maxLen; omega) (by omega) (by simp; omega) ?_; intro A5 c5 w5 hown5 hg5 _; have HB5 := hide (below_own (HB.out.alloc hW _) (HO.out.alloc _) hg5 (by simp; omega)); rw [HM.out] at hown5; have HO5 := hide hown5; clear hown5 hg5) | fail)
      go_roundw
      case rel => exact ⟨m + 1, c5, A5, rfl, by omega, by omega, HO5, HB5⟩
      case measure => simp; omega
    · have hlt' : ¬ (m : Int) ≤ (k : Int) := by omega
      have HU := hide (Fl.upto_of hl h1 h2 (by omega))
      go_wp2_with fail
      go_ret
      exact ⟨O, m, c, rfl, by have := HO.out; rwa [HU.out] at this, HB.out⟩

set_option maxRecDepth 100000 in
set_option maxHeartbeats 4000000 in
theorem flWrite_no (o : Ob) (n : Int) (c : UInt8) (W : World) (hc : o.fwrite n ≠ 0) : Calls Try.prog 14 #[.agg (oc o), .int .i64 n, .int .u8 (c.toNat : Int)] W (PageNo (o.fwrite n) W) := by
  obtain ⟨w1, hw, O, OR, hb, hs⟩ := start_oz W o
  have HB := hide hb
  clear hb
  go_enter Try.func14, Try.ntmps14
  go_wp2_with (first | (refine load_ob rfl _ rfl rfl O ?_) | fail)
  refine (flCheck_any o n _).mono ?_
  rintro e w2 ⟨rfl, hb2⟩
  have OR2 := OR.below hb2 OR.lt
  have HF := hide (below_row (HB.out.trans (hb2.mono HB.out.size)) (g := W.heap.size + 1) (by omega) (oc Ob.zero))
  clear hb2 hw
  by_cases h0 : o.fcheck n = 0
  · have h1 : ¬ n < 4096 := fun h => hc (Ob.fwrite_ok h0 h)
    have HC : Hid (o.fwrite n = 9) := hide (by unfold Ob.fwrite; rw [if_pos h0, if_neg h1])
    rw [h0]
    clear hc h0
    go_wp2_with (first | (refine store_ob rfl _ _ rfl rfl (c := Ob.zero) rfl OR2 rfl ?_) | fail)
    refine bodyPost_ret (ret_ob2 rfl _ rfl (OR2.row_same _)) rfl ?_
    exact ⟨by rw [HC.out]; rfl, HF.out⟩
  · have HC : Hid (o.fwrite n = o.fcheck n) := hide (by unfold Ob.fwrite; rw [if_neg h0])
    obtain ⟨r, hr⟩ : ∃ r, o.fcheck n = r := ⟨_, rfl⟩
    rw [hr] at HC h0 ⊢
    have b0 : (r != 0) = true := by simpa using h0
    have b1 : (r == 0) = false := by simpa using h0
    clear hr hc h0
    go_wp2_with (first | (refine store_ob rfl _ _ rfl rfl (c := Ob.zero) rfl OR2 rfl ?_) | fail)
    refine bodyPost_ret (ret_ob2 rfl _ rfl (OR2.row_same _)) rfl ?_
    exact ⟨by rw [HC.out]; rfl, HF.out⟩

set_option maxRecDepth 100000 in
set_option maxHeartbeats 4000000 in
theorem flWrite_ok (o : Ob) (D : List UInt8) (k : Nat) (c : UInt8) (W : World) (hc : o.fwrite (k : Int) = 0) (hD : Bytes W W.heap.size o.data.A o.data.n D) : Calls Try.prog 14 #[.agg (oc o), .int .i64 (k : Int), .int .u8 (c.toNat : Int)] W (FileOk o.id (Fl.put D k c) W) := by
  obtain ⟨w1, hw, O, OR, hb, hs⟩ := start_oz W o
  obtain ⟨h0, h1⟩ := Ob.fwrite_0 hc
  obtain ⟨hp, -⟩ := Ob.fcheck_0 h0
  have hn := hp.2.2.1
  have hk : k < 4096 := by omega
  have HB := hide hb
  have HD := hide hD
  clear hb hD hp
  go_enter Try.func14, Try.ntmps14
  go_wp2_with (first | (refine load_ob rfl _ rfl rfl O ?_) | fail)
  refine (flCheck_any o _ _).mono ?_
  rintro e w2 ⟨rfl, hb2⟩
  rw [h0]
  have O2 := O.below hb2 O.lt
  have OR2 := OR.below hb2 OR.lt
  have HB2 := hide (HB.out.trans (hb2.mono HB.out.size))
  have hs2 : W.heap.size + 2 ≤ w2.heap.size := by have := hb2.size; omega
  have kid : w2.cell? ⟨W.heap.size, 0, none⟩ = some (.int .u64 o.id) := O2.cell 0
  clear hb2 HB O OR hw hs hc h0
  go_wp2_with fail
  refine (flNew_any o.id _).mono ?_
  rintro e w3 ⟨rfl, hb3⟩
  obtain ⟨w4, hw4, m, hm, w5, hw5, OZ, OM, hb5, hs5⟩ := laid_ob (Ob.file o.id ⟨none, 0, 0⟩) w3
  have hmW : W.heap.size + 2 ≤ m := by have := hb3.size; omega
  have O5 := (O2.below hb3 O2.lt).below hb5 (by omega)
  have OR5 := (OR2.below hb3 OR2.lt).below hb5 (by omega)
  have HB5 := hide (HB2.out.trans ((hb3.trans (hb5.mono hb3.size)).mono HB2.out.size))
  have hD5 := (HD.out.below HB5.out).mono HB5.out.size
  have kd : w5.cell? ⟨W.heap.size, 24, none⟩ = some (.slice o.data.A o.data.n o.data.c) := O5.cell 24
  clear hb3 hb5 O2 OR2 HB2 HD kid
  go_wp2_with (first | (refine store_ob rfl _ _ rfl rfl (c := Ob.file o.id ⟨none, 0, 0⟩) rfl OZ rfl ?_; rw [hw5]) | fail)
  refine (reaching_any D o.data.A o.data.n o.data.c k _ hD5 (by omega) (by omega)).mono ?_
  rintro e w6 ⟨A6, n6, c6, rfl, hown, hb6⟩
  have hn6 := own_bytes hown
  rw [Fl.upto_length] at hn6
  obtain ⟨g, rfl, hg, hg2⟩ := own_addr hown (by omega)
  have OM6 := OM.below hb6 OM.lt
  have OR6 := OR5.below hb6 OR5.lt
  have z24 := OM6.free 24
  have k24 : w6.cell? ⟨m, 24, none⟩ = some (.slice none 0 0) := OM6.cell 24
  have OM7 := OM6.put 24 (.slice (some ⟨g, 0, none⟩) n6 c6)
  rw [show (oc (Ob.file o.id ⟨none, 0, 0⟩)).setIfInBounds 24 (.slice (some ⟨g, 0, none⟩) n6 c6) = oc (Ob.file o.id ⟨some ⟨g, 0, none⟩, n6, c6⟩) from rfl] at OM7
  have OR7 := OR6.put_other (b' := m) (by omega) 24 (.slice (some ⟨g, 0, none⟩) n6 c6)
  have hown7 := own_keep hown (keep_put (m := m) (by omega) 24 (.slice (some ⟨g, 0, none⟩) n6 c6))
  have HB7 := hide ((HB5.out.trans (hb6.mono HB5.out.size)).setCell (p := ⟨m, 24, none⟩) (show W.heap.size ≤ m by omega) (.slice (some ⟨g, 0, none⟩) n6 c6))
  obtain ⟨w7, hw7⟩ : ∃ w7, w6.setCell ⟨m, 24, none⟩ (.slice (some ⟨g, 0, none⟩) n6 c6) = w7 := ⟨_, rfl⟩
  rw [hw7] at OM7 OR7 hown7 HB7
  have m24 : w7.cell? ⟨m, 24, none⟩ = some (.slice (some ⟨g, 0, none⟩) n6 c6) := OM7.cell 24
  have hkU : k < (Fl.upto D k).length := by rw [Fl.upto_length]; omega
  have zk := own_free hown7 k
  have ck := own_cell hown7 (bv_at hkU)
  have hown8 := own_set hown7 (i := k) (.int .u8 (c.toNat : Int))
  rw [bv_set] at hown8
  have OM8 := OM7.put_other (b' := g) (by omega) k (.int .u8 (c.toNat : Int))
  have OR8 := OR7.put_other (b' := g) (by omega) k (.int .u8 (c.toNat : Int))
  have HB8 := hide (HB7.out.setCell (p := ⟨g, k, none⟩) (show W.heap.size ≤ g by omega) (.int .u8 (c.toNat : Int)))
  obtain ⟨w8, hw8⟩ : ∃ w8, w7.setCell ⟨g, k, none⟩ (.int .u8 (c.toNat : Int)) = w8 := ⟨_, rfl⟩
  rw [hw8] at OM8 OR8 hown8 HB8
  have HO8 := hide (own_keep hown8 (keep_row (m := W.heap.size + 1) (by omega) (oc (Ob.file o.id ⟨some ⟨g, 0, none⟩, n6, c6⟩))))
  have hkn : (k : Int) < (n6 : Int) := by omega
  have hgm : m < g := by omega
  have hW5 : W.heap.size ≤ w5.heap.size := by omega
  generalize (Fl.upto D k)[k] = old at ck
  clear hown hown7 hown8 hb6 OM6 OR6 OM7 OR7 HB5 HB7 O5 OR5 OM hD5 kd hw5 hw4 hm hs5 OZ hkU
  go_wp2_with (first | (refine load_ob rfl _ rfl rfl OM8 ?_) | (refine store_ob rfl _ _ rfl rfl (c := Ob.file o.id ⟨some ⟨g, 0, none⟩, n6, c6⟩) rfl OR8 rfl ?_) | fail)
  refine bodyPost_ret (ret_ob2 rfl _ rfl (OR8.row_same _)) rfl ?_
  exact ⟨some ⟨g, 0, none⟩, n6, c6, rfl, own_weaken HO8.out (by omega), below_row HB8.out (by omega) _⟩
end Go.Proofs.Ytcgiobffobonpaa
