/- Layer 9: package names' isEntry: a contract (written by tools/mknxentry.py). | Layer 9: package names' areEntries: a contract (written by tools/mknxare.py). -/
import Derived.Test.YtejhnfeligifgaaDoorNxPath
import Derived.Test.YtejhnfeligifgaaDoorRegionX
import Derived.Test.YtejhnfeligifgaaDoorNmValid
namespace Go.Proofs.YtejhnfeligifgaaDoor
open Go.RowKit

/-- Where 0 is, or a number below 0. -/
def IdxIs (I : List Int) (w : World) (e : Ending) (w' : World) : Prop := ∃ r : Int, e = .returned (.int .i64 r) ∧ (0 ≤ r ↔ 0 ∈ I) ∧ w' = w
set_option maxRecDepth 100000 in
set_option maxHeartbeats 4000000 in
theorem nxIndex_any (A : Option Addr) (n c B : Nat) (I : List Int) (W : World) (hI : Nums .u64 W B A n I) (hn : n ≤ 9223372036854775807) : Calls Tryd.prog 91 #[.slice A n c, .int .u64 0] W (IdxIs I W) := by
  have hn' : (n : Int) ≤ 9223372036854775807 := by omega
  have hIl : I.length = n := hI.1
  have HX := hide (show ∀ k (h : k < I.length), I[k] = 0 → IdxIs I W (.returned (.int .i64 (k : Int))) W from fun k h h0 => ⟨_, rfl, ⟨fun _ => by rw [← h0]; exact List.getElem_mem h, fun _ => by omega⟩, rfl⟩)
  have HY := hide (show (∀ k (h : k < I.length), k < n → I[k] ≠ 0) → IdxIs I W (.returned (.int .i64 (-1))) W from fun h => ⟨_, rfl, ⟨fun h0 => absurd h0 (by decide), fun h0 => by
    obtain ⟨k, hk, h1⟩ := List.getElem_of_mem h0
    exact absurd h1 (h k hk (by omega))⟩, rfl⟩)
  have HI := hide hI
  clear hI hIl
  go_enter Tryd.func91, Tryd.ntmps91
  go_wp2_with fail
  go_loop [8] (fun s8 => ∃ k : Nat, s8 = .int .i64 (k : Int) ∧ k ≤ n ∧ Hid (∀ j (h : j < I.length), j < k → I[j] ≠ 0)) (fun s8 => n - (intOf s8).toNat)
  case atStart => exact ⟨0, rfl, by omega, hide (fun j _ h => by omega)⟩
  case round =>
    obtain ⟨k, rfl, hk, HK⟩ := hrel
    by_cases hlt : k < n
    · have hlt' : (k : Int) < (n : Int) := by omega
      obtain ⟨b1, f1, hl1, hA, hb1, c1⟩ := HI.out.at_ hlt
      have HA := hide hA
      have HX1 := hide (HX.out k hl1)
      have HK1 : Hid (I[k] ≠ 0 → ∀ j (h : j < I.length), j < k + 1 → I[j] ≠ 0) := hide (fun h0 j h h1 => by
        rcases Nat.lt_or_eq_of_le (Nat.le_of_lt_succ h1) with h3 | rfl
        · exact HK.out j h h3
        · exact h0)
      obtain ⟨v, hv0⟩ : ∃ v, I[k] = v := ⟨_, rfl⟩
      rw [hv0] at c1 HX1 HK1
      clear hv0 HX HY HK HI
      subst hA
      by_cases hv : v = 0
      · have HF := hide (HX1.out hv)
        clear HX1 HK1
        subst hv
        go_wp2_with fail
        go_ret
        exact HF.out
      · have hv' : (0 == v) = false := by simpa using fun h => hv h.symm
        have hv'' : (v == 0) = false := by simpa using hv
        have HF := hide (HK1.out hv)
        clear HX1 HK1
        go_wp2_with fail
        go_round
        case rel => exact ⟨k + 1, by go_num, by omega, HF⟩
        case measure => simp [intOf]; omega
    · obtain rfl : k = n := by omega
      have HF := hide (HY.out HK.out)
      clear HX HY HK HI
      go_wp2_with fail
      go_ret
      exact HF.out
set_option maxRecDepth 100000 in
set_option maxHeartbeats 4000000 in
theorem nxContains_any (A : Option Addr) (n c B : Nat) (I : List Int) (W : World) (hI : Nums .u64 W B A n I) (hn : n ≤ 9223372036854775807) : Calls Tryd.prog 80 #[.slice A n c, .int .u64 0] W (YesNo (decide (0 ∈ I)) W) := by
  have HI := hide (nxIndex_any A n c B I W hI hn)
  clear hI
  go_enter Tryd.func80, Tryd.ntmps80
  go_wp2_with (go_at_call 91; refine HI.out.mono ?_)
  rintro e w2 ⟨r, rfl, hr, hw2⟩
  rw [hw2]
  clear hw2
  by_cases h0 : 0 ≤ r
  · have HF := hide (YesNo.yes (hr.1 h0) W)
    clear hr HI
    go_wp2_with fail
    go_ret
    exact HF.out
  · have HF := hide (YesNo.no (fun h => h0 (hr.2 h)) W)
    have hd : decide (0 ≤ r) = false := decide_eq_false h0
    clear hr HI
    go_wp2_with fail
    go_ret
    exact HF.out
/-- How many identifiers an entry of a kind has at most. -/
def Nx.most (kd : Int) : Int := if kd = 3 ∨ kd = 6 ∨ kd = 8 ∨ kd = 9 then 1 else if kd = 2 then 16 else 0
theorem Nx.ok_iff (p : List UInt8) (kd : Int) (I : List Int) : Nx.Ent.Ok ⟨p, kd, I⟩ ↔ Nx.Path p ∧ 1 ≤ I.length ∧ (I.length : Int) ≤ Nx.most kd ∧ ¬ 0 ∈ I := by
  unfold Nx.Ent.Ok Nx.most
  simp only
  constructor
  · rintro ⟨h1, h2, h3⟩
    refine ⟨h3, by omega, ?_, fun h0 => h2 0 h0 rfl⟩
    split
    · omega
    · split <;> omega
  · rintro ⟨h1, h2, h3, h4⟩
    refine ⟨?_, fun x hx e => h4 (e ▸ hx), h1⟩
    split at h3
    · omega
    · split at h3 <;> omega
def MostIs (kd : Int) (w : World) (e : Ending) (w' : World) : Prop := e = .returned (.int .i64 (Nx.most kd)) ∧ w' = w
set_option maxRecDepth 100000 in
set_option maxHeartbeats 4000000 in
theorem nxMost_any (kd : Int) (W : World) : Calls Tryd.prog 79 #[.int .i64 kd] W (MostIs kd W) := by
  by_cases h3 : kd = 3
  · subst h3
    have HF : Hid (MostIs 3 W (.returned (.int .i64 1)) W) := hide ⟨rfl, rfl⟩
    go_enter Tryd.func79, Tryd.ntmps79
    go_wp2_with fail
    go_ret
    exact HF.out
  by_cases h6 : kd = 6
  · subst h6
    have HF : Hid (MostIs 6 W (.returned (.int .i64 1)) W) := hide ⟨rfl, rfl⟩
    go_enter Tryd.func79, Tryd.ntmps79
    go_wp2_with fail
    go_ret
    exact HF.out
  by_cases h8 : kd = 8
  · subst h8
    have HF : Hid (MostIs 8 W (.returned (.int .i64 1)) W) := hide ⟨rfl, rfl⟩
    go_enter Tryd.func79, Tryd.ntmps79
    go_wp2_with fail
    go_ret
    exact HF.out
  by_cases h9 : kd = 9
  · subst h9
    have HF : Hid (MostIs 9 W (.returned (.int .i64 1)) W) := hide ⟨rfl, rfl⟩
    go_enter Tryd.func79, Tryd.ntmps79
    go_wp2_with fail
    go_ret
    exact HF.out
  by_cases h2 : kd = 2
  · subst h2
    have HF : Hid (MostIs 2 W (.returned (.int .i64 16)) W) := hide ⟨rfl, rfl⟩
    go_enter Tryd.func79, Tryd.ntmps79
    go_wp2_with fail
    go_ret
    exact HF.out
  have HF : Hid (MostIs kd W (.returned (.int .i64 0)) W) := hide ⟨by rw [show Nx.most kd = 0 from by unfold Nx.most; rw [if_neg (by omega), if_neg (by omega)]], rfl⟩
  have b3 : (kd == 3) = false := by simpa using h3
  have b6 : (kd == 6) = false := by simpa using h6
  have b8 : (kd == 8) = false := by simpa using h8
  have b9 : (kd == 9) = false := by simpa using h9
  have b2 : (kd == 2) = false := by simpa using h2
  go_enter Tryd.func79, Tryd.ntmps79
  go_wp2_with fail
  go_ret
  exact HF.out
set_option maxRecDepth 100000 in
set_option maxHeartbeats 4000000 in
theorem nxEntry_any (x : Nm) (B : Nat) (I : List Int) (W : World) (hI : Nums .u64 W B x.ids.A x.ids.n I) (hB : B ≤ W.heap.size) (HM0 : Mx W) (hn : x.ids.n ≤ 9223372036854775807) (hp : x.path.length ≤ 9223372036854775807) : Calls Tryd.prog 51 #[nma x] W (BoolPost (decide (Nx.Ent.Ok ⟨x.path, x.kind, I⟩)) W) := by
  obtain ⟨path, kd, ids⟩ := x
  obtain ⟨A, n, c⟩ := ids
  simp only at hI hn hp
  obtain ⟨s, hs⟩ : ∃ s : ByteArray, s = ⟨path.toArray⟩ := ⟨_, rfl⟩
  have hsz : s.size ≤ 9223372036854775807 := by rw [hs, ba_size]; exact hp
  show Calls Tryd.prog 51 #[.agg #[.string ⟨path.toArray⟩, .int .i64 kd, .slice A n c]] W (BoolPost (decide (Nx.Ent.Ok ⟨path, kd, I⟩)) W)
  rw [← hs]
  obtain ⟨w1, hw, O, hb⟩ : ∃ w1, W.alloc (.cells #[.string s, .int .i64 kd, .slice A n c] 51) = w1 ∧ Obl w1 W.heap.size 51 #[.string s, .int .i64 kd, .slice A n c] ∧ Below W.heap.size W w1 := ⟨_, rfl, Obl.make W _ _, (Below.refl _ _).alloc (Nat.le_refl _) _⟩
  have HM := hide (HM0.below hb)
  have HB := hide hb
  have HI := hide (hI.belowLe hb hB)
  have k0 : w1.cell? ⟨W.heap.size, 0, none⟩ = some (.string s) := O.cell 0
  have k1 : w1.cell? ⟨W.heap.size, 1, none⟩ = some (.int .i64 kd) := O.cell 1
  have k2 : w1.cell? ⟨W.heap.size, 2, none⟩ = some (.slice A n c) := O.cell 2
  have hl := O.lt
  have hIl : I.length = n := hI.1
  have hpl : s.data.toList = path := by rw [hs]
  have HOK := hide (show Nx.Ent.Ok ⟨path, kd, I⟩ ↔ Nx.Path s.data.toList ∧ 1 ≤ n ∧ (n : Int) ≤ Nx.most kd ∧ ¬ 0 ∈ I from by rw [Nx.ok_iff, hIl, hpl])
  have HL := hide (show B ≤ w1.heap.size from Nat.le_trans hB hb.size)
  clear hb hI hs hp hIl hpl HM0 hB
  obtain ⟨mk, hmk⟩ : ∃ mk, Nx.most kd = mk := ⟨_, rfl⟩
  rw [hmk] at HOK
  have HMK := hide hmk
  clear hmk
  go_enter Tryd.func51, Tryd.ntmps51
  go_wp2_with fail
  refine region_B (by kernel_rfl) w1.heap.size ?_
  have hu : ∃ u, w1.drew = u ∧ u.cell? ⟨W.heap.size, 0, none⟩ = some (.string s) ∧ u.cell? ⟨W.heap.size, 1, none⟩ = some (.int .i64 kd) ∧ u.cell? ⟨W.heap.size, 2, none⟩ = some (.slice A n c) ∧ Hid (Below W.heap.size W u) ∧ Hid (Nums .u64 u B A n I) ∧ Hid (Mx u) ∧ u.heap.size = w1.heap.size :=
    ⟨_, rfl, k0, k1, k2, hide ⟨HB.out.os, HB.out.tape, HB.out.output, HB.out.size, HB.out.block⟩, HI, HM, rfl⟩
  obtain ⟨u, hu, i0, i1, i2, HB4, HI4, HM4, hus⟩ := hu
  rw [hu]
  rw [← hus] at hl HL ⊢
  clear hu k0 k1 k2 HB HI HM hus hw O
  refine takeB 0 rfl (by kernel_rfl) (fun _ _ _ h => h) (by rfl) (by intro w' hg; go_simp; try with_reducible rfl) ?_
  refine takeB 1 rfl (by kernel_rfl) (fun _ _ _ h => h) (by rfl) (by intro w' hg; have g1 := (hg.cell (p := ⟨W.heap.size, 0, none⟩) (by show W.heap.size < _; omega)).trans i0; go_simp; try with_reducible rfl) ?_
  refine onlyB 2 rfl (by kernel_rfl) (by rfl) ?_
  intro K hK
  go_simp
  refine (nxPath_any s _ HM4.out hsz).mono ?_
  rintro e u1 ⟨rfl, hb5⟩
  obtain ⟨bv, hbv⟩ : ∃ bv, decide (Nx.Path s.data.toList) = bv := ⟨_, rfl⟩
  rw [hbv]
  have H0 := hide hbv
  clear hbv
  have j1 := (hb5.cell (p := ⟨W.heap.size, 1, none⟩) (by show W.heap.size < _; omega)).trans i1
  have j2 := (hb5.cell (p := ⟨W.heap.size, 2, none⟩) (by show W.heap.size < _; omega)).trans i2
  have HB5 := hide (HB4.out.trans (hb5.mono HB4.out.size))
  have HI5 := hide (HI4.out.belowLe hb5 HL.out)
  have hl5 : W.heap.size < u1.heap.size := by have := hb5.size; omega
  refine hK _ _ hb5 ?_
  clear hK K hb5 i0 i1 i2 HB4 HI4 HM4
  cases bv with
  | false =>
    have HF : Hid (decide (Nx.Ent.Ok ⟨path, kd, I⟩) = false) := hide (decide_eq_false (fun hh => of_decide_eq_false H0.out (HOK.out.1 hh).1))
    clear HOK HMK
    refine takeB 3 rfl (by kernel_rfl) (fun _ _ _ h => h) (by rfl) (by intro w' hg; go_simp; try with_reducible rfl) ?_
    refine skipB 4 rfl (by kernel_rfl) (fun _ _ _ h => h) (by kernel_rfl) ?_
    refine skipB 5 rfl (by kernel_rfl) (fun _ _ _ h => h) (by kernel_rfl) ?_
    refine skipB 6 rfl (by kernel_rfl) (fun _ _ _ h => h) (by kernel_rfl) ?_
    refine skipB 7 rfl (by kernel_rfl) (fun _ _ _ h => h) (by kernel_rfl) ?_
    refine takeB 8 rfl (by kernel_rfl) (fun _ _ _ h => h) (by rfl) (by intro w' hg; go_simp; try with_reducible rfl) ?_
    refine takeB 9 rfl (by kernel_rfl) (fun _ _ _ h => h) (by rfl) (by intro w' hg; go_simp; try with_reducible rfl) ?_
    refine skipB 10 rfl (by kernel_rfl) (fun _ _ _ h => h) (by kernel_rfl) ?_
    refine skipB 11 rfl (by kernel_rfl) (fun _ _ _ h => h) (by kernel_rfl) ?_
    refine skipB 12 rfl (by kernel_rfl) (fun _ _ _ h => h) (by kernel_rfl) ?_
    refine skipB 13 rfl (by kernel_rfl) (fun _ _ _ h => h) (by kernel_rfl) ?_
    refine skipB 14 rfl (by kernel_rfl) (fun _ _ _ h => h) (by kernel_rfl) ?_
    refine skipB 15 rfl (by kernel_rfl) (fun _ _ _ h => h) (by kernel_rfl) ?_
    refine skipB 16 rfl (by kernel_rfl) (fun _ _ _ h => h) (by kernel_rfl) ?_
    refine takeB 17 rfl (by kernel_rfl) (fun _ _ _ h => h) (by rfl) (by intro w' hg; go_simp; try with_reducible rfl) ?_
    refine takeB 18 rfl (by kernel_rfl) (fun _ _ _ h => h) (by rfl) (by intro w' hg; go_simp; try with_reducible rfl) ?_
    refine skipB 19 rfl (by kernel_rfl) (fun _ _ _ h => h) (by kernel_rfl) ?_
    refine skipB 20 rfl (by kernel_rfl) (fun _ _ _ h => h) (by kernel_rfl) ?_
    refine skipB 21 rfl (by kernel_rfl) (fun _ _ _ h => h) (by kernel_rfl) ?_
    refine skipB 22 rfl (by kernel_rfl) (fun _ _ _ h => h) (by kernel_rfl) ?_
    refine takeB 23 rfl (by kernel_rfl) (fun _ _ _ h => h) (by rfl) (by intro w' hg; go_simp; try with_reducible rfl) ?_
    refine takeB 24 rfl (by kernel_rfl) (fun _ _ _ h => h) (by rfl) (by intro w' hg; go_simp; try with_reducible rfl) ?_
    refine doneB (by kernel_rfl) ?_
    go_simp
    go_wp2_with fail
    go_ret
    exact ⟨ret_bool HF.out.symm, HB5.out⟩
  | true =>
    refine takeB 3 rfl (by kernel_rfl) (fun _ _ _ h => h) (by rfl) (by intro w' hg; go_simp; try with_reducible rfl) ?_
    refine takeB 4 rfl (by kernel_rfl) (fun _ _ _ h => h) (by kernel_rfl) (by intro w' hg; go_simp; try with_reducible rfl) ?_
    refine takeB 5 rfl (by kernel_rfl) (fun _ _ _ h => h) (by kernel_rfl) (by intro w' hg; have g1 := (hg.cell (p := ⟨W.heap.size, 2, none⟩) (by show W.heap.size < _; omega)).trans j2; go_simp; try with_reducible rfl) ?_
    refine takeB 6 rfl (by kernel_rfl) (fun _ _ _ h => h) (by kernel_rfl) (by intro w' hg; go_simp; try with_reducible rfl) ?_
    by_cases h1 : 1 ≤ n
    case neg =>
      have HF : Hid (decide (Nx.Ent.Ok ⟨path, kd, I⟩) = false) := hide (decide_eq_false (fun hh => h1 (HOK.out.1 hh).2.1))
      have e1 : ¬ (1 : Int) ≤ (n : Int) := by omega
      have d1 : decide ((1 : Int) ≤ (n : Int)) = false := decide_eq_false e1
      clear HOK HMK h1
      refine takeB 7 rfl (by kernel_rfl) (fun _ _ _ h => h) (by kernel_rfl) (by intro w' hg; go_simp; try with_reducible rfl) ?_
      refine takeB 8 rfl (by kernel_rfl) (fun _ _ _ h => h) (by rfl) (by intro w' hg; go_simp; try with_reducible rfl) ?_
      refine takeB 9 rfl (by kernel_rfl) (fun _ _ _ h => h) (by rfl) (by intro w' hg; go_simp; try with_reducible rfl) ?_
      refine skipB 10 rfl (by kernel_rfl) (fun _ _ _ h => h) (by kernel_rfl) ?_
      refine skipB 11 rfl (by kernel_rfl) (fun _ _ _ h => h) (by kernel_rfl) ?_
      refine skipB 12 rfl (by kernel_rfl) (fun _ _ _ h => h) (by kernel_rfl) ?_
      refine skipB 13 rfl (by kernel_rfl) (fun _ _ _ h => h) (by kernel_rfl) ?_
      refine skipB 14 rfl (by kernel_rfl) (fun _ _ _ h => h) (by kernel_rfl) ?_
      refine skipB 15 rfl (by kernel_rfl) (fun _ _ _ h => h) (by kernel_rfl) ?_
      refine skipB 16 rfl (by kernel_rfl) (fun _ _ _ h => h) (by kernel_rfl) ?_
      refine takeB 17 rfl (by kernel_rfl) (fun _ _ _ h => h) (by rfl) (by intro w' hg; go_simp; try with_reducible rfl) ?_
      refine takeB 18 rfl (by kernel_rfl) (fun _ _ _ h => h) (by rfl) (by intro w' hg; go_simp; try with_reducible rfl) ?_
      refine skipB 19 rfl (by kernel_rfl) (fun _ _ _ h => h) (by kernel_rfl) ?_
      refine skipB 20 rfl (by kernel_rfl) (fun _ _ _ h => h) (by kernel_rfl) ?_
      refine skipB 21 rfl (by kernel_rfl) (fun _ _ _ h => h) (by kernel_rfl) ?_
      refine skipB 22 rfl (by kernel_rfl) (fun _ _ _ h => h) (by kernel_rfl) ?_
      refine takeB 23 rfl (by kernel_rfl) (fun _ _ _ h => h) (by rfl) (by intro w' hg; go_simp; try with_reducible rfl) ?_
      refine takeB 24 rfl (by kernel_rfl) (fun _ _ _ h => h) (by rfl) (by intro w' hg; go_simp; try with_reducible rfl) ?_
      refine doneB (by kernel_rfl) ?_
      go_simp
      go_wp2_with fail
      go_ret
      exact ⟨ret_bool HF.out.symm, HB5.out⟩
    have e1 : (1 : Int) ≤ (n : Int) := by omega
    have d1 : decide ((1 : Int) ≤ (n : Int)) = true := decide_eq_true e1
    have H1 := hide h1
    clear h1
    refine takeB 7 rfl (by kernel_rfl) (fun _ _ _ h => h) (by kernel_rfl) (by intro w' hg; go_simp; try with_reducible rfl) ?_
    refine takeB 8 rfl (by kernel_rfl) (fun _ _ _ h => h) (by rfl) (by intro w' hg; go_simp; try with_reducible rfl) ?_
    refine takeB 9 rfl (by kernel_rfl) (fun _ _ _ h => h) (by rfl) (by intro w' hg; go_simp; try with_reducible rfl) ?_
    refine takeB 10 rfl (by kernel_rfl) (fun _ _ _ h => h) (by kernel_rfl) (by intro w' hg; go_simp; try with_reducible rfl) ?_
    refine takeB 11 rfl (by kernel_rfl) (fun _ _ _ h => h) (by kernel_rfl) (by intro w' hg; have g1 := (hg.cell (p := ⟨W.heap.size, 2, none⟩) (by show W.heap.size < _; omega)).trans j2; go_simp; try with_reducible rfl) ?_
    refine takeB 12 rfl (by kernel_rfl) (fun _ _ _ h => h) (by kernel_rfl) (by intro w' hg; go_simp; try with_reducible rfl) ?_
    refine takeB 13 rfl (by kernel_rfl) (fun _ _ _ h => h) (by kernel_rfl) (by intro w' hg; go_simp; try with_reducible rfl) ?_
    refine takeB 14 rfl (by kernel_rfl) (fun _ _ _ h => h) (by kernel_rfl) (by intro w' hg; have g1 := (hg.cell (p := ⟨W.heap.size, 1, none⟩) (by show W.heap.size < _; omega)).trans j1; go_simp; try with_reducible rfl) ?_
    clear d1
    refine onlyB 15 rfl (by kernel_rfl) (by kernel_rfl) ?_
    intro K hK
    go_simp
    refine (nxMost_any kd _).mono ?_
    rintro e u2 ⟨rfl, q2⟩
    rw [q2, HMK.out]
    refine hK _ _ (Below.refl _ _) ?_
    clear hK K q2 u2 HMK
    by_cases h2 : (n : Int) ≤ mk
    case neg =>
      have HF : Hid (decide (Nx.Ent.Ok ⟨path, kd, I⟩) = false) := hide (decide_eq_false (fun hh => h2 (HOK.out.1 hh).2.2.1))
      have d2 : decide ((n : Int) ≤ mk) = false := decide_eq_false h2
      clear HOK
      refine takeB 16 rfl (by kernel_rfl) (fun _ _ _ h => h) (by kernel_rfl) (by intro w' hg; go_simp; try with_reducible rfl) ?_
      refine takeB 17 rfl (by kernel_rfl) (fun _ _ _ h => h) (by rfl) (by intro w' hg; go_simp; try with_reducible rfl) ?_
      refine takeB 18 rfl (by kernel_rfl) (fun _ _ _ h => h) (by rfl) (by intro w' hg; go_simp; try with_reducible rfl) ?_
      refine skipB 19 rfl (by kernel_rfl) (fun _ _ _ h => h) (by kernel_rfl) ?_
      refine skipB 20 rfl (by kernel_rfl) (fun _ _ _ h => h) (by kernel_rfl) ?_
      refine skipB 21 rfl (by kernel_rfl) (fun _ _ _ h => h) (by kernel_rfl) ?_
      refine skipB 22 rfl (by kernel_rfl) (fun _ _ _ h => h) (by kernel_rfl) ?_
      refine takeB 23 rfl (by kernel_rfl) (fun _ _ _ h => h) (by rfl) (by intro w' hg; go_simp; try with_reducible rfl) ?_
      refine takeB 24 rfl (by kernel_rfl) (fun _ _ _ h => h) (by rfl) (by intro w' hg; go_simp; try with_reducible rfl) ?_
      refine doneB (by kernel_rfl) ?_
      go_simp
      go_wp2_with fail
      go_ret
      exact ⟨ret_bool HF.out.symm, HB5.out⟩
    have d2 : decide ((n : Int) ≤ mk) = true := decide_eq_true h2
    refine takeB 16 rfl (by kernel_rfl) (fun _ _ _ h => h) (by kernel_rfl) (by intro w' hg; go_simp; try with_reducible rfl) ?_
    refine takeB 17 rfl (by kernel_rfl) (fun _ _ _ h => h) (by rfl) (by intro w' hg; go_simp; try with_reducible rfl) ?_
    refine takeB 18 rfl (by kernel_rfl) (fun _ _ _ h => h) (by rfl) (by intro w' hg; go_simp; try with_reducible rfl) ?_
    refine takeB 19 rfl (by kernel_rfl) (fun _ _ _ h => h) (by kernel_rfl) (by intro w' hg; go_simp; try with_reducible rfl) ?_
    refine takeB 20 rfl (by kernel_rfl) (fun _ _ _ h => h) (by kernel_rfl) (by intro w' hg; have g1 := (hg.cell (p := ⟨W.heap.size, 2, none⟩) (by show W.heap.size < _; omega)).trans j2; go_simp; try with_reducible rfl) ?_
    refine onlyB 21 rfl (by kernel_rfl) (by kernel_rfl) ?_
    intro K hK
    go_simp
    refine (nxContains_any A n c B I _ HI5.out hn).mono ?_
    rintro e u2 ⟨rfl, q2⟩
    rw [q2]
    refine hK _ _ (Below.refl _ _) ?_
    clear hK K q2 u2
    have HF : Hid (decide (Nx.Ent.Ok ⟨path, kd, I⟩) = !decide (0 ∈ I)) := hide (by
      by_cases h3 : 0 ∈ I
      · rw [decide_eq_true h3, decide_eq_false (fun hh => (HOK.out.1 hh).2.2.2 h3)]; rfl
      · rw [decide_eq_false h3, decide_eq_true (HOK.out.2 ⟨of_decide_eq_true H0.out, H1.out, h2, h3⟩)]; rfl)
    clear HOK H1
    generalize decide (0 ∈ I) = cb at *
    cases cb with
    | false =>
      refine takeB 22 rfl (by kernel_rfl) (fun _ _ _ h => h) (by kernel_rfl) (by intro w' hg; go_simp; try with_reducible rfl) ?_
      refine takeB 23 rfl (by kernel_rfl) (fun _ _ _ h => h) (by rfl) (by intro w' hg; go_simp; try with_reducible rfl) ?_
      refine takeB 24 rfl (by kernel_rfl) (fun _ _ _ h => h) (by rfl) (by intro w' hg; go_simp; try with_reducible rfl) ?_
      refine doneB (by kernel_rfl) ?_
      go_simp
      go_wp2_with fail
      go_ret
      exact ⟨ret_bool HF.out.symm, HB5.out⟩
    | true =>
      refine takeB 22 rfl (by kernel_rfl) (fun _ _ _ h => h) (by kernel_rfl) (by intro w' hg; go_simp; try with_reducible rfl) ?_
      refine takeB 23 rfl (by kernel_rfl) (fun _ _ _ h => h) (by rfl) (by intro w' hg; go_simp; try with_reducible rfl) ?_
      refine takeB 24 rfl (by kernel_rfl) (fun _ _ _ h => h) (by rfl) (by intro w' hg; go_simp; try with_reducible rfl) ?_
      refine doneB (by kernel_rfl) ?_
      go_simp
      go_wp2_with fail
      go_ret
      exact ⟨ret_bool HF.out.symm, HB5.out⟩
end Go.Proofs.YtejhnfeligifgaaDoor
namespace Go.Proofs.YtejhnfeligifgaaDoor
open Go.RowKit

set_option maxRecDepth 100000 in
set_option maxHeartbeats 8000000 in
theorem nxAre_any (A : Option Addr) (n c : Nat) (l : List Nm) (E : List Nx.Ent) (W : World) (hl0 : Ents W W.heap.size A n l E) (hs : Short l) (HM0 : Mx W) (hn' : n ≤ 1000) : Calls Tryd.prog 44 #[.slice A n c] W (BoolPost (decide (Nx.Space E)) W) := by
  have hl := hl0.nms
  have HEN := hide hl0
  have HNO := hide (show ∀ w, Below W.heap.size W w → ¬ Nx.Space E → BoolPost (decide (Nx.Space E)) W (.returned (.bool false)) w from fun w hb h => ⟨by rw [decide_eq_false h], hb⟩)
  have HE1 : Hid (E.length = n) := hide hl0.len
  have HL := hide hl
  have HS := hide hs
  have HM := hide HM0
  have hb : Below W.heap.size W W := Below.refl _ _
  have HB := hide hb
  have hn2 : (n : Int) ≤ 1000 := by omega
  clear hb hl hs hl0 HM0
  by_cases hn0 : n = 0
  case pos =>
    subst hn0
    have HV := hide (decide_eq_true (show Nx.Space E from ⟨fun i hi => by have := HE1.out; omega, fun i hi => by have := HE1.out; omega⟩))
    clear HNO
    go_enter Tryd.func44, Tryd.ntmps44
    go_wp2_with fail
    go_loop [7] (fun s7 => s7 = .int .i64 0) (fun _ => 0)
    case atStart => rfl
    case round =>
      subst hrel
      go_wp2_with fail
      go_ret
      exact ⟨ret_bool HV.out.symm, HB.out⟩
  obtain ⟨b1, f1, _, hA, _⟩ := HL.out.at_ (i := 0) (by omega)
  have HA := hide hA
  clear hA
  rw [HA.out]
  go_enter Tryd.func44, Tryd.ntmps44
  go_wp2_with fail
  go_loopw [7] (fun s7 wr => ∃ k : Nat, s7 = .int .i64 (k : Int) ∧ k ≤ n ∧ Hid (Nx.Upto E k) ∧ Hid (Below W.heap.size W wr)) (fun s7 _ => n - (intOf s7).toNat)
  case atStart => exact ⟨0, rfl, by omega, hide (Nx.upto_zero E), HB⟩
  case round =>
    clear HB
    obtain ⟨k, rfl, hk, HK, HB⟩ := hrel
    by_cases hlt : k < n
    · have hlt' : (k : Int) < (n : Int) := by omega
      have hLr := HL.out.below HB.out
      rw [HA.out] at hLr
      have hEr := HEN.out.below HB.out
      rw [HA.out] at hEr
      obtain ⟨b1', f1', hkl, hA, hb1, c0, c1, c2, _, _⟩ := hLr.at_ hlt
      simp only [Option.some.injEq, Addr.mk.injEq, and_true] at hA
      obtain ⟨rfl, rfl⟩ := hA
      obtain ⟨hx1, hx2⟩ := HS.out _ (List.getElem_mem hkl)
      obtain ⟨_, hkE, hent, hIE⟩ := hEr.ent hlt
      have HPT : Hid (l[k].path = E[k].path) := hide (hEr.2.2 k hkl hkE).1
      obtain ⟨II, hIIe⟩ : ∃ II, E[k].ids = II := ⟨_, rfl⟩
      rw [hIIe] at hent hIE
      have hII := hIE
      have HENT := hide hent
      clear hIIe hIE hent
      have hprev : 0 < k → ∃ p : ByteArray, (∀ q, k = q + 1 → ∀ hq : q < E.length, p = ⟨E[q].path.toArray⟩) ∧ wr.cell? ⟨b1, f1 + (k - 1) * 3, none⟩ = some (.string p) := fun h0 => by
        obtain ⟨b2, f2, hkl2, hA2, _, d0, _⟩ := hLr.at_ (i := k - 1) (by omega)
        simp only [Option.some.injEq, Addr.mk.injEq, and_true] at hA2
        obtain ⟨rfl, rfl⟩ := hA2
        have hpe := (hEr.2.2 (k - 1) hkl2 (by have := HE1.out; omega)).1
        exact ⟨_, fun q hq hqE => by have e : k - 1 = q := by omega
                                     subst e
                                     rw [hpe], d0⟩
      have HP := hide hprev
      generalize l[k] = x at *
      have hWr := HB.out.size
      obtain ⟨w2, hw2, g, hg, w3, hw3, OZ, ON, hb3, hs3⟩ := start_nm wr x
      have hgW : W.heap.size ≤ g := by omega
      have HB3 := hide (HB.out.trans (hb3.mono hgW))
      have HI3 := hide (hII.below (hb3.mono hgW))
      have jp : 0 < k → ∃ p : ByteArray, (∀ q, k = q + 1 → ∀ hq : q < E.length, p = ⟨E[q].path.toArray⟩) ∧ w3.cell? ⟨b1, f1 + (k - 1) * 3, none⟩ = some (.string p) := fun h0 => (HP.out h0).imp fun p hp => ⟨hp.1, (hb3.cell (p := ⟨b1, f1 + (k - 1) * 3, none⟩) (by show b1 < g; omega)).trans hp.2⟩
      have HJ := hide jp
      have hx := hide (show x.path.length ≤ 9223372036854775807 ∧ x.ids.n ≤ 9223372036854775807 from ⟨by omega, by omega⟩)
      have hgl : g < w3.heap.size := by omega
      clear hLr hEr hb3 HP hprev jp HB hx1 hx2 hs3 hII
      go_wp2_with (first | (refine wpList_val (by rfl) (exec_load_nmid rfl rfl c0 c1 c2) ?_) | (refine store_nm rfl _ _ rfl rfl (c := x) rfl OZ rfl ?_; rw [hw3]) | fail)
      clear OZ hw3 hw2 hg c0 c1 c2
      refine region_B (by kernel_rfl) w3.heap.size ?_
      have hu : ∃ u, w3.drew = u ∧ Obl u g 51 (nc x) ∧ Hid (Below W.heap.size W u) ∧ Hid (Nums .u64 u W.heap.size x.ids.A x.ids.n II) ∧ Hid (0 < k → ∃ p : ByteArray, (∀ q, k = q + 1 → ∀ hq : q < E.length, p = ⟨E[q].path.toArray⟩) ∧ u.cell? ⟨b1, f1 + (k - 1) * 3, none⟩ = some (.string p)) ∧ u.heap.size = w3.heap.size :=
        ⟨_, rfl, ON, hide ⟨HB3.out.os, HB3.out.tape, HB3.out.output, HB3.out.size, HB3.out.block⟩, HI3, HJ, rfl⟩
      obtain ⟨u, hu, ON4, HB4, HI4, HJ4, hus⟩ := hu
      rw [hu]
      rw [← hus] at hgl ⊢
      have HM4 := hide (HM.out.below HB4.out)
      have hWu := HB4.out.size
      clear hu ON HB3 HI3 HJ hus
      refine takeB 0 rfl (by kernel_rfl) (fun _ _ _ h => h) (by rfl) (by intro w' hg; exact exec_load_nm rfl rfl (ON4.below hg hgl)) ?_
      refine onlyB 1 rfl (by kernel_rfl) (by rfl) ?_
      intro K hK
      go_simp
      refine (nxEntry_any x W.heap.size II _ HI4.out (by omega) HM4.out hx.out.2 hx.out.1).mono ?_
      rintro e u1 ⟨rfl, hb5⟩
      rw [HENT.out]
      obtain ⟨bv, hbv⟩ : ∃ bv, decide (E[k].Ok) = bv := ⟨_, rfl⟩
      rw [hbv]
      have HBV := hide hbv
      clear hbv
      have ON5 := ON4.below hb5 hgl
      have HB5 := hide (HB4.out.trans (hb5.mono HB4.out.size))
      have HJ5 : Hid (0 < k → ∃ p : ByteArray, (∀ q, k = q + 1 → ∀ hq : q < E.length, p = ⟨E[q].path.toArray⟩) ∧ u1.cell? ⟨b1, f1 + (k - 1) * 3, none⟩ = some (.string p)) := hide (fun h0 => (HJ4.out h0).imp fun p hp => ⟨hp.1, (hb5.cell (p := ⟨b1, f1 + (k - 1) * 3, none⟩) (by show b1 < _; omega)).trans hp.2⟩)
      have hgl5 : g < u1.heap.size := by have := hb5.size; omega
      have hs5 := hb5.size
      have c5 : u1.cell? ⟨g, 0, none⟩ = some (.string ⟨x.path.toArray⟩) := ON5.cell 0
      refine hK _ _ hb5 ?_
      clear hK K hb5 ON4 HB4 HI4 HJ4 HM4
      cases bv with
      | false =>
        have HF := hide (HNO.out _ HB5.out (fun h => of_decide_eq_false HBV.out (h.1 k hkE)))
        clear HNO HBV HK
        refine takeB 2 rfl (by kernel_rfl) (fun _ _ _ h => h) (by rfl) (by intro w' hg; go_simp; try with_reducible rfl) ?_
        refine takeB 3 rfl (by kernel_rfl) (fun _ _ _ h => h) (by rfl) (by intro w' hg; go_simp; try with_reducible rfl) ?_
        refine skipB 4 rfl (by kernel_rfl) (fun _ _ _ h => h) (by kernel_rfl) ?_
        refine skipB 5 rfl (by kernel_rfl) (fun _ _ _ h => h) (by kernel_rfl) ?_
        refine skipB 6 rfl (by kernel_rfl) (fun _ _ _ h => h) (by kernel_rfl) ?_
        refine skipB 7 rfl (by kernel_rfl) (fun _ _ _ h => h) (by kernel_rfl) ?_
        refine skipB 8 rfl (by kernel_rfl) (fun _ _ _ h => h) (by kernel_rfl) ?_
        refine skipB 9 rfl (by kernel_rfl) (fun _ _ _ h => h) (by kernel_rfl) ?_
        refine skipB 10 rfl (by kernel_rfl) (fun _ _ _ h => h) (by kernel_rfl) ?_
        refine skipB 11 rfl (by kernel_rfl) (fun _ _ _ h => h) (by kernel_rfl) ?_
        refine skipB 12 rfl (by kernel_rfl) (fun _ _ _ h => h) (by kernel_rfl) ?_
        refine skipB 13 rfl (by kernel_rfl) (fun _ _ _ h => h) (by kernel_rfl) ?_
        refine skipB 14 rfl (by kernel_rfl) (fun _ _ _ h => h) (by kernel_rfl) ?_
        refine skipB 15 rfl (by kernel_rfl) (fun _ _ _ h => h) (by kernel_rfl) ?_
        refine skipB 16 rfl (by kernel_rfl) (fun _ _ _ h => h) (by kernel_rfl) ?_
        refine takeB 17 rfl (by kernel_rfl) (fun _ _ _ h => h) (by rfl) (by intro w' hg; go_simp; try with_reducible rfl) ?_
        refine doneB (by kernel_rfl) ?_
        go_simp
        go_wp2_with fail
        go_ret
        exact HF.out
      | true =>
        have hok := of_decide_eq_true HBV.out
        by_cases hk0 : k = 0
        · subst hk0
          have HF := hide (Nx.upto_one hkE hok)
          clear hok HBV HK HPT HENT
          refine takeB 2 rfl (by kernel_rfl) (fun _ _ _ h => h) (by rfl) (by intro w' hg; go_simp; try with_reducible rfl) ?_
          refine takeB 3 rfl (by kernel_rfl) (fun _ _ _ h => h) (by rfl) (by intro w' hg; go_simp; try with_reducible rfl) ?_
          refine takeB 4 rfl (by kernel_rfl) (fun _ _ _ h => h) (by kernel_rfl) (by intro w' hg; go_simp; try with_reducible rfl) ?_
          refine takeB 5 rfl (by kernel_rfl) (fun _ _ _ h => h) (by kernel_rfl) (by intro w' hg; go_simp; try with_reducible rfl) ?_
          refine takeB 6 rfl (by kernel_rfl) (fun _ _ _ h => h) (by kernel_rfl) (by intro w' hg; go_simp; try with_reducible rfl) ?_
          refine skipB 7 rfl (by kernel_rfl) (fun _ _ _ h => h) (by kernel_rfl) ?_
          refine skipB 8 rfl (by kernel_rfl) (fun _ _ _ h => h) (by kernel_rfl) ?_
          refine skipB 9 rfl (by kernel_rfl) (fun _ _ _ h => h) (by kernel_rfl) ?_
          refine skipB 10 rfl (by kernel_rfl) (fun _ _ _ h => h) (by kernel_rfl) ?_
          refine skipB 11 rfl (by kernel_rfl) (fun _ _ _ h => h) (by kernel_rfl) ?_
          refine skipB 12 rfl (by kernel_rfl) (fun _ _ _ h => h) (by kernel_rfl) ?_
          refine skipB 13 rfl (by kernel_rfl) (fun _ _ _ h => h) (by kernel_rfl) ?_
          refine skipB 14 rfl (by kernel_rfl) (fun _ _ _ h => h) (by kernel_rfl) ?_
          refine skipB 15 rfl (by kernel_rfl) (fun _ _ _ h => h) (by kernel_rfl) ?_
          refine takeB 16 rfl (by kernel_rfl) (fun _ _ _ h => h) (by kernel_rfl) (by intro w' hg; go_simp; try with_reducible rfl) ?_
          refine takeB 17 rfl (by kernel_rfl) (fun _ _ _ h => h) (by rfl) (by intro w' hg; go_simp; try with_reducible rfl) ?_
          refine doneB (by kernel_rfl) ?_
          go_simp
          go_wp2_with fail
          go_roundw
          case rel => exact ⟨1, by go_num, by omega, HF, HB5⟩
          case measure => simp [intOf]; omega
        · obtain ⟨p, hpE, hp⟩ := HJ5.out (by omega)
          have hkp : (0 : Int) < (k : Int) := by omega
          obtain ⟨q, rfl⟩ : ∃ q, k = q + 1 := ⟨k - 1, by omega⟩
          rw [Nat.add_sub_cancel] at hp
          have hpq := hpE q rfl (by omega)
          have hqn : q < n := by omega
          have hqn' : (q : Int) < (n : Int) := by omega
          obtain ⟨sx, hsx⟩ : ∃ sx : ByteArray, (⟨x.path.toArray⟩ : ByteArray) = sx := ⟨_, rfl⟩
          rw [hsx] at c5
          have HLT := hide (show Op.bytesLess p.toList sx.toList = true ↔ Nx.Lt E[q].path E[q + 1].path by
            rw [hpq, ← hsx, Lib.toList_data, Lib.toList_data, HPT.out]
            exact Iff.rfl)
          clear hsx hpE hpq
          obtain ⟨gb, hgb⟩ : ∃ gb : Bool, Op.bytesLess p.toList sx.toList = gb := ⟨_, rfl⟩
          have hcast : ((q + 1 : Nat) : Int) - 1 = (q : Int) := by omega
          have hwr : IntKind.i64.wrap (q : Int) = (q : Int) := IntWalk.i64_in _ (by omega)
          have hq0 : (0 : Int) ≤ (q : Int) := by omega
          refine takeB 2 rfl (by kernel_rfl) (fun _ _ _ h => h) (by rfl) (by intro w' hg; go_simp; try with_reducible rfl) ?_
          refine takeB 3 rfl (by kernel_rfl) (fun _ _ _ h => h) (by rfl) (by intro w' hg; go_simp; try with_reducible rfl) ?_
          refine takeB 4 rfl (by kernel_rfl) (fun _ _ _ h => h) (by kernel_rfl) (by intro w' hg; go_simp; try with_reducible rfl) ?_
          refine takeB 5 rfl (by kernel_rfl) (fun _ _ _ h => h) (by kernel_rfl) (by intro w' hg; go_simp; try with_reducible rfl) ?_
          refine takeB 6 rfl (by kernel_rfl) (fun _ _ _ h => h) (by kernel_rfl) (by intro w' hg; go_simp; try with_reducible rfl) ?_
          refine takeB 7 rfl (by kernel_rfl) (fun _ _ _ h => h) (by kernel_rfl) (by intro w' hg; go_simp; try with_reducible rfl) ?_
          refine takeB 8 rfl (by kernel_rfl) (fun _ _ _ h => h) (by kernel_rfl) (by intro w' hg; go_simp; try with_reducible rfl) ?_
          refine takeB 9 rfl (by kernel_rfl) (fun _ _ _ h => h) (by kernel_rfl) (by intro w' hg; go_simp; try with_reducible rfl) ?_
          refine takeB 10 rfl (by kernel_rfl) (fun _ _ _ h => h) (by kernel_rfl) (by intro w' hg; go_simp; try with_reducible rfl) ?_
          refine takeB 11 rfl (by kernel_rfl) (fun _ _ _ h => h) (by kernel_rfl) (by intro w' hg; go_simp; try with_reducible rfl) ?_
          refine takeB 12 rfl (by kernel_rfl) (fun _ _ _ h => h) (by kernel_rfl) (by intro w' hg; have g1 := (hg.cell (p := ⟨b1, f1 + q * 3, none⟩) (by show b1 < _; omega)).trans hp; go_simp; try with_reducible rfl) ?_
          refine takeB 13 rfl (by kernel_rfl) (fun _ _ _ h => h) (by kernel_rfl) (by intro w' hg; go_simp; try with_reducible rfl) ?_
          refine takeB 14 rfl (by kernel_rfl) (fun _ _ _ h => h) (by kernel_rfl) (by intro w' hg; have g1 := (hg.cell (p := ⟨g, 0, none⟩) (by show g < _; omega)).trans c5; go_simp; try with_reducible rfl) ?_
          clear hcast hwr
          have HFT := hide (fun h : Op.bytesLess p.toList sx.toList = true => Nx.upto_succ HK.out hkE hok (HLT.out.1 h))
          have HFF := hide (fun h : Op.bytesLess p.toList sx.toList = false => HNO.out _ HB5.out (fun hn => by have h2 := HLT.out.2 (hn.2 q hkE); rw [h] at h2; cases h2))
          clear hok HBV HK HPT HENT HLT
          have hq256 : (q : Int) + 2 ≤ 1001 := by omega
          cases gb with
          | true =>
            have HF := hide (HFT.out hgb)
            clear HFT HFF
            refine takeB 15 rfl (by kernel_rfl) (fun _ _ _ h => h) (by kernel_rfl) (by intro w' hg; go_simp; try with_reducible rfl) ?_
            refine takeB 16 rfl (by kernel_rfl) (fun _ _ _ h => h) (by kernel_rfl) (by intro w' hg; go_simp; try with_reducible rfl) ?_
            refine takeB 17 rfl (by kernel_rfl) (fun _ _ _ h => h) (by rfl) (by intro w' hg; go_simp; try with_reducible rfl) ?_
            refine doneB (by kernel_rfl) ?_
            go_simp
            go_wp2_with fail
            go_roundw
            case rel => exact ⟨q + 1 + 1, by go_num, by omega, HF, HB5⟩
            case measure => simp [intOf]; omega
          | false =>
            have HF := hide (HFF.out hgb)
            clear HFT HFF
            refine takeB 15 rfl (by kernel_rfl) (fun _ _ _ h => h) (by kernel_rfl) (by intro w' hg; go_simp; try with_reducible rfl) ?_
            refine takeB 16 rfl (by kernel_rfl) (fun _ _ _ h => h) (by kernel_rfl) (by intro w' hg; go_simp; try with_reducible rfl) ?_
            refine takeB 17 rfl (by kernel_rfl) (fun _ _ _ h => h) (by rfl) (by intro w' hg; go_simp; try with_reducible rfl) ?_
            refine doneB (by kernel_rfl) ?_
            go_simp
            go_wp2_with fail
            go_ret
            exact HF.out
    · obtain rfl : k = n := by omega
      have HV := hide (decide_eq_true (Nx.upto_all (by rw [HE1.out]; exact HK.out)))
      clear HNO
      go_wp2_with fail
      go_ret
      exact ⟨ret_bool HV.out.symm, HB.out⟩
end Go.Proofs.YtejhnfeligifgaaDoor
