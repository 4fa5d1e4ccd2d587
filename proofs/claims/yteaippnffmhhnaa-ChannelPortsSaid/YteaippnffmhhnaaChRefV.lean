/- The reference of ports and channels: which objects are ports, which channels (written by tools/mkchrefv.py). -/
import Derived.Test.YteaippnffmhhnaaPgBare
import Derived.Test.YteaippnffmhhnaaChIds
import Derived.Test.YteaippnffmhhnaaChValid
import Derived.Test.YteaippnffmhhnaaQMem
namespace Go.Proofs.Yteaippnffmhhnaa
open Go.RowKit

/-- The first k ends and queues are right. -/
def Ob.ChUpto (o : Ob) (k : Nat) : Prop := (0 < k → IsCount o.e0 ∧ o.q0.n ≤ 64) ∧ (1 < k → IsCount o.e1 ∧ o.q1.n ≤ 64)
instance (o : Ob) (k : Nat) : Decidable (o.ChUpto k) := by unfold Ob.ChUpto; infer_instance
theorem upto_start (o : Ob) : o.ChUpto 0 := ⟨fun h => by omega, fun h => by omega⟩
theorem upto_0 (o : Ob) : o.ChUpto (0 + 1) ↔ o.ChUpto 0 ∧ IsCount o.e0 ∧ o.q0.n ≤ 64 :=
  ⟨fun h => ⟨upto_start o, h.1 (by omega)⟩, fun h => ⟨fun _ => h.2, fun h => by omega⟩⟩
theorem upto_1 (o : Ob) : o.ChUpto (1 + 1) ↔ o.ChUpto 1 ∧ IsCount o.e1 ∧ o.q1.n ≤ 64 :=
  ⟨fun h => ⟨⟨fun _ => h.1 (by omega), fun h => by omega⟩, h.2 (by omega)⟩, fun h => ⟨fun _ => h.1.1 (by omega), fun _ => h.2⟩⟩
theorem chan_sum (o : Ob) (s : Int) (hs : IntKind.i64.wrap (o.e0 + o.e1) = s) : o.Chan ↔ ((o.kind = 7 ∧ o.id ≠ 0 ∧ 0 < s) ∧ o.ChUpto 2) ∧ o.ChOthers := by
  subst hs
  rw [IntKind.wrap_i64]
  simp only [Ob.Chan, Ob.ChEnds, Ob.ChUpto, IsCount]
  constructor
  · rintro ⟨h1, h2, ⟨h3, h4, h5, h6, h7⟩, h8, h9, h10⟩
    exact ⟨⟨⟨h1, h2, by omega⟩, fun _ => ⟨⟨h3, h4⟩, h8⟩, fun _ => ⟨⟨h5, h6⟩, h9⟩⟩, h10⟩
  · rintro ⟨⟨⟨h1, h2, h7⟩, h3, h4⟩, h10⟩
    have h3 := h3 (by omega)
    have h4 := h4 (by omega)
    exact ⟨h1, h2, ⟨h3.1.1, h3.1.2, h4.1.1, h4.1.2, by omega⟩, h3.2, h4.2, h10⟩
set_option maxRecDepth 100000 in
set_option maxHeartbeats 4000000 in
theorem refValidPort_any (o : Ob) (W : World) (I : List Int) (h : Nums .u64 W W.heap.size o.backlog.A o.backlog.n I) (hc : o.backlog.n ≤ o.backlog.c) (hn : o.backlog.n ≤ 9223372036854775807) : Calls Try.prog 19 #[.agg (oc o)] W (BoolPost (decide (o.Port I)) W) := by
  obtain ⟨w1, hw, O, hb⟩ : ∃ w1, W.alloc (.cells (oc o) 41) = w1 ∧ Obl w1 W.heap.size 41 (oc o) ∧ Below W.heap.size W w1 := ⟨_, rfl, Obl.make W _ _, (Below.refl _ _).alloc (Nat.le_refl _) _⟩
  have HB := hide hb
  clear hb
  have HI := hide ((h.below HB.out).mono HB.out.size)
  have hl := h.len
  clear h
  have k0 : w1.cell? ⟨W.heap.size, 0, none⟩ = some (.int .u64 o.id) := O.cell 0
  have k1 : w1.cell? ⟨W.heap.size, 1, none⟩ = some (.int .i64 o.kind) := O.cell 1
  have k2 : w1.cell? ⟨W.heap.size, 2, none⟩ = some (.int .i64 o.refs) := O.cell 2
  have k29 : w1.cell? ⟨W.heap.size, 29, none⟩ = some (.slice o.backlog.A o.backlog.n o.backlog.c) := O.cell 29
  have z2 := O.free 2
  have R2 := O.put 2 (.int .i64 0)
  obtain ⟨w2, hw2⟩ : ∃ w2, w1.setCell ⟨W.heap.size, 2, none⟩ (.int .i64 0) = w2 := ⟨_, rfl⟩
  rw [hw2] at R2
  have z29 := R2.free 29
  have y29 : w2.cell? ⟨W.heap.size, 29, none⟩ = some (.slice o.backlog.A o.backlog.n o.backlog.c) := R2.cell 29
  have R3 := R2.put 29 (.slice none 0 0)
  obtain ⟨w3, hw3⟩ : ∃ w3, w2.setCell ⟨W.heap.size, 29, none⟩ (.slice none 0 0) = w3 := ⟨_, rfl⟩
  rw [hw3] at R3
  have HR : Hid (Obl w3 W.heap.size 41 (oc o.unport)) := hide R3
  have HB3 := hide ((HB.out.setCell (p := ⟨W.heap.size, 2, none⟩) (Nat.le_refl _) (.int .i64 0)))
  rw [hw2] at HB3
  replace HB3 := hide (HB3.out.setCell (p := ⟨W.heap.size, 29, none⟩) (Nat.le_refl _) (.slice none 0 0))
  rw [hw3] at HB3
  clear R2 R3
  obtain ⟨A, hA⟩ : ∃ A, o.backlog.A = A := ⟨_, rfl⟩
  rw [hA] at k29 y29 HI
  clear hA
  go_enter Try.func19, Try.ntmps19
  try dsimp only [List.append]
  go_upto_region 1 with (fail)
  clear hw
  refine wp_region_lit ?_
  refine wpList_val rfl (by go_simp; try with_reducible rfl) ?_
  refine wpList_val rfl (by go_simp; try with_reducible rfl) ?_
  refine wpList_val rfl (by go_simp; try with_reducible rfl) ?_
  refine wpList_val rfl (by go_simp; try with_reducible rfl) ?_
  go_simp
  generalize hd0 : (o.kind == 6) = d0
  have HD0 := hide hd0
  clear hd0
  refine wpList_if 3 d0 rfl (by kernel_rfl) (by intro hg; go_simp; try with_reducible rfl) ?_
  intro u10 hu10
  refine wpList_if 3 d0 rfl (by kernel_rfl) (by intro hg; obtain rfl := hu10 hg; go_simp; try with_reducible rfl) ?_
  intro u11 hu11
  refine wpList_if 3 d0 rfl (by kernel_rfl) (by intro hg; obtain rfl := hu11 hg; go_simp; try with_reducible rfl) ?_
  intro u12 hu12
  refine wpList_pickd d0 _ rfl rfl (by go_simp; try with_reducible rfl) (by intro hg; obtain rfl := hu12 hg; go_simp; try with_reducible rfl) (by go_simp; try with_reducible rfl) ?_
  intro d13 hd13
  have HD13 := hide hd13
  clear hd13 hu10 hu11 hu12
  refine wpList_val rfl (by go_simp; try with_reducible rfl) ?_
  go_simp
  refine wpList_if 8 d13 rfl (by kernel_rfl) (by intro hg; go_simp; try with_reducible rfl) ?_
  intro u15 hu15
  refine wpList_if 8 d13 rfl (by kernel_rfl) (by intro hg; obtain rfl := hu15 hg; go_simp; try with_reducible rfl) ?_
  intro u16 hu16
  refine wpList_if 8 d13 rfl (by kernel_rfl) (by intro hg; obtain rfl := hu16 hg; go_simp; try with_reducible rfl) ?_
  intro u17 hu17
  refine wpList_pickd d13 _ rfl rfl (by go_simp; try with_reducible rfl) (by intro hg; obtain rfl := hu17 hg; go_simp; try with_reducible rfl) (by go_simp; try with_reducible rfl) ?_
  intro d18 hd18
  have HD18 := hide hd18
  clear hd18 hu15 hu16 hu17
  refine wpList_val rfl (by go_simp; try with_reducible rfl) ?_
  go_simp
  refine wpList_if 13 d18 rfl (by kernel_rfl) (by intro hg; go_simp; try with_reducible rfl) ?_
  intro u20 hu20
  refine wpList_if 13 d18 rfl (by kernel_rfl) (by intro hg; obtain rfl := hu20 hg; go_simp; try with_reducible rfl) ?_
  intro u21 hu21
  refine wpList_if 13 d18 rfl (by kernel_rfl) (by intro hg; obtain rfl := hu21 hg; go_simp; try with_reducible rfl) ?_
  intro u22 hu22
  refine wpList_pickd d18 _ rfl rfl (by go_simp; try with_reducible rfl) (by intro hg; obtain rfl := hu22 hg; go_simp; try with_reducible rfl) (by go_simp; try with_reducible rfl) ?_
  intro d23 hd23
  have HD23 := hide hd23
  clear hd23 hu20 hu21 hu22
  refine wpList_val rfl (by go_simp; try with_reducible rfl) ?_
  go_simp
  refine wpList_if 18 d23 rfl (by kernel_rfl) (by intro hg; go_simp; try with_reducible rfl) ?_
  intro u25 hu25
  refine wpList_if 18 d23 rfl (by kernel_rfl) (by intro hg; obtain rfl := hu25 hg; go_simp; try with_reducible rfl) ?_
  intro u26 hu26
  refine wpList_if 18 d23 rfl (by kernel_rfl) (by intro hg; obtain rfl := hu26 hg; go_simp; try with_reducible rfl) ?_
  intro u27 hu27
  refine wpList_if 18 d23 rfl (by kernel_rfl) (by intro hg; obtain rfl := hu27 hg; go_simp; try with_reducible rfl) ?_
  intro u28 hu28
  refine wpList_pickd d23 _ rfl rfl (by go_simp; try with_reducible rfl) (by intro hg; obtain rfl := hu28 hg; go_simp; try with_reducible rfl) (by go_simp; try with_reducible rfl) ?_
  intro d29 hd29
  have HD29 := hide hd29
  clear hd29 hu25 hu26 hu27 hu28
  refine wpList_val rfl (by go_simp; try with_reducible rfl) ?_
  refine wpList_nil ?_
  go_simp
  have HD : Hid (d29 = decide (o.kind = 6 ∧ o.id ≠ 0 ∧ (0 ≤ o.refs ∧ o.refs ≤ 1073741824) ∧ o.backlog.n ≤ 8)) := hide (by
    rw [← HD29.out, ← HD23.out, ← HD18.out, ← HD13.out]
    rw [← HD0.out, Bool.eq_iff_iff]
    simp only [decide_eq_true_eq, Bool.and_eq_true, beq_iff_eq, bne_iff_ne]
    simp only [and_assoc, ne_eq]
    omega)
  clear HD0 HD13 HD18 HD23 HD29
  generalize d29 = d at *
  go_wp2_with fail
  go_loop [33, 3] (fun s33 s3 => ∃ k : Nat, s33 = .int .i64 (k : Int) ∧ k ≤ o.backlog.n ∧ s3 = .bool (d && decide (Clean (I.take k)))) (fun s33 _ => o.backlog.n - (intOf s33).toNat)
  case atStart => exact ⟨0, rfl, by omega, by rw [List.take_zero, decide_eq_true Clean.nil, Bool.and_true]⟩
  case round =>
    obtain ⟨k, rfl, hk, rfl⟩ := hrel
    obtain ⟨b, hb⟩ : ∃ b, (d && decide (Clean (I.take k))) = b := ⟨_, rfl⟩
    have HBB := hide hb
    rw [hb]
    clear hb
    by_cases hlt : k < o.backlog.n
    · have hlt' : (k : Int) < (o.backlog.n : Int) := by omega
      have hkc : (k : Int) ≤ (o.backlog.c : Int) := by omega
      obtain ⟨bb, oo, hkl, rfl, hbb, hcell⟩ := HI.out.at_ hlt
      have HS := hide (Clean.step hkl)
      have HT := hide (HI.out.takeN (m := k) (by omega))
      cases b with
      | false =>
        have HE : Hid ((d && decide (Clean (I.take (k + 1)))) = false) := hide (by
          have := HBB.out
          rw [Bool.and_eq_false_iff] at this ⊢
          rcases this with h | h
          · exact .inl h
          · exact .inr (decide_eq_false (fun hh => (of_decide_eq_false h) (HS.out.1 hh).1)))
        go_wp2_with fail
        go_round
        case rel => exact ⟨k + 1, by go_num, by omega, by rw [HE.out]⟩
        case measure => simp [intOf]; omega
      | true =>
        have hbt := HBB.out
        rw [Bool.and_eq_true, decide_eq_true_eq] at hbt
        have HDT := hide hbt.1
        have HCT := hide hbt.2
        obtain ⟨y, hy⟩ : ∃ y, I[k] = y := ⟨_, rfl⟩
        rw [hy] at hcell
        clear hbt
        by_cases h0 : y = 0
        · have HE : Hid ((d && decide (Clean (I.take (k + 1)))) = false) := hide (by rw [Bool.and_eq_false_iff]; exact .inr (decide_eq_false (fun hh => (HS.out.1 hh).2.1 (hy.trans h0))))
          rw [h0] at hcell
          clear hy h0
          go_wp2_with fail
          go_round
          case rel => exact ⟨k + 1, by go_num, by omega, by rw [HE.out]⟩
          case measure => simp [intOf]; omega
        · have b0 : (y != 0) = true := by simpa using h0
          by_cases hm : y ∈ I.take k
          · have HE : Hid ((d && decide (Clean (I.take (k + 1)))) = false) := hide (by rw [Bool.and_eq_false_iff]; exact .inr (decide_eq_false (fun hh => (HS.out.1 hh).2.2 (hy ▸ hm))))
            have HM := hide hm
            clear hy h0 hm
            go_wp2_with fail
            refine (has64_any _ k o.backlog.c (I.take k) y _ HT.out (by omega)).mono ?_
            rintro e v1 ⟨rfl, rfl⟩
            rw [decide_eq_true HM.out]
            go_wp2_with fail
            go_round
            case rel => exact ⟨k + 1, by go_num, by omega, by rw [HE.out]⟩
            case measure => simp [intOf]; omega
          · have HE : Hid ((d && decide (Clean (I.take (k + 1)))) = true) := hide (by rw [Bool.and_eq_true, decide_eq_true_eq]; exact ⟨HDT.out, HS.out.2 ⟨HCT.out, hy ▸ h0, hy ▸ hm⟩⟩)
            have HM := hide hm
            clear hy h0 hm
            go_wp2_with fail
            refine (has64_any _ k o.backlog.c (I.take k) y _ HT.out (by omega)).mono ?_
            rintro e v1 ⟨rfl, rfl⟩
            rw [decide_eq_false HM.out]
            go_wp2_with fail
            go_round
            case rel => exact ⟨k + 1, by go_num, by omega, by rw [HE.out]⟩
            case measure => simp [intOf]; omega
    · have hke : k = o.backlog.n := by omega
      have HE : Hid ((d && decide (Clean I)) = b) := hide (by have := HBB.out; rw [List.take_of_length_le (by omega)] at this; exact this)
      have HP : Hid (decide (o.Port I) = (b && decide (o.unport.Clear))) := hide (by
        rw [← HE.out, HD.out, Bool.eq_iff_iff]
        simp only [decide_eq_true_eq, Bool.and_eq_true]
        rw [unport_clear, port_iff, Few]
        simp only [and_assoc])
      clear hke HBB HE
      cases b with
      | false =>
        go_wp2_with fail
        go_ret
        exact ⟨ret_bool HP.out.symm, HB3.out⟩
      | true =>
        go_wp2_with (first | (refine wpList_val (by rfl) (exec_load_ob rfl rfl HR.out) ?_) | fail)
        refine (bare_any o.unport _).mono ?_
        rintro e v1 ⟨rfl, hb1⟩
        go_wp2_with fail
        go_ret
        refine ⟨ret_bool ?_, HB3.out.trans (hb1.mono HB3.out.size)⟩
        rw [HP.out, Bool.true_and]
set_option maxRecDepth 100000 in
set_option maxHeartbeats 4000000 in
theorem refChValid_any (o : Ob) (W : World) : Calls Try.prog 28 #[.agg (oc o)] W (BoolPost (decide (o.Chan)) W) := by
  obtain ⟨w1, hw, O, hb⟩ : ∃ w1, W.alloc (.cells (oc o) 41) = w1 ∧ Obl w1 W.heap.size 41 (oc o) ∧ Below W.heap.size W w1 := ⟨_, rfl, Obl.make W _ _, (Below.refl _ _).alloc (Nat.le_refl _) _⟩
  have HB := hide hb
  clear hb
  have k0 : w1.cell? ⟨W.heap.size, 0, none⟩ = some (.int .u64 o.id) := O.cell 0
  have k1 : w1.cell? ⟨W.heap.size, 1, none⟩ = some (.int .i64 o.kind) := O.cell 1
  have k30 : w1.cell? ⟨W.heap.size, 30, none⟩ = some (.slice o.q0.A o.q0.n o.q0.c) := O.cell 30
  have k31 : w1.cell? ⟨W.heap.size, 31, none⟩ = some (.slice o.q1.A o.q1.n o.q1.c) := O.cell 31
  have k32 : w1.cell? ⟨W.heap.size, 32, none⟩ = some (.int .i64 o.e0) := O.cell 32
  have k33 : w1.cell? ⟨W.heap.size, 33, none⟩ = some (.int .i64 o.e1) := O.cell 33
  have HB5 := HB
  have R1 := O
  have R2 := R1.put 32 (.int .i64 0)
  replace HB5 := hide (HB5.out.setCell (p := ⟨W.heap.size, 32, none⟩) (Nat.le_refl _) (.int .i64 0))
  obtain ⟨w2, hw2⟩ : ∃ w2, w1.setCell ⟨W.heap.size, 32, none⟩ (.int .i64 0) = w2 := ⟨_, rfl⟩
  rw [hw2] at R2 HB5
  have R3 := R2.put 33 (.int .i64 0)
  replace HB5 := hide (HB5.out.setCell (p := ⟨W.heap.size, 33, none⟩) (Nat.le_refl _) (.int .i64 0))
  obtain ⟨w3, hw3⟩ : ∃ w3, w2.setCell ⟨W.heap.size, 33, none⟩ (.int .i64 0) = w3 := ⟨_, rfl⟩
  rw [hw3] at R3 HB5
  have R4 := R3.put 30 (.slice none 0 0)
  replace HB5 := hide (HB5.out.setCell (p := ⟨W.heap.size, 30, none⟩) (Nat.le_refl _) (.slice none 0 0))
  obtain ⟨w4, hw4⟩ : ∃ w4, w3.setCell ⟨W.heap.size, 30, none⟩ (.slice none 0 0) = w4 := ⟨_, rfl⟩
  rw [hw4] at R4 HB5
  have R5 := R4.put 31 (.slice none 0 0)
  replace HB5 := hide (HB5.out.setCell (p := ⟨W.heap.size, 31, none⟩) (Nat.le_refl _) (.slice none 0 0))
  obtain ⟨w5, hw5⟩ : ∃ w5, w4.setCell ⟨W.heap.size, 31, none⟩ (.slice none 0 0) = w5 := ⟨_, rfl⟩
  rw [hw5] at R5 HB5
  have HR : Hid (Obl w5 W.heap.size 41 (oc o.unchan)) := hide R5
  obtain ⟨s, hs⟩ : ∃ s, IntKind.i64.wrap (o.e0 + o.e1) = s := ⟨_, rfl⟩
  have HS := hide hs
  have HO1 := hide R1
  have HO3 := hide R3
  clear R1 R2 R3 R4 R5
  go_enter Try.func28, Try.ntmps28
  try dsimp only [List.append]
  go_upto_region 1 with (fail)
  clear hw
  refine wp_region_lit ?_
  refine wpList_val rfl (by go_simp; try with_reducible rfl) ?_
  refine wpList_val rfl (by go_simp; try with_reducible rfl) ?_
  refine wpList_val rfl (by go_simp; try with_reducible rfl) ?_
  refine wpList_val rfl (by go_simp; try with_reducible rfl) ?_
  go_simp
  generalize hd0 : (o.kind == 7) = d0
  have HD0 := hide hd0
  clear hd0
  refine wpList_if 3 d0 rfl (by kernel_rfl) (by intro hg; go_simp; try with_reducible rfl) ?_
  intro u9 hu9
  refine wpList_if 3 d0 rfl (by kernel_rfl) (by intro hg; obtain rfl := hu9 hg; go_simp; try with_reducible rfl) ?_
  intro u10 hu10
  refine wpList_if 3 d0 rfl (by kernel_rfl) (by intro hg; obtain rfl := hu10 hg; go_simp; try with_reducible rfl) ?_
  intro u11 hu11
  refine wpList_pickd d0 _ rfl rfl (by go_simp; try with_reducible rfl) (by intro hg; obtain rfl := hu11 hg; go_simp; try with_reducible rfl) (by go_simp; try with_reducible rfl) ?_
  intro d12 hd12
  have HD12 := hide hd12
  clear hd12 hu9 hu10 hu11
  refine wpList_val rfl (by go_simp; try with_reducible rfl) ?_
  go_simp
  refine wpList_if 8 d12 rfl (by kernel_rfl) (by intro hg; go_simp; try with_reducible rfl) ?_
  intro u14 hu14
  refine wpList_if 8 d12 rfl (by kernel_rfl) (by intro hg; obtain rfl := hu14 hg; go_simp; try with_reducible rfl) ?_
  intro u15 hu15
  refine wpList_if 8 d12 rfl (by kernel_rfl) (by intro hg; obtain rfl := hu15 hg; go_simp; try with_reducible rfl) ?_
  intro u16 hu16
  refine wpList_if 8 d12 rfl (by kernel_rfl) (by intro hg; go_simp; try with_reducible rfl) ?_
  intro u17 hu17
  refine wpList_if 8 d12 rfl (by kernel_rfl) (by intro hg; obtain rfl := hu17 hg; go_simp; try with_reducible rfl) ?_
  intro u18 hu18
  refine wpList_if 8 d12 rfl (by kernel_rfl) (by intro hg; obtain rfl := hu18 hg; go_simp; try with_reducible rfl) ?_
  intro u19 hu19
  refine wpList_if 8 d12 rfl (by kernel_rfl) (by intro hg; obtain rfl := hu16 hg; obtain rfl := hu19 hg; go_simp; try with_reducible rfl) ?_
  intro u20 hu20
  refine wpList_if 8 d12 rfl (by kernel_rfl) (by intro hg; obtain rfl := hu20 hg; go_simp; try with_reducible rfl) ?_
  intro u21 hu21
  refine wpList_pickd d12 _ rfl rfl (by go_simp; try with_reducible rfl) (by intro hg; obtain rfl := hu21 hg; go_simp; try with_reducible rfl) (by go_simp; try with_reducible rfl) ?_
  intro d22 hd22
  have HD22 := hide hd22
  clear hd22 hu14 hu15 hu16 hu17 hu18 hu19 hu20 hu21
  refine wpList_val rfl (by go_simp; try with_reducible rfl) ?_
  refine wpList_nil ?_
  go_simp
  have HD : Hid (d22 = decide (o.kind = 7 ∧ o.id ≠ 0 ∧ 0 < s)) := hide (by
    rw [← HD22.out, ← HD12.out]
    rw [← HD0.out, Bool.eq_iff_iff]
    simp only [decide_eq_true_eq, Bool.and_eq_true, beq_iff_eq, bne_iff_ne]
    simp only [and_assoc])
  clear hs HD0 HD12 HD22
  generalize d22 = d at *
  go_wp2_with fail
  go_loop [23, 3] (fun s23 s3 => ∃ k : Nat, s23 = .int .i64 (k : Int) ∧ k ≤ 2 ∧ s3 = .bool (d && decide (o.ChUpto k))) (fun s23 _ => 2 - (intOf s23).toNat)
  case atStart => exact ⟨0, rfl, by omega, by rw [decide_eq_true (upto_start o), Bool.and_true]⟩
  case round =>
    obtain ⟨k, rfl, hk, rfl⟩ := hrel
    obtain ⟨b, hb⟩ : ∃ b, (d && decide (o.ChUpto k)) = b := ⟨_, rfl⟩
    have HBB := hide hb
    rw [hb]
    clear hb
    by_cases hlt : k < 2
    · obtain rfl | rfl : k = 0 ∨ k = 1 := by omega
      · have HU := hide (upto_0 o)
        cases b with
        | false =>
          have HE : Hid ((d && decide (o.ChUpto (0 + 1))) = false) := hide (by
            have := HBB.out
            rw [Bool.and_eq_false_iff] at this ⊢
            rcases this with h | h
            · exact .inl h
            · exact .inr (decide_eq_false (fun hh => (of_decide_eq_false h) (HU.out.1 hh).1)))
          go_wp2_with fail
          go_round
          case rel => exact ⟨0 + 1, by go_num, by omega, by rw [HE.out]⟩
          case measure => simp [intOf]
        | true =>
          have hbt := HBB.out
          rw [Bool.and_eq_true, decide_eq_true_eq] at hbt
          have HDT := hide hbt
          clear hbt
          by_cases g0 : 0 ≤ o.e0
          · by_cases g1 : o.e0 ≤ 1073741824
            · by_cases g2 : (o.q0.n : Int) ≤ 64
              · have HE : Hid ((d && decide (o.ChUpto (0 + 1))) = true) := hide (by rw [Bool.and_eq_true, decide_eq_true_eq]; exact ⟨HDT.out.1, HU.out.2 ⟨HDT.out.2, ⟨g0, g1⟩, by omega⟩⟩)
                go_wp2_with fail
                go_round
                case rel => exact ⟨0 + 1, by go_num, by omega, by rw [HE.out]⟩
                case measure => simp [intOf]
              · have HE : Hid ((d && decide (o.ChUpto (0 + 1))) = false) := hide (by rw [Bool.and_eq_false_iff]; exact .inr (decide_eq_false (fun hh => by have := (HU.out.1 hh).2; unfold IsCount at this; omega)))
                go_wp2_with fail
                go_round
                case rel => exact ⟨0 + 1, by go_num, by omega, by rw [HE.out]⟩
                case measure => simp [intOf]
            · have HE : Hid ((d && decide (o.ChUpto (0 + 1))) = false) := hide (by rw [Bool.and_eq_false_iff]; exact .inr (decide_eq_false (fun hh => by have := (HU.out.1 hh).2; unfold IsCount at this; omega)))
              go_wp2_with fail
              go_round
              case rel => exact ⟨0 + 1, by go_num, by omega, by rw [HE.out]⟩
              case measure => simp [intOf]
          · have HE : Hid ((d && decide (o.ChUpto (0 + 1))) = false) := hide (by rw [Bool.and_eq_false_iff]; exact .inr (decide_eq_false (fun hh => by have := (HU.out.1 hh).2; unfold IsCount at this; omega)))
            go_wp2_with fail
            go_round
            case rel => exact ⟨0 + 1, by go_num, by omega, by rw [HE.out]⟩
            case measure => simp [intOf]
      · have HU := hide (upto_1 o)
        cases b with
        | false =>
          have HE : Hid ((d && decide (o.ChUpto (1 + 1))) = false) := hide (by
            have := HBB.out
            rw [Bool.and_eq_false_iff] at this ⊢
            rcases this with h | h
            · exact .inl h
            · exact .inr (decide_eq_false (fun hh => (of_decide_eq_false h) (HU.out.1 hh).1)))
          go_wp2_with fail
          go_round
          case rel => exact ⟨1 + 1, by go_num, by omega, by rw [HE.out]⟩
          case measure => simp [intOf]
        | true =>
          have hbt := HBB.out
          rw [Bool.and_eq_true, decide_eq_true_eq] at hbt
          have HDT := hide hbt
          clear hbt
          by_cases g0 : 0 ≤ o.e1
          · by_cases g1 : o.e1 ≤ 1073741824
            · by_cases g2 : (o.q1.n : Int) ≤ 64
              · have HE : Hid ((d && decide (o.ChUpto (1 + 1))) = true) := hide (by rw [Bool.and_eq_true, decide_eq_true_eq]; exact ⟨HDT.out.1, HU.out.2 ⟨HDT.out.2, ⟨g0, g1⟩, by omega⟩⟩)
                go_wp2_with fail
                go_round
                case rel => exact ⟨1 + 1, by go_num, by omega, by rw [HE.out]⟩
                case measure => simp [intOf]
              · have HE : Hid ((d && decide (o.ChUpto (1 + 1))) = false) := hide (by rw [Bool.and_eq_false_iff]; exact .inr (decide_eq_false (fun hh => by have := (HU.out.1 hh).2; unfold IsCount at this; omega)))
                go_wp2_with fail
                go_round
                case rel => exact ⟨1 + 1, by go_num, by omega, by rw [HE.out]⟩
                case measure => simp [intOf]
            · have HE : Hid ((d && decide (o.ChUpto (1 + 1))) = false) := hide (by rw [Bool.and_eq_false_iff]; exact .inr (decide_eq_false (fun hh => by have := (HU.out.1 hh).2; unfold IsCount at this; omega)))
              go_wp2_with fail
              go_round
              case rel => exact ⟨1 + 1, by go_num, by omega, by rw [HE.out]⟩
              case measure => simp [intOf]
          · have HE : Hid ((d && decide (o.ChUpto (1 + 1))) = false) := hide (by rw [Bool.and_eq_false_iff]; exact .inr (decide_eq_false (fun hh => by have := (HU.out.1 hh).2; unfold IsCount at this; omega)))
            go_wp2_with fail
            go_round
            case rel => exact ⟨1 + 1, by go_num, by omega, by rw [HE.out]⟩
            case measure => simp [intOf]
    · obtain rfl : k = 2 := by omega
      have HP : Hid (decide o.Chan = (b && decide (o.unchan.Clear))) := hide (by
        rw [← HBB.out, HD.out, Bool.eq_iff_iff]
        simp only [decide_eq_true_eq, Bool.and_eq_true]
        rw [unchan_clear]
        exact chan_sum o s HS.out)
      clear HBB
      cases b with
      | false =>
        go_wp2_with (first | (refine store_two rfl _ _ rfl endsSize rfl (u := .int .i64 0) (v := .int .i64 0) rfl rfl rfl HO1.out (show (34 : Nat) ≤ 36 by decide) (k1 := 33) rfl ?_; rw [hw2, hw3]) | (refine store_two rfl _ _ rfl qSize rfl (u := .slice none 0 0) (v := .slice none 0 0) rfl rfl rfl HO3.out (show (32 : Nat) ≤ 36 by decide) (k1 := 31) rfl ?_; rw [hw4, hw5]) | (refine wpList_val (by rfl) (exec_build rfl (vs := []) (by simp) built_ends) ?_) | (refine wpList_val (by rfl) (exec_build rfl (vs := []) (by simp) built_noqs) ?_) | fail)
        go_ret
        exact ⟨ret_bool HP.out.symm, HB5.out⟩
      | true =>
        go_wp2_with (first | (refine store_two rfl _ _ rfl endsSize rfl (u := .int .i64 0) (v := .int .i64 0) rfl rfl rfl HO1.out (show (34 : Nat) ≤ 36 by decide) (k1 := 33) rfl ?_; rw [hw2, hw3]) | (refine store_two rfl _ _ rfl qSize rfl (u := .slice none 0 0) (v := .slice none 0 0) rfl rfl rfl HO3.out (show (32 : Nat) ≤ 36 by decide) (k1 := 31) rfl ?_; rw [hw4, hw5]) | (refine wpList_val (by rfl) (exec_build rfl (vs := []) (by simp) built_ends) ?_) | (refine wpList_val (by rfl) (exec_build rfl (vs := []) (by simp) built_noqs) ?_) | (refine wpList_val (by rfl) (exec_load_ob rfl rfl HR.out) ?_) | fail)
        refine (bare_any o.unchan _).mono ?_
        rintro e v1 ⟨rfl, hb1⟩
        go_wp2_with fail
        go_ret
        refine ⟨ret_bool ?_, HB5.out.trans (hb1.mono HB5.out.size)⟩
        rw [HP.out, Bool.true_and]
end Go.Proofs.Yteaippnffmhhnaa
