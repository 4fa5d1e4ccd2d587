/- Layer 3: the walk of IdentOrder. -/
import Derived.Test.YtgdhlghklnlahaaDoorIdentLaws
namespace Go.Proofs.YtgdhlghklnlahaaDoor
open Go.RowKit

namespace Id
theorem ids_at (n b s : Int) (k i : Nat) (h : i < (ids n b s k).length) : (ids n b s k)[i] = n * 72057594037927936 + b * 1099511627776 + (s + 1 + i) := by simp [ids]
theorem ids_add (n b s : Int) (k m : Nat) : ids n b s (k + m) = ids n b s k ++ ids n b (s + k) m := by
  induction m with
  | zero => simp [ids]
  | succ m ih =>
    rw [← Nat.add_assoc, ids_succ, ih, ids_succ, List.append_assoc]
    congr 2
    simp only [List.cons.injEq, and_true]
    omega
theorem next_ok {n b s : Int} {k : Nat} {K : Int} (hK : K = (k : Int)) (h1 : (0 ≤ n ∧ n ≤ 127) ∧ 0 ≤ b ∧ b ≤ 65535) (h2 : 0 ≤ s) (h3 : k ≤ 64) (h4 : s + k ≤ 1099511627775) : next (n, b, s) K = (ids n b s k, (n, b, s + k), 0) := by
  subst hK
  have hc : chk (n, b, s) (k : Int) = 0 := by
    have ho := ogn_iff.2 h1
    rcases chk_cases (n, b, s) (k : Int) with ⟨_, h⟩ | ⟨_, h⟩
    · rw [show ogn (n, b, s).1 (n, b, s).2.1 = true from ho] at h
      cases h
    · simp only at h
      omega
  unfold next
  rw [if_pos hc]
  simp
theorem itoa_inj {a b : Nat} (ha : a ≤ 9223372036854775807) (hb : b ≤ 9223372036854775807) (h : Lib.itoa (a : Int) = Lib.itoa (b : Int)) : a = b := by
  have h1 := num_itoa a ha
  have h2 := num_itoa b hb
  rw [h, h2] at h1
  simp only [Prod.mk.injEq, and_true] at h1
  omega
theorem text_inj {a b : Nat} (ha : a < 18446744073709551616) (hb : b < 18446744073709551616) (h : text a = text b) : a = b := by
  have ht : ∀ id, text id = Lib.itoa ((id / 72057594037927936 : Nat) : Int) ++ 46 :: (Lib.itoa ((id / 1099511627776 % 65536 : Nat) : Int) ++ 46 :: Lib.itoa ((id % 1099511627776 : Nat) : Int)) := fun id => by
    unfold text; simp
  rw [ht a, ht b] at h
  obtain ⟨a1, a2⟩ := cut_at _ (Lib.itoa ((a / 1099511627776 % 65536 : Nat) : Int) ++ 46 :: Lib.itoa ((a % 1099511627776 : Nat) : Int)) (itoa_46 (a / 72057594037927936))
  obtain ⟨a3, a4⟩ := cut_at _ (Lib.itoa ((a % 1099511627776 : Nat) : Int)) (itoa_46 (a / 1099511627776 % 65536))
  obtain ⟨b1, b2⟩ := cut_at _ (Lib.itoa ((b / 1099511627776 % 65536 : Nat) : Int) ++ 46 :: Lib.itoa ((b % 1099511627776 : Nat) : Int)) (itoa_46 (b / 72057594037927936))
  obtain ⟨b3, b4⟩ := cut_at _ (Lib.itoa ((b % 1099511627776 : Nat) : Int)) (itoa_46 (b / 1099511627776 % 65536))
  rw [h, b1] at a1
  rw [h, b2] at a2
  rw [← a2, b3] at a3
  rw [← a2, b4] at a4
  have e1 := itoa_inj (by omega) (by omega) a1
  have e2 := itoa_inj (by omega) (by omega) a3
  have e3 := itoa_inj (by omega) (by omega) a4
  omega
end Id

set_option maxRecDepth 100000 in
set_option maxHeartbeats 2000000 in
theorem identOrder_any (x0 x1 x2 x3 x4 oth : Nat) (w : World) (h0 : x0 < 256) (h1 : x1 < 256) (h2 : x2 < 4294967296) (h3 : x3 < 256) (h4 : x4 < 256) (ho : oth < 18446744073709551616) (hL : LaidT w) :
    Calls Tryd.prog 7 #[.int .u8 (x0 : Int), .int .u8 (x1 : Int), .int .u32 (x2 : Int), .int .u8 (x3 : Int), .int .u8 (x4 : Int), .int .u64 (oth : Int)] w fun e w' => e = .returned (.bool true) ∧ Below w.heap.size w w' := by
  have HL := hide hL
  clear hL
  obtain ⟨M, hM, hM30⟩ : ∃ M : Nat, (x3 : Int) % 30 = (M : Int) ∧ M < 30 := ⟨x3 % 30, by omega, by omega⟩
  obtain ⟨N, hN, hN30⟩ : ∃ N : Nat, (x4 : Int) % 30 = (N : Int) ∧ N < 30 := ⟨x4 % 30, by omega, by omega⟩
  have R1 := hide (Id.next_ok (n := (x0 : Int) % 128) (b := (x1 : Int)) (s := (x2 : Int)) hM (by omega) (by omega) (by omega) (by omega))
  have R2 := hide (Id.next_ok (n := (x0 : Int) % 128) (b := (x1 : Int)) (s := (x2 : Int) + (M : Int)) hN (by omega) (by omega) (by omega) (by omega))
  have R3 := hide (Id.next_ok (n := (x0 : Int) % 128) (b := (x1 : Int)) (s := (x2 : Int)) (k := M + N) (show (x3 : Int) % 30 + (x4 : Int) % 30 = ((M + N : Nat) : Int) by omega) (by omega) (by omega) (by omega) (by omega))
  rw [show (x2 : Int) + ((M + N : Nat) : Int) = (x2 : Int) + (M : Int) + (N : Int) by omega] at R3
  clear hM hN
  go_enter Tryd.func7, Tryd.ntmps7
  go_wp2_with fail
  refine (sane3_any _ HL.out).mono ?_
  rintro e w1 ⟨rfl, hb1⟩
  have hB1 := hb1.size
  have OA := Obl.make w1 34 #[.int .i64 ((x0 : Int) % 128), .int .i64 (x1 : Int), .int .i64 (x2 : Int)]
  go_wp2_with fail
  refine (next_any ((x0 : Int) % 128, (x1 : Int), (x2 : Int)) ((x3 : Int) % 30) _).mono ?_
  intro e w2 hp
  obtain ⟨A1, c1, he, hc1, hm1, hn1, hb2⟩ := hp.at_ R1.out
  clear hp
  rw [Id.ids_length] at he hc1 hn1
  subst he
  have hb02 : Below w.heap.size w w2 := (hb1.alloc hB1 _).trans (hb2.mono (by simp; omega))
  have hB2 := hb02.size
  have OA2 := OA.below hb2 (by simp)
  simp only [al]
  have OB := Obl.make w2 34 #[.int .i64 ((x0 : Int) % 128), .int .i64 (x1 : Int), .int .i64 ((x2 : Int) + (M : Int))]
  have OA2' := OA2.alloc (.cells #[.int .i64 ((x0 : Int) % 128), .int .i64 (x1 : Int), .int .i64 ((x2 : Int) + (M : Int))] 34)
  go_wp2_with fail
  refine (next_any ((x0 : Int) % 128, (x1 : Int), (x2 : Int) + (M : Int)) ((x4 : Int) % 30) _).mono ?_
  intro e w3 hp
  obtain ⟨A2, c2, he, hc2, hm2, hn2, hb3⟩ := hp.at_ R2.out
  clear hp
  rw [Id.ids_length] at he hc2 hn2
  subst he
  have hb03 : Below w.heap.size w w3 := (hb02.alloc hB2 _).trans (hb3.mono (by simp; omega))
  have hB3 := hb03.size
  have OA3 := OA2'.below hb3 OA2'.lt
  have hn1' := ((hn1.alloc (Nat.le_refl _) (.cells #[.int .i64 ((x0 : Int) % 128), .int .i64 (x1 : Int), .int .i64 ((x2 : Int) + (M : Int))] 34)).belowLe hb3 (by simp)).mono (show w2.heap.size ≤ w3.heap.size by have := hb3.size; simp at this; omega)
  simp only [al]
  have OC := Obl.make w3 34 #[.int .i64 ((x0 : Int) % 128), .int .i64 (x1 : Int), .int .i64 ((x2 : Int) + (M : Int) + (N : Int))]
  have OA3' := OA3.alloc (.cells #[.int .i64 ((x0 : Int) % 128), .int .i64 (x1 : Int), .int .i64 ((x2 : Int) + (M : Int) + (N : Int))] 34)
  have q0 := OA3.cell 0
  have q1 := OA3.cell 1
  have q2 := OA3.cell 2
  simp at q0 q1 q2
  have hlA := OA3.lt
  clear OA OA2 OA2' OB hn1
  go_wp2_with fail
  refine (next_any ((x0 : Int) % 128, (x1 : Int), (x2 : Int)) ((x3 : Int) % 30 + (x4 : Int) % 30) _).mono ?_
  intro e w4 hp
  obtain ⟨A3, c3, he, hc3, hm3, hn3, hb4⟩ := hp.at_ R3.out
  clear hp
  rw [Id.ids_length] at he hc3 hn3
  subst he
  have hb04 : Below w.heap.size w w4 := (hb03.alloc hB3 _).trans (hb4.mono (by simp; omega))
  have hB4 := hb04.size
  have h34 : w3.heap.size ≤ w4.heap.size := by have := hb4.size; simp at this; omega
  have hn1'' := ((hn1'.alloc (Nat.le_refl _) (.cells #[.int .i64 ((x0 : Int) % 128), .int .i64 (x1 : Int), .int .i64 ((x2 : Int) + (M : Int) + (N : Int))] 34)).belowLe hb4 (by simp)).mono h34
  have hn2'' := ((hn2.alloc (Nat.le_refl _) (.cells #[.int .i64 ((x0 : Int) % 128), .int .i64 (x1 : Int), .int .i64 ((x2 : Int) + (M : Int) + (N : Int))] 34)).belowLe hb4 (by simp)).mono h34
  have OC4 := OC.below hb4 OC.lt
  simp only [al]
  have r0 := OC4.cell 0
  have r1 := OC4.cell 1
  have r2 := OC4.cell 2
  simp at r0 r1 r2
  have hlC := OC4.lt
  clear OA3 OA3' OC hn1' hn2 q0 q1 q2 hlA
  have hp1 := hn1''.alloc (Nat.le_refl _) (.cells #[.int .i64 ((x0 : Int) % 128), .int .i64 (x1 : Int), .int .i64 ((x2 : Int) + (M : Int) + (N : Int))] 34)
  have hp2 := hn2''.alloc (Nat.le_refl _) (.cells #[.int .i64 ((x0 : Int) % 128), .int .i64 (x1 : Int), .int .i64 ((x2 : Int) + (M : Int) + (N : Int))] 34)
  have hp3 := hn3.alloc (Nat.le_refl _) (.cells #[.int .i64 ((x0 : Int) % 128), .int .i64 (x1 : Int), .int .i64 ((x2 : Int) + (M : Int) + (N : Int))] 34)
  have OC5 := OC4.alloc (.cells #[.int .i64 ((x0 : Int) % 128), .int .i64 (x1 : Int), .int .i64 ((x2 : Int) + (M : Int) + (N : Int))] 34)
  have OD5 := Obl.make w4 34 #[.int .i64 ((x0 : Int) % 128), .int .i64 (x1 : Int), .int .i64 ((x2 : Int) + (M : Int) + (N : Int))]
  have hb05 := hb04.alloc hB4 (.cells #[.int .i64 ((x0 : Int) % 128), .int .i64 (x1 : Int), .int .i64 ((x2 : Int) + (M : Int) + (N : Int))] 34)
  have hnil := World.ownsRow_nil (w4.alloc (.cells #[.int .i64 ((x0 : Int) % 128), .int .i64 (x1 : Int), .int .i64 ((x2 : Int) + (M : Int) + (N : Int))] 34)) (w4.heap.size + 1) 22 1
  clear hn1'' hn2'' OC4 r0 r1 r2 hlC hn3
  have hlC := OC5.lt
  have hlD := OD5.lt
  go_wp2_with (first
    | (at_builtin; refine wpList_append_rd rfl (.const (.slice none 0 0)) (.tmp 67) _ rfl numTy rfl hnil rfl hp1.row (nv_one _ _) (by unfold maxLen; omega) (by omega) (by simp) ?_; intro A5 c5 w5 hown5 hgrow5 hat5; have hb45 := below_own (Below.refl _ _) hnil hgrow5 (by simp); simp only [Nat.zero_add, List.nil_append] at hown5)
    | (at_builtin; go_loud (refine wpList_append_rd rfl (.tmp 68) (.tmp 69) _ rfl numTy rfl hown5 rfl (hp2.belowLe hb45 (by simp)).row (nv_one _ _) (by unfold maxLen; omega) (by omega) ((Nat.le_trans (by simp) hb45.size)) ?_; intro A6 c6 w6 hown6 hgrow6 hat6; have hB5 := hb45.size; rw [World.size_alloc] at hB5; have hb46 := below_own hb45 hown5 hgrow6 (by omega); have OC6 := OC5.below hb46 (by simp at hlC; omega); have OD6 := OD5.below hb46 (by omega); have r0 := OC6.cell 0; have r1 := OC6.cell 1; have r2 := OC6.cell 2; have s0 := OD6.cell 0; have s1 := OD6.cell 1; have s2 := OD6.cell 2; simp at r0 r1 r2 s0 s1 s2)))
  have hall : Nums .u64 w6 w6.heap.size A6 (M + N) (Id.ids ((x0 : Int) % 128) (x1 : Int) (x2 : Int) (M + N)) := by
    rw [← nv_append, ← Id.ids_add] at hown6
    exact Nums.of_own hown6
  have hz6 := hp3.belowLe hb46 (by omega)
  have hB6 := hb46.size
  rw [World.size_alloc] at hB6
  have hz6' := hz6.mono (show w4.heap.size ≤ w6.heap.size by omega)
  have hb06 : Below w.heap.size w w6 := hb05.trans (hb46.mono (by omega))
  clear hown5 hown6 hgrow5 hgrow6 hat5 hat6 r0 r1 r2 s0 s1 s2 OC5 OD5 OC6 OD6 hp1 hp2 hp3 hnil hlC hlD hb45 hb46 hz6
  refine (refSame3_any A6 A3 _ _ _ _ _ _ _ w6.heap.size hall hz6' (by omega) (by omega)).mono ?_
  rintro e w7 ⟨rfl, hb7⟩
  rw [decide_eq_true (rfl : Id.ids ((x0 : Int) % 128) (x1 : Int) (x2 : Int) (M + N) = _)]
  have hz7 := (hz6'.below hb7).mono hb7.size
  have hb07 := hb06.trans (hb7.mono hb06.size)
  clear hz6' hall hb7
  have Hnat : Hid (∀ k, k < M + N → ∃ I : Nat, I < 18446744073709551616 ∧ I = x0 % 128 * 72057594037927936 + x1 * 1099511627776 + (x2 + 1 + k)) := hide (fun k hk => ⟨_, by omega, rfl⟩)
  have Hz : Hid (∀ k (h : k < (Id.ids ((x0 : Int) % 128) (x1 : Int) (x2 : Int) (M + N)).length) (I : Nat), I = x0 % 128 * 72057594037927936 + x1 * 1099511627776 + (x2 + 1 + k) → (Id.ids ((x0 : Int) % 128) (x1 : Int) (x2 : Int) (M + N))[k] = (I : Int)) := hide (fun k h I hI => by
    rw [Id.ids_at]; omega)
  generalize Id.ids ((x0 : Int) % 128) (x1 : Int) (x2 : Int) (M + N) = Z at *
  go_wp2_with fail
  go_loopw [94] (fun s94 wr => ∃ k : Nat, s94 = .int .i64 (k : Int) ∧ k ≤ M + N ∧ Below w7.heap.size w7 wr) (fun s94 _ => M + N - (intOf s94).toNat)
  case atStart => exact ⟨0, rfl, by omega, Below.refl _ _⟩
  case round =>
    obtain ⟨k, rfl, hk, hb⟩ := hrel
    have hzr := hz7.below hb
    have hb0r := hb07.trans (hb.mono hb07.size)
    have hLr := HL.out.below hb0r
    have hBr := hb.size
    by_cases hlt : k < M + N
    · obtain ⟨b, o, hl, hA, hbb, hcell⟩ := hzr.at_ hlt
      obtain ⟨I, hI, hIe⟩ := Hnat.out k hlt
      rw [Hz.out k hl I hIe] at hcell
      subst hA
      have HLr := hide hLr
      clear hLr
      by_cases he : I = oth
      · subst he
        have e1 : ((I : Int) == (I : Int)) = true := by simp
        have e2 : ((I : Int) != (I : Int)) = false := by simp
        rcases k with _ | j
        · have hcell0 : wr.cell? ⟨b, o, none⟩ = some (.int .u64 (I : Int)) := hcell
          clear hIe hzr hcell
          go_wp2
          go_roundw
          case rel => exact ⟨1, by go_num, by omega, hb⟩
          case measure => simp [intOf]; omega
        · obtain ⟨b', o', hl', hA', _, hcell'⟩ := hzr.at_ (i := j) (by omega)
          obtain ⟨P, hP, hPe⟩ := Hnat.out j (by omega)
          rw [Hz.out j hl' P hPe] at hcell'
          simp only [Option.some.injEq, Addr.mk.injEq, and_true] at hA'
          obtain ⟨rfl, rfl⟩ := hA'
          have hPI : P < I := by omega
          have hge : decide ((I : Int) ≤ (P : Int)) = false := by simp; omega
          clear hIe hPe hzr
          go_wp2
          go_roundw
          case rel => exact ⟨j + 1 + 1, by go_num, by omega, hb⟩
          case measure => simp [intOf]; omega
      · have e1 : ((I : Int) == (oth : Int)) = false := by simp; omega
        have e2 : ((I : Int) != (oth : Int)) = true := by simp; omega
        have et : (Id.text I == Id.text oth) = false := by
          rw [beq_eq_false_iff_ne]
          exact fun h => he (Id.text_inj hI ho h)
        rcases k with _ | j
        · have hcell0 : wr.cell? ⟨b, o, none⟩ = some (.int .u64 (I : Int)) := hcell
          clear hIe hzr hcell
          go_wp2_with fail
          refine (idFormat_any I _ hI HLr.out).mono ?_
          rintro e w8 ⟨rfl, hb8⟩
          have hb78 := hb.trans (hb8.mono hBr)
          go_wp2_with fail
          refine (idFormat_any oth _ ho (HLr.out.below hb8)).mono ?_
          rintro e w9 ⟨rfl, hb9⟩
          have hb79 := hb78.trans (hb9.mono hb78.size)
          go_wp2
          go_roundw
          case rel => exact ⟨1, by go_num, by omega, hb79⟩
          case measure => simp [intOf]; omega
        · obtain ⟨b', o', hl', hA', _, hcell'⟩ := hzr.at_ (i := j) (by omega)
          obtain ⟨P, hP, hPe⟩ := Hnat.out j (by omega)
          rw [Hz.out j hl' P hPe] at hcell'
          simp only [Option.some.injEq, Addr.mk.injEq, and_true] at hA'
          obtain ⟨rfl, rfl⟩ := hA'
          have hPI : P < I := by omega
          have hge : decide ((I : Int) ≤ (P : Int)) = false := by simp; omega
          clear hIe hPe hzr
          go_wp2_with fail
          refine (idFormat_any I _ hI HLr.out).mono ?_
          rintro e w8 ⟨rfl, hb8⟩
          have hb78 := hb.trans (hb8.mono hBr)
          go_wp2_with fail
          refine (idFormat_any oth _ ho (HLr.out.below hb8)).mono ?_
          rintro e w9 ⟨rfl, hb9⟩
          have hb79 := hb78.trans (hb9.mono hb78.size)
          go_wp2
          go_roundw
          case rel => exact ⟨j + 1 + 1, by go_num, by omega, hb79⟩
          case measure => simp [intOf]; omega
    · obtain rfl : k = M + N := by omega
      go_wp2
      go_ret
      exact ⟨rfl, hb0r⟩
end Go.Proofs.YtgdhlghklnlahaaDoor
