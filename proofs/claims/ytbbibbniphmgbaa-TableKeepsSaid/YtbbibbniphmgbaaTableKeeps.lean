/- The law TableKeeps: a slot that was put is got by its descriptor, all others stay, clearing it restores the table, dropping after holding restores the holder. -/
import Derived.Test.YtbbibbniphmgbaaTbDice
import Derived.Test.YtbbibbniphmgbaaTbRef
import Derived.Test.YtbbibbniphmgbaaSameFull
namespace Go.Proofs.Ytbbibbniphmgbaa
open Go.RowKit

def hob (i k : Int) : Ob := { Ob.zero with id := i, kind := k }
theorem hob_bald (i k : Int) : (hob i k).Bald := by constructor <;> rfl
theorem hob_cnt (i k : Int) (s : Tb.Slot) : (hob i k).cnt s = 0 := by
  unfold Ob.cnt
  split
  · rfl
  · split
    · rfl
    · split
      · split <;> rfl
      · rfl
theorem hob_fits {i k : Int} {s : Tb.Slot} (hs : s.Ok) (h : Tb.holder s = (i, k)) (hi : i ≠ 0) : (hob i k).fits s = 0 := by
  unfold Ob.fits
  rw [if_pos hs, h, if_neg]
  rintro (e | e | e)
  · exact hi e
  · exact e rfl
  · exact e rfl
theorem hob_not {k : Int} {s : Tb.Slot} (hs : s.Ok) (h : (Tb.holder s).1 = 0) : (hob 0 k).fits s = 10 := by
  unfold Ob.fits
  rw [if_pos hs, if_pos (.inl h)]
theorem Bald.setCnt {o : Ob} (h : o.Bald) (s : Tb.Slot) (v : Int) : (o.setCnt s v).Bald := by
  unfold Ob.setCnt
  split
  · exact ⟨h.children, h.code, h.strs, h.pages, h.table, h.words, h.data, h.backlog, h.q0, h.q1, h.names⟩
  · split
    · exact ⟨h.children, h.code, h.strs, h.pages, h.table, h.words, h.data, h.backlog, h.q0, h.q1, h.names⟩
    · split
      · split <;> exact ⟨h.children, h.code, h.strs, h.pages, h.table, h.words, h.data, h.backlog, h.q0, h.q1, h.names⟩
      · exact ⟨h.children, h.code, h.strs, h.pages, h.table, h.words, h.data, h.backlog, h.q0, h.q1, h.names⟩
theorem Bald.relist {o c : Ob} (h : c.Bald) : (o.relist c).Bald := ⟨h.children, h.code, h.strs, h.pages, h.table, h.words, h.data, h.backlog, h.q0, h.q1, h.names⟩
theorem setCnt_id (o : Ob) (s : Tb.Slot) (v : Int) : (o.setCnt s v).id = o.id ∧ (o.setCnt s v).kind = o.kind := by
  unfold Ob.setCnt
  split
  · exact ⟨rfl, rfl⟩
  · split
    · exact ⟨rfl, rfl⟩
    · split
      · split <;> exact ⟨rfl, rfl⟩
      · exact ⟨rfl, rfl⟩
theorem setCnt_fits (o : Ob) (s : Tb.Slot) (v : Int) : (o.setCnt s v).fits s = o.fits s := by
  unfold Ob.fits
  rw [(setCnt_id o s v).1, (setCnt_id o s v).2]
theorem setCnt_cnt (o : Ob) (s : Tb.Slot) (v : Int) : (o.setCnt s v).cnt s = v := by
  unfold Ob.setCnt Ob.cnt
  by_cases h2 : s.kind = 2
  · rw [if_pos h2, if_pos h2]
  · by_cases h3 : s.kind = 3
    · rw [if_neg h2, if_neg h2, if_pos h3, if_pos h3]
    · by_cases h4 : s.kind = 4
      · by_cases hf : s.fin = 0
        · rw [if_neg h2, if_neg h2, if_neg h3, if_neg h3, if_pos h4, if_pos h4, if_pos hf, if_pos hf]
        · rw [if_neg h2, if_neg h2, if_neg h3, if_neg h3, if_pos h4, if_pos h4, if_neg hf, if_neg hf]
      · rw [if_neg h2, if_neg h2, if_neg h3, if_neg h3, if_neg h4, if_neg h4]
/-- Held and dropped, the holder is as it was. -/
theorem hob_back (i k v : Int) (c d : Ob) (s : Tb.Slot) : ((((hob i k).relist c).setCnt s v).relist d).setCnt s 0 = (hob i k).relist d := by
  unfold Ob.setCnt
  by_cases h2 : s.kind = 2
  · rw [if_pos h2, if_pos h2]; rfl
  · by_cases h3 : s.kind = 3
    · rw [if_neg h2, if_neg h2, if_pos h3, if_pos h3]; rfl
    · by_cases h4 : s.kind = 4
      · by_cases hf : s.fin = 0
        · rw [if_neg h2, if_neg h2, if_neg h3, if_neg h3, if_pos h4, if_pos h4, if_pos hf, if_pos hf]; rfl
        · rw [if_neg h2, if_neg h2, if_neg h3, if_neg h3, if_pos h4, if_pos h4, if_neg hf, if_neg hf]; rfl
      · rw [if_neg h2, if_neg h2, if_neg h3, if_neg h3, if_neg h4, if_neg h4]; rfl
theorem hob_gone {i k v : Int} {c : Ob} {s : Tb.Slot} : ((((hob i k).relist c).setCnt s v).setCnt s 0).gone = (hob i k).gone := by
  have h := hob_back i k v c (((hob i k).relist c)) s
  have e : (((hob i k).relist c).setCnt s v).relist ((hob i k).relist c) = ((hob i k).relist c).setCnt s v := by
    unfold Ob.setCnt
    split
    · rfl
    · split
      · rfl
      · split
        · split <;> rfl
        · rfl
  rw [e] at h
  rw [h]
  rfl
theorem hob_kind (i a b : Int) : (oc (hob i a)).setIfInBounds 1 (.int .i64 b) = oc (hob i b) := by simp [hob, oc, ocl, pcs]
theorem holder_1 {s : Tb.Slot} (hs : s.Ok) (h : s.kind = 1) : Tb.holder s = (s.desc, 4) ∧ s.desc ≠ 0 := by
  have h0 : s.kind ≠ 0 := by omega
  exact ⟨by unfold Tb.holder; rw [if_pos hs, if_pos h], ((Tb.Slot.ok_of h0).1 hs).2.2.2.1.2 h⟩
theorem holder_2 {s : Tb.Slot} (hs : s.Ok) (h : s.kind = 2 ∨ s.kind = 3) : Tb.holder s = (s.target, 5) ∧ s.target ≠ 0 := by
  have h0 : s.kind ≠ 0 := by omega
  exact ⟨by unfold Tb.holder; rw [if_pos hs, if_neg (by omega), if_pos h], ((Tb.Slot.ok_of h0).1 hs).2.2.1⟩
theorem holder_4 {s : Tb.Slot} (hs : s.Ok) (h : s.kind = 4) : Tb.holder s = (s.target, 7) ∧ s.target ≠ 0 := by
  have h0 : s.kind ≠ 0 := by omega
  exact ⟨by unfold Tb.holder; rw [if_pos hs, if_neg (by omega), if_neg (by omega), if_pos h], ((Tb.Slot.ok_of h0).1 hs).2.2.1⟩
theorem holder_5 {s : Tb.Slot} (hs : s.Ok) (h : s.kind = 5) : Tb.holder s = (s.target, 6) ∧ s.target ≠ 0 := by
  have h0 : s.kind ≠ 0 := by omega
  exact ⟨by unfold Tb.holder; rw [if_pos hs, if_neg (by omega), if_neg (by omega), if_neg (by omega), if_pos h], ((Tb.Slot.ok_of h0).1 hs).2.2.1⟩
theorem holder_0 {s : Tb.Slot} (hs : s.Ok) (h1 : s.kind ≠ 1) (h2 : s.kind ≠ 2) (h3 : s.kind ≠ 3) (h4 : s.kind ≠ 4) (h5 : s.kind ≠ 5) : Tb.holder s = (0, 0) := by
  unfold Tb.holder; rw [if_pos hs, if_neg h1, if_neg (by omega), if_neg h4, if_neg h5]
theorem holdE_z {o : Ob} {s : Tb.Slot} (h : o.fits s = 0) (hc : o.cnt s < 1073741824) : o.holdE s = 0 := by unfold Ob.holdE; rw [if_pos h, if_neg (by omega)]
theorem dropE_z {o : Ob} {s : Tb.Slot} (h : o.fits s = 0) (hc : 1 ≤ o.cnt s) : o.dropE s = 0 := by unfold Ob.dropE; rw [if_pos h, if_neg (by omega)]
theorem holdE_10 {o : Ob} {s : Tb.Slot} (h : o.fits s = 10) : o.holdE s = 10 := by unfold Ob.holdE; rw [h]; rfl
theorem dropE_10 {o : Ob} {s : Tb.Slot} (h : o.fits s = 10) : o.dropE s = 10 := by unfold Ob.dropE; rw [h]; rfl
theorem hob_noProc (i k : Int) {d : Ob} (h : d.Bald) : ((hob i k).relist d).NoProc := ⟨rfl, rfl, h.children, ⟨h.code, h.strs, rfl⟩, rfl, h.pages, h.table, rfl, rfl, rfl⟩
theorem hob_alike (i k : Int) (d : Ob) : Alike ((hob i k).relist d) (hob i k) := ⟨rfl, rfl, rfl, rfl, rfl, rfl, rfl, rfl, rfl, rfl⟩
theorem both_bald {a b : Ob} (ha : a.Bald) (hb : b.Bald) (w : World) : Both w a b [] [] [] [] [] := by
  constructor
  · rw [ha.words]; exact Nums.nil
  · rw [hb.words]; exact Nums.nil
  · rw [ha.data]; exact Bytes.nil
  · rw [hb.data]; exact Bytes.nil
  · rw [ha.q0]; exact Bytes.nil
  · rw [hb.q0]; exact Bytes.nil
  · rw [ha.q1]; exact Bytes.nil
  · rw [hb.q1]; exact Bytes.nil
  · rw [ha.backlog]; exact Nums.nil
  · rw [hb.backlog]; exact Nums.nil
  · simp
theorem same_back (i k : Int) {d : Ob} (hd : d.Bald) (W : World) : Calls Try.prog 30 #[.agg (oc ((hob i k).relist d)), .agg (oc (hob i k))] W (BoolPost true W) :=
  same_ob _ _ [] [] [] [] [] W (hob_alike i k d) hd.names rfl (both_bald (Bald.relist hd) (hob_bald i k) W) fun w _ => sameProc_none _ _ (hob_noProc i k hd) ⟨rfl, rfl, rfl, ⟨rfl, rfl, rfl⟩, rfl, rfl, rfl, rfl, rfl, rfl⟩ w

set_option maxRecDepth 100000 in
set_option maxHeartbeats 32000000 in
theorem tableKeeps_any (l : List UInt8) (A : Option Addr) (n cap : Nat) (en : Nat) (W : World) (h : Bytes W W.heap.size A n l) (hn : n ≤ cap ∧ cap ≤ 9223372036854775807) (he : en < 256) :
    Calls Try.prog 5 #[.slice A n cap, .int .u8 (en : Int)] W (BoolPost true W) := by
  have HR := hide h
  clear h
  go_enter Try.func5, Try.ntmps5
  go_wp2_with fail
  refine (sane10_any _).mono ?_
  rintro e w1 ⟨rfl, hb1⟩
  have HB1 := hide hb1
  have HR1 := hide (HR.out.below hb1)
  have hW1 := hb1.size
  clear hb1 HR
  go_wp2_with fail
  refine (new_dice W.heap.size A n cap l _ HR1.out hW1 hn).mono ?_
  rintro e w2 ⟨rfl, hD, hb2, hs2⟩
  obtain ⟨b, hb⟩ : ∃ b, w1.heap.size = b := ⟨_, rfl⟩
  have HB2 := hide (HB1.out.trans (hb2.mono hW1))
  rw [hb] at hD hs2 hW1 ⊢
  have HD2 := hide hD
  clear hD hb2 HR1 HB1 hb hs2
  go_wp2_with fail
  refine (table_dice b b _ HD2.out).mono ?_
  rintro e w3 ⟨B, m, c, t, rfl, hT, hm5, hV, hD, hB⟩
  have HT3 := hide hT
  have HV := hide hV
  have HD3 := hide hD
  have HB3 := hide (HB2.out.trans ((hB.below (by have := HD2.out.lt; omega) (Nat.le_refl _) : Below b w2 w3).mono hW1))
  have hlt2' := HD2.out.lt
  clear hT hV hD hB HD2 HB2
  go_wp2_with fail
  refine (slot_dice b b _ HD3.out).mono ?_
  rintro e w4 ⟨s, rfl, hs, hD, hB⟩
  have hlt3 := HD3.out.lt
  have HS := hide hs
  have hbb : Below b w3 w4 := hB.below (by omega) (Nat.le_refl _)
  have hlt2 : b < w2.heap.size := hlt2'
  have HT4 := hide (HT3.out.1.bel hB hlt2)
  have HMC := hide HT3.out.2
  have HB4 := hide (HB3.out.trans (hbb.mono hW1))
  clear hD hB hs hbb HD3 HT3 HB3 hlt3
  obtain ⟨k, hk⟩ : ∃ k, Tb.free t = k := ⟨_, rfl⟩
  have hkm : k ≤ 5 := by have h1 := Tb.free_le t; have h2 := HT4.out.slots.len; omega
  have HKF := hide hk
  clear hk
  have hk6 : (k : Int) ≤ 5 := by omega
  obtain ⟨wz0, hwz0, gs7, hgs7, wn0, hwn0, OZs7, ONs7, hb0, hs0⟩ := start_zslot w4 s
  subst hgs7
  clear hs0
  have T_1 := hide (HT4.out.below hb0)
  have B_1 := hide (HB4.out.trans (hb0.mono HB4.out.size))
  clear hb0 HT4 HB4
  go_wp2_with (first | (refine store_slot rfl _ _ rfl rfl (c := s) rfl OZs7 rfl ?_; rw [hwn0]) | (refine wpList_val (by rfl) (exec_load_slot0 (y := s) rfl rfl ONs7) ?_) | fail)
  refine (tbPut_any t s B m c _ _ T_1.out.slots (Nat.le_refl _) HMC.out).mono ?_
  intro e w6 hp
  obtain ⟨X, nx, cx, rfl, hX, hnx, hb6⟩ := hp.got (Tb.put_ok HV.out HS.out HKF.out (by omega))
  have HNX := hide hnx
  have HX6 := hide hX
  clear hp hX hnx
  have T_2 := hide (T_1.out.below hb6)
  have B_2 := hide (B_1.out.trans (hb6.mono B_1.out.size))
  have s7_2 := ONs7.below hb6 ONs7.lt
  clear hb6 T_1 B_1 ONs7
  go_wp2_with fail
  refine (tbGet_any (Tb.putL t s) X nx cx _ (k : Int) _ HX6.out (Nat.le_refl _) HNX.out).mono ?_
  intro e w7 hp
  obtain ⟨rfl, hb7⟩ := hp.got (Tb.putL_self HS.out.2 HKF.out)
  clear hp
  have T_3 := hide (T_2.out.below hb7)
  have B_3 := hide (B_2.out.trans (hb7.mono B_2.out.size))
  have s7_3 := s7_2.below hb7 s7_2.lt
  have X_3 := hide (HX6.out.later hb7)
  clear hb7 T_2 B_2 s7_2 HX6
  obtain ⟨wz3, hwz3, gs11, hgs11, wn3, hwn3, OZs11, ONs11, hb3, hs3⟩ := start_zslot w7 s
  subst hgs11
  clear hs3
  have T_4 := hide (T_3.out.below hb3)
  have B_4 := hide (B_3.out.trans (hb3.mono B_3.out.size))
  have s7_4 := s7_3.below hb3 s7_3.lt
  have X_4 := hide (X_3.out.later hb3)
  clear hb3 T_3 B_3 s7_3 X_3
  go_wp2_with (first | (refine store_slot rfl _ _ rfl rfl (c := s) rfl OZs11 rfl ?_; rw [hwn3]) | fail)
  have hvx : Tb.Valid (Tb.putL t s) := Tb.putL_valid HV.out HS.out.1 HS.out.2 (by have := HKF.out; omega)
  have HVX := hide hvx
  clear hvx
  refine (tbClear_any (Tb.putL t s) X nx cx _ (k : Int) _ X_4.out (Nat.le_refl _) HNX.out).mono ?_
  intro e w8 hp
  obtain ⟨Z, nz, cz, rfl, hZ, hnz, hb8⟩ := hp.got ((Tb.clear_at HVX.out (Tb.putL_self HS.out.2 HKF.out)).trans (by rw [Tb.putL_clear HV.out HKF.out]))
  have HNZ := hide hnz
  have HZ8 := hide hZ
  clear hp hZ hnz
  have T_5 := hide (T_4.out.below hb8)
  have B_5 := hide (B_4.out.trans (hb8.mono B_4.out.size))
  have s7_5 := s7_4.below hb8 s7_4.lt
  have X_5 := hide (X_4.out.later hb8)
  have s11_5 := ONs11.below hb8 ONs11.lt
  clear hb8 T_4 B_4 s7_4 X_4 ONs11
  obtain ⟨j, hj⟩ : ∃ j, en % 16 = j := ⟨_, rfl⟩
  have d1 : (en : Int) % 16 = (j : Int) := by omega
  have hj16 : j < 16 := by omega
  clear hj
  obtain ⟨ga, gh, hga⟩ : ∃ ga gh, Tb.get t (j : Int) = (ga, gh) := ⟨_, _, rfl⟩
  have HGA := hide hga
  clear hga
  go_wp2_with fail
  refine (tbGet_any t B m c _ (j : Int) _ T_5.out.slots (Nat.le_refl _) HMC.out).mono ?_
  intro e w9 hp
  obtain ⟨rfl, hb9⟩ := hp.got HGA.out
  clear hp
  have T_6 := hide (T_5.out.below hb9)
  have B_6 := hide (B_5.out.trans (hb9.mono B_5.out.size))
  have s7_6 := s7_5.below hb9 s7_5.lt
  have X_6 := hide (X_5.out.later hb9)
  have s11_6 := s11_5.below hb9 s11_5.lt
  have Z_6 := hide (HZ8.out.later hb9)
  clear hb9 T_5 B_5 s7_5 X_5 s11_5 HZ8
  obtain ⟨wz6, hwz6, gs15, hgs15, wn6, hwn6, OZs15, ONs15, hb6, hs6⟩ := start_zslot w9 ga
  subst hgs15
  clear hs6
  have T_7 := hide (T_6.out.below hb6)
  have B_7 := hide (B_6.out.trans (hb6.mono B_6.out.size))
  have s7_7 := s7_6.below hb6 s7_6.lt
  have X_7 := hide (X_6.out.later hb6)
  have s11_7 := s11_6.below hb6 s11_6.lt
  have Z_7 := hide (Z_6.out.later hb6)
  clear hb6 T_6 B_6 s7_6 X_6 s11_6 Z_6
  go_wp2_with (first | (refine store_slot rfl _ _ rfl rfl (c := ga) rfl OZs15 rfl ?_; rw [hwn6]) | fail)
  obtain ⟨gb, gj, hgb⟩ : ∃ gb gj, Tb.get (Tb.putL t s) (j : Int) = (gb, gj) := ⟨_, _, rfl⟩
  have HGB := hide hgb
  clear hgb
  refine (tbGet_any (Tb.putL t s) X nx cx _ (j : Int) _ X_7.out (Nat.le_refl _) HNX.out).mono ?_
  intro e w10 hp
  obtain ⟨rfl, hb10⟩ := hp.got HGB.out
  clear hp
  have T_8 := hide (T_7.out.below hb10)
  have B_8 := hide (B_7.out.trans (hb10.mono B_7.out.size))
  have s7_8 := s7_7.below hb10 s7_7.lt
  have X_8 := hide (X_7.out.later hb10)
  have s11_8 := s11_7.below hb10 s11_7.lt
  have Z_8 := hide (Z_7.out.later hb10)
  have s15_8 := ONs15.below hb10 ONs15.lt
  clear hb10 T_7 B_7 s7_7 X_7 s11_7 Z_7 ONs15
  obtain ⟨wz8, hwz8, gs17, hgs17, wn8, hwn8, OZs17, ONs17, hb8, hs8⟩ := start_zslot w10 gb
  subst hgs17
  clear hs8
  have T_9 := hide (T_8.out.below hb8)
  have B_9 := hide (B_8.out.trans (hb8.mono B_8.out.size))
  have s7_9 := s7_8.below hb8 s7_8.lt
  have X_9 := hide (X_8.out.later hb8)
  have s11_9 := s11_8.below hb8 s11_8.lt
  have Z_9 := hide (Z_8.out.later hb8)
  have s15_9 := s15_8.below hb8 s15_8.lt
  clear hb8 T_8 B_8 s7_8 X_8 s11_8 Z_8 s15_8
  have hss : decide (s = s) = true := by simp
  go_wp2_with (first | (refine store_slot rfl _ _ rfl rfl (c := gb) rfl OZs17 rfl ?_; rw [hwn8]) | (refine wpList_val (by rfl) (exec_load_slot0 (y := s) rfl rfl s11_9) ?_) | (refine wpList_val (by rfl) (exec_load_slot0 (y := s) rfl rfl s7_9) ?_) | (refine wpList_val (by rfl) (exec_neq_slot (x := s) (y := s) rfl rfl rfl) ?_; rw [hss]) | fail)
  refine (tbSame_any Z B nz m cz c _ t t _ Z_9.out T_9.out.slots (by have := HNZ.out; omega) (by have := HMC.out; omega)).mono ?_
  rintro e w11 ⟨rfl, hb11⟩
  rw [show decide (t = t) = true by simp]
  have T_10 := hide (T_9.out.below hb11)
  have B_10 := hide (B_9.out.trans (hb11.mono B_9.out.size))
  have s7_10 := s7_9.below hb11 s7_9.lt
  have X_10 := hide (X_9.out.later hb11)
  have s11_10 := s11_9.below hb11 s11_9.lt
  have Z_10 := hide (Z_9.out.later hb11)
  have s15_10 := s15_9.below hb11 s15_9.lt
  have s17_10 := ONs17.below hb11 ONs17.lt
  clear hb11 T_9 B_9 s7_9 X_9 s11_9 Z_9 s15_9 ONs17
  clear Z_10 T_10
  by_cases hjk : j = k
  · skip
    have z1 : ((j : Int) != (k : Int)) = false := by simp [hjk]
    clear hjk
    go_wp2_with fail
    refine (tbValid_any (Tb.putL t s) X nx cx _ X_10.out HNX.out).mono ?_
    rintro e w12 ⟨rfl, hb12⟩
    rw [decide_eq_true HVX.out]
    have B_11 := hide (B_10.out.trans (hb12.mono B_10.out.size))
    have s7_11 := s7_10.below hb12 s7_10.lt
    have X_11 := hide (X_10.out.later hb12)
    have s11_11 := s11_10.below hb12 s11_10.lt
    have s15_11 := s15_10.below hb12 s15_10.lt
    have s17_11 := s17_10.below hb12 s17_10.lt
    clear hb12 B_10 s7_10 X_10 s11_10 s15_10 s17_10
    clear X_11 s11_11 s15_11 s17_11
    go_wp2_with (first | (refine wpList_val (by rfl) (exec_load_slot0 (y := s) rfl rfl s7_11) ?_) | fail)
    refine (Holder_any s _).mono ?_
    rintro e w13 ⟨rfl, hb13⟩
    have B_12 := hide (B_11.out.trans (hb13.mono B_11.out.size))
    have s7_12 := s7_11.below hb13 s7_11.lt
    clear hb13 B_11 s7_11
    have hlt13 : w4.heap.size < w13.heap.size := s7_12.lt
    have hle13 : W.heap.size ≤ w13.heap.size := B_12.out.size
    obtain ⟨i, kd, hid⟩ : ∃ i kd, Tb.holder s = (i, kd) := ⟨_, _, rfl⟩
    have HID := hide hid
    rw [hid]
    clear hid
    obtain ⟨w14, hw14, g19, hg19, w15, hw15, OZ19, ON19, hb15, hs15⟩ := start_zob w13 (hob i 6)
    subst hg19
    clear hs15
    have B_13 := hide (B_12.out.trans (hb15.mono B_12.out.size))
    have s7_13 := s7_12.below hb15 s7_12.lt
    clear hb15 B_12 s7_12
    have q0 : w15.cell? ⟨w13.heap.size, 0, none⟩ = some (.int .u64 i) := ON19.cell 0
    have q1 : w15.cell? ⟨w13.heap.size, 1, none⟩ = some (.int .i64 6) := ON19.cell 1
    have qf := ON19.free 1
    have qs : w15.cell? ⟨w4.heap.size, 0, none⟩ = some (.int .i64 s.kind) := s7_13.cell 0
    have HSZ : Hid (w4.heap.size < w13.heap.size ∧ W.heap.size ≤ w13.heap.size) := hide ⟨hlt13, hle13⟩
    by_cases x1 : s.kind = 1
    · skip
      have x2 : True := trivial
      have x3 : True := trivial
      have x4 : True := trivial
      have x5 : True := trivial
      have y1 : (s.kind == 1) = true := by simpa using x1
      obtain ⟨hh, hi0⟩ := holder_1 HS.out.1 x1
      rw [HID.out] at hh
      obtain ⟨hi, hkd⟩ := Prod.mk.inj hh
      rw [← hi] at hi0
      have HI0 := hide hi0
      have HIK : Hid (Tb.holder s = (i, 4)) := hide (by rw [HID.out, hkd])
      have zi : (i == 0) = false := by simpa using hi0
      clear hh hi hkd hi0 x1 x2 x3 x4 x5
      obtain ⟨w16, hw16⟩ : ∃ w, w15.setCell ⟨w13.heap.size, 1, none⟩ (.int .i64 4) = w := ⟨_, rfl⟩
      have ONp : Obl w16 w13.heap.size 61 (oc (hob i 4)) := by rw [← hw16, ← hob_kind i 6 4]; exact ON19.put 1 _
      have ONs : Obl w16 w4.heap.size 25 #[.int .i64 s.kind, .int .u64 s.desc, .int .u64 s.target, .int .i64 s.fin] := by rw [← hw16]; exact s7_13.put_other (b' := w13.heap.size) (by have := HSZ.out.1; omega) 1 _
      have HBp : Hid (Below W.heap.size W w16) := hide (by rw [← hw16]; exact B_13.out.setCell (p := ⟨w13.heap.size, 1, none⟩) (by have := HSZ.out.2; simp only; omega) _)
      clear ON19 s7_13 B_13
      go_wp2_with (first | (refine store_ob rfl _ _ rfl rfl (c := hob i 6) rfl OZ19 rfl ?_; rw [hw15]) | (refine load_ob rfl _ rfl rfl ONp ?_) | (refine wpList_val (by rfl) (exec_load_slot0 (y := s) rfl rfl ONs) ?_) | fail)
      refine (tbHold_any (hob i 4) s Cont.none _ (Holds.bald (hob_bald i 4) _ _) Cont.none_short (by rw [hob_cnt]; decide)).mono ?_
      rintro e w17 ⟨⟨h0, _⟩ | ⟨h0, cc, rfl, hH⟩, hb17⟩
      · exact absurd (holdE_z (hob_fits HS.out.1 HIK.out HI0.out) (by rw [hob_cnt]; decide)) h0
      have HCB := hide hH.is_bald
      clear h0 hH
      have B_14 := hide (HBp.out.trans (hb17.mono HBp.out.size))
      have s7_14 := ONs.below hb17 ONs.lt
      have p_14 := ONp.below hb17 ONp.lt
      clear hb17 HBp ONs ONp
      obtain ⟨q, hq⟩ : ∃ q, ((hob i 4).relist cc).setCnt s ((hob i 4).cnt s + 1) = q := ⟨_, rfl⟩
      rw [hq]
      have HQB : Hid q.Bald := hide (by rw [← hq]; exact Bald.setCnt (Bald.relist HCB.out) s _)
      have HQC : Hid (q.cnt s = 1) := hide (by rw [← hq, setCnt_cnt, hob_cnt]; rfl)
      have HQF : Hid (q.fits s = 0) := hide (by rw [← hq, setCnt_fits]; exact hob_fits HS.out.1 HIK.out HI0.out)
      have HQK : Hid (∀ d : Ob, (q.relist d).setCnt s (q.cnt s - 1) = (hob i 4).relist d) := hide (fun d => by rw [HQC.out, ← hq]; exact hob_back i 4 _ cc d s)
      have HQG : Hid ((q.setCnt s (q.cnt s - 1)).gone = true) := hide (by rw [HQC.out, ← hq]; exact (hob_gone (i := i) (k := 4)).trans rfl)
      clear hq HCB
      obtain ⟨w18, hw18, g20, hg20, w19, hw19, OZ20, ON20, hb19, hs19⟩ := start_zob w17 q
      subst hg20
      clear hs19
      have B_15 := hide (B_14.out.trans (hb19.mono B_14.out.size))
      have s7_15 := s7_14.below hb19 s7_14.lt
      have p_15 := p_14.below hb19 p_14.lt
      clear hb19 B_14 s7_14 p_14
      go_wp2_with (first | (refine store_ob rfl _ _ rfl rfl (c := q) rfl OZ20 rfl ?_; rw [hw19]) | (refine load_ob rfl _ rfl rfl ON20 ?_) | (refine wpList_val (by rfl) (exec_load_slot0 (y := s) rfl rfl s7_15) ?_) | fail)
      refine (tbDrop_any q s Cont.none _ (Holds.bald HQB.out _ _) Cont.none_short (by rw [HQC.out]; decide)).mono ?_
      rintro e w20 ⟨⟨h0, rfl⟩ | ⟨h0, d, rfl, hH⟩, hb20⟩
      case inl => exact absurd (dropE_z HQF.out (by rw [HQC.out]; decide)) h0
      have HDB := hide hH.is_bald
      rw [HQK.out, HQG.out]
      clear h0 hH
      have B_16 := hide (B_15.out.trans (hb20.mono B_15.out.size))
      have s7_16 := s7_15.below hb20 s7_15.lt
      have p_16 := p_15.below hb20 p_15.lt
      have q_16 := ON20.below hb20 ON20.lt
      clear hb20 B_15 s7_15 p_15 ON20
      clear q_16
      obtain ⟨w21, hw21, g22, hg22, w22, hw22, OZ22, ON22, hb22, hs22⟩ := start_zob w20 ((hob i 4).relist d)
      subst hg22
      clear hs22
      have B_17 := hide (B_16.out.trans (hb22.mono B_16.out.size))
      have s7_17 := s7_16.below hb22 s7_16.lt
      have p_17 := p_16.below hb22 p_16.lt
      clear hb22 B_16 s7_16 p_16
      have u0 : w22.cell? ⟨w13.heap.size, 0, none⟩ = some (.int .u64 i) := p_17.cell 0
      go_wp2_with (first | (refine store_ob rfl _ _ rfl rfl (c := (hob i 4).relist d) rfl OZ22 rfl ?_; rw [hw22]) | (refine wpList_val (by rfl) (exec_load_ob rfl rfl ON22) ?_) | (refine wpList_val (by rfl) (exec_load_ob rfl rfl p_17) ?_) | fail)
      refine (same_back i 4 HDB.out _).mono ?_
      rintro e w23 ⟨rfl, hb23⟩
      have B_18 := hide (B_17.out.trans (hb23.mono B_17.out.size))
      have s7_18 := s7_17.below hb23 s7_17.lt
      have p_18 := p_17.below hb23 p_17.lt
      have r_18 := ON22.below hb23 ON22.lt
      clear hb23 B_17 s7_17 p_17 ON22
      have u1 : w23.cell? ⟨w13.heap.size, 1, none⟩ = some (.int .i64 4) := p_18.cell 1
      go_wp2_with fail
      go_ret
      exact ⟨rfl, B_18.out⟩
    by_cases x2 : s.kind = 2
    · skip
      have x3 : True := trivial
      have x4 : True := trivial
      have x5 : True := trivial
      have y1 : (s.kind == 1) = false := by simpa using x1
      have y2 : (s.kind == 2) = true := by simpa using x2
      obtain ⟨hh, hi0⟩ := holder_2 HS.out.1 (.inl x2)
      rw [HID.out] at hh
      obtain ⟨hi, hkd⟩ := Prod.mk.inj hh
      rw [← hi] at hi0
      have HI0 := hide hi0
      have HIK : Hid (Tb.holder s = (i, 5)) := hide (by rw [HID.out, hkd])
      have zi : (i == 0) = false := by simpa using hi0
      clear hh hi hkd hi0 x1 x2 x3 x4 x5
      obtain ⟨w16, hw16⟩ : ∃ w, w15.setCell ⟨w13.heap.size, 1, none⟩ (.int .i64 5) = w := ⟨_, rfl⟩
      have ONp : Obl w16 w13.heap.size 61 (oc (hob i 5)) := by rw [← hw16, ← hob_kind i 6 5]; exact ON19.put 1 _
      have ONs : Obl w16 w4.heap.size 25 #[.int .i64 s.kind, .int .u64 s.desc, .int .u64 s.target, .int .i64 s.fin] := by rw [← hw16]; exact s7_13.put_other (b' := w13.heap.size) (by have := HSZ.out.1; omega) 1 _
      have HBp : Hid (Below W.heap.size W w16) := hide (by rw [← hw16]; exact B_13.out.setCell (p := ⟨w13.heap.size, 1, none⟩) (by have := HSZ.out.2; simp only; omega) _)
      clear ON19 s7_13 B_13
      go_wp2_with (first | (refine store_ob rfl _ _ rfl rfl (c := hob i 6) rfl OZ19 rfl ?_; rw [hw15]) | (refine load_ob rfl _ rfl rfl ONp ?_) | (refine wpList_val (by rfl) (exec_load_slot0 (y := s) rfl rfl ONs) ?_) | fail)
      refine (tbHold_any (hob i 5) s Cont.none _ (Holds.bald (hob_bald i 5) _ _) Cont.none_short (by rw [hob_cnt]; decide)).mono ?_
      rintro e w17 ⟨⟨h0, _⟩ | ⟨h0, cc, rfl, hH⟩, hb17⟩
      · exact absurd (holdE_z (hob_fits HS.out.1 HIK.out HI0.out) (by rw [hob_cnt]; decide)) h0
      have HCB := hide hH.is_bald
      clear h0 hH
      have B_14 := hide (HBp.out.trans (hb17.mono HBp.out.size))
      have s7_14 := ONs.below hb17 ONs.lt
      have p_14 := ONp.below hb17 ONp.lt
      clear hb17 HBp ONs ONp
      obtain ⟨q, hq⟩ : ∃ q, ((hob i 5).relist cc).setCnt s ((hob i 5).cnt s + 1) = q := ⟨_, rfl⟩
      rw [hq]
      have HQB : Hid q.Bald := hide (by rw [← hq]; exact Bald.setCnt (Bald.relist HCB.out) s _)
      have HQC : Hid (q.cnt s = 1) := hide (by rw [← hq, setCnt_cnt, hob_cnt]; rfl)
      have HQF : Hid (q.fits s = 0) := hide (by rw [← hq, setCnt_fits]; exact hob_fits HS.out.1 HIK.out HI0.out)
      have HQK : Hid (∀ d : Ob, (q.relist d).setCnt s (q.cnt s - 1) = (hob i 5).relist d) := hide (fun d => by rw [HQC.out, ← hq]; exact hob_back i 5 _ cc d s)
      have HQG : Hid ((q.setCnt s (q.cnt s - 1)).gone = true) := hide (by rw [HQC.out, ← hq]; exact (hob_gone (i := i) (k := 5)).trans rfl)
      clear hq HCB
      obtain ⟨w18, hw18, g20, hg20, w19, hw19, OZ20, ON20, hb19, hs19⟩ := start_zob w17 q
      subst hg20
      clear hs19
      have B_15 := hide (B_14.out.trans (hb19.mono B_14.out.size))
      have s7_15 := s7_14.below hb19 s7_14.lt
      have p_15 := p_14.below hb19 p_14.lt
      clear hb19 B_14 s7_14 p_14
      go_wp2_with (first | (refine store_ob rfl _ _ rfl rfl (c := q) rfl OZ20 rfl ?_; rw [hw19]) | (refine load_ob rfl _ rfl rfl ON20 ?_) | (refine wpList_val (by rfl) (exec_load_slot0 (y := s) rfl rfl s7_15) ?_) | fail)
      refine (tbDrop_any q s Cont.none _ (Holds.bald HQB.out _ _) Cont.none_short (by rw [HQC.out]; decide)).mono ?_
      rintro e w20 ⟨⟨h0, rfl⟩ | ⟨h0, d, rfl, hH⟩, hb20⟩
      case inl => exact absurd (dropE_z HQF.out (by rw [HQC.out]; decide)) h0
      have HDB := hide hH.is_bald
      rw [HQK.out, HQG.out]
      clear h0 hH
      have B_16 := hide (B_15.out.trans (hb20.mono B_15.out.size))
      have s7_16 := s7_15.below hb20 s7_15.lt
      have p_16 := p_15.below hb20 p_15.lt
      have q_16 := ON20.below hb20 ON20.lt
      clear hb20 B_15 s7_15 p_15 ON20
      clear q_16
      obtain ⟨w21, hw21, g22, hg22, w22, hw22, OZ22, ON22, hb22, hs22⟩ := start_zob w20 ((hob i 5).relist d)
      subst hg22
      clear hs22
      have B_17 := hide (B_16.out.trans (hb22.mono B_16.out.size))
      have s7_17 := s7_16.below hb22 s7_16.lt
      have p_17 := p_16.below hb22 p_16.lt
      clear hb22 B_16 s7_16 p_16
      have u0 : w22.cell? ⟨w13.heap.size, 0, none⟩ = some (.int .u64 i) := p_17.cell 0
      go_wp2_with (first | (refine store_ob rfl _ _ rfl rfl (c := (hob i 5).relist d) rfl OZ22 rfl ?_; rw [hw22]) | (refine wpList_val (by rfl) (exec_load_ob rfl rfl ON22) ?_) | (refine wpList_val (by rfl) (exec_load_ob rfl rfl p_17) ?_) | fail)
      refine (same_back i 5 HDB.out _).mono ?_
      rintro e w23 ⟨rfl, hb23⟩
      have B_18 := hide (B_17.out.trans (hb23.mono B_17.out.size))
      have s7_18 := s7_17.below hb23 s7_17.lt
      have p_18 := p_17.below hb23 p_17.lt
      have r_18 := ON22.below hb23 ON22.lt
      clear hb23 B_17 s7_17 p_17 ON22
      have u1 : w23.cell? ⟨w13.heap.size, 1, none⟩ = some (.int .i64 5) := p_18.cell 1
      go_wp2_with fail
      go_ret
      exact ⟨rfl, B_18.out⟩
    by_cases x3 : s.kind = 3
    · skip
      have x4 : True := trivial
      have x5 : True := trivial
      have y1 : (s.kind == 1) = false := by simpa using x1
      have y2 : (s.kind == 2) = false := by simpa using x2
      have y3 : (s.kind == 3) = true := by simpa using x3
      obtain ⟨hh, hi0⟩ := holder_2 HS.out.1 (.inr x3)
      rw [HID.out] at hh
      obtain ⟨hi, hkd⟩ := Prod.mk.inj hh
      rw [← hi] at hi0
      have HI0 := hide hi0
      have HIK : Hid (Tb.holder s = (i, 5)) := hide (by rw [HID.out, hkd])
      have zi : (i == 0) = false := by simpa using hi0
      clear hh hi hkd hi0 x1 x2 x3 x4 x5
      obtain ⟨w16, hw16⟩ : ∃ w, w15.setCell ⟨w13.heap.size, 1, none⟩ (.int .i64 5) = w := ⟨_, rfl⟩
      have ONp : Obl w16 w13.heap.size 61 (oc (hob i 5)) := by rw [← hw16, ← hob_kind i 6 5]; exact ON19.put 1 _
      have ONs : Obl w16 w4.heap.size 25 #[.int .i64 s.kind, .int .u64 s.desc, .int .u64 s.target, .int .i64 s.fin] := by rw [← hw16]; exact s7_13.put_other (b' := w13.heap.size) (by have := HSZ.out.1; omega) 1 _
      have HBp : Hid (Below W.heap.size W w16) := hide (by rw [← hw16]; exact B_13.out.setCell (p := ⟨w13.heap.size, 1, none⟩) (by have := HSZ.out.2; simp only; omega) _)
      clear ON19 s7_13 B_13
      go_wp2_with (first | (refine store_ob rfl _ _ rfl rfl (c := hob i 6) rfl OZ19 rfl ?_; rw [hw15]) | (refine load_ob rfl _ rfl rfl ONp ?_) | (refine wpList_val (by rfl) (exec_load_slot0 (y := s) rfl rfl ONs) ?_) | fail)
      refine (tbHold_any (hob i 5) s Cont.none _ (Holds.bald (hob_bald i 5) _ _) Cont.none_short (by rw [hob_cnt]; decide)).mono ?_
      rintro e w17 ⟨⟨h0, _⟩ | ⟨h0, cc, rfl, hH⟩, hb17⟩
      · exact absurd (holdE_z (hob_fits HS.out.1 HIK.out HI0.out) (by rw [hob_cnt]; decide)) h0
      have HCB := hide hH.is_bald
      clear h0 hH
      have B_14 := hide (HBp.out.trans (hb17.mono HBp.out.size))
      have s7_14 := ONs.below hb17 ONs.lt
      have p_14 := ONp.below hb17 ONp.lt
      clear hb17 HBp ONs ONp
      obtain ⟨q, hq⟩ : ∃ q, ((hob i 5).relist cc).setCnt s ((hob i 5).cnt s + 1) = q := ⟨_, rfl⟩
      rw [hq]
      have HQB : Hid q.Bald := hide (by rw [← hq]; exact Bald.setCnt (Bald.relist HCB.out) s _)
      have HQC : Hid (q.cnt s = 1) := hide (by rw [← hq, setCnt_cnt, hob_cnt]; rfl)
      have HQF : Hid (q.fits s = 0) := hide (by rw [← hq, setCnt_fits]; exact hob_fits HS.out.1 HIK.out HI0.out)
      have HQK : Hid (∀ d : Ob, (q.relist d).setCnt s (q.cnt s - 1) = (hob i 5).relist d) := hide (fun d => by rw [HQC.out, ← hq]; exact hob_back i 5 _ cc d s)
      have HQG : Hid ((q.setCnt s (q.cnt s - 1)).gone = true) := hide (by rw [HQC.out, ← hq]; exact (hob_gone (i := i) (k := 5)).trans rfl)
      clear hq HCB
      obtain ⟨w18, hw18, g20, hg20, w19, hw19, OZ20, ON20, hb19, hs19⟩ := start_zob w17 q
      subst hg20
      clear hs19
      have B_15 := hide (B_14.out.trans (hb19.mono B_14.out.size))
      have s7_15 := s7_14.below hb19 s7_14.lt
      have p_15 := p_14.below hb19 p_14.lt
      clear hb19 B_14 s7_14 p_14
      go_wp2_with (first | (refine store_ob rfl _ _ rfl rfl (c := q) rfl OZ20 rfl ?_; rw [hw19]) | (refine load_ob rfl _ rfl rfl ON20 ?_) | (refine wpList_val (by rfl) (exec_load_slot0 (y := s) rfl rfl s7_15) ?_) | fail)
      refine (tbDrop_any q s Cont.none _ (Holds.bald HQB.out _ _) Cont.none_short (by rw [HQC.out]; decide)).mono ?_
      rintro e w20 ⟨⟨h0, rfl⟩ | ⟨h0, d, rfl, hH⟩, hb20⟩
      case inl => exact absurd (dropE_z HQF.out (by rw [HQC.out]; decide)) h0
      have HDB := hide hH.is_bald
      rw [HQK.out, HQG.out]
      clear h0 hH
      have B_16 := hide (B_15.out.trans (hb20.mono B_15.out.size))
      have s7_16 := s7_15.below hb20 s7_15.lt
      have p_16 := p_15.below hb20 p_15.lt
      have q_16 := ON20.below hb20 ON20.lt
      clear hb20 B_15 s7_15 p_15 ON20
      clear q_16
      obtain ⟨w21, hw21, g22, hg22, w22, hw22, OZ22, ON22, hb22, hs22⟩ := start_zob w20 ((hob i 5).relist d)
      subst hg22
      clear hs22
      have B_17 := hide (B_16.out.trans (hb22.mono B_16.out.size))
      have s7_17 := s7_16.below hb22 s7_16.lt
      have p_17 := p_16.below hb22 p_16.lt
      clear hb22 B_16 s7_16 p_16
      have u0 : w22.cell? ⟨w13.heap.size, 0, none⟩ = some (.int .u64 i) := p_17.cell 0
      go_wp2_with (first | (refine store_ob rfl _ _ rfl rfl (c := (hob i 5).relist d) rfl OZ22 rfl ?_; rw [hw22]) | (refine wpList_val (by rfl) (exec_load_ob rfl rfl ON22) ?_) | (refine wpList_val (by rfl) (exec_load_ob rfl rfl p_17) ?_) | fail)
      refine (same_back i 5 HDB.out _).mono ?_
      rintro e w23 ⟨rfl, hb23⟩
      have B_18 := hide (B_17.out.trans (hb23.mono B_17.out.size))
      have s7_18 := s7_17.below hb23 s7_17.lt
      have p_18 := p_17.below hb23 p_17.lt
      have r_18 := ON22.below hb23 ON22.lt
      clear hb23 B_17 s7_17 p_17 ON22
      have u1 : w23.cell? ⟨w13.heap.size, 1, none⟩ = some (.int .i64 5) := p_18.cell 1
      go_wp2_with fail
      go_ret
      exact ⟨rfl, B_18.out⟩
    by_cases x4 : s.kind = 4
    · skip
      have x5 : True := trivial
      have y1 : (s.kind == 1) = false := by simpa using x1
      have y2 : (s.kind == 2) = false := by simpa using x2
      have y3 : (s.kind == 3) = false := by simpa using x3
      have y4 : (s.kind == 4) = true := by simpa using x4
      obtain ⟨hh, hi0⟩ := holder_4 HS.out.1 x4
      rw [HID.out] at hh
      obtain ⟨hi, hkd⟩ := Prod.mk.inj hh
      rw [← hi] at hi0
      have HI0 := hide hi0
      have HIK : Hid (Tb.holder s = (i, 7)) := hide (by rw [HID.out, hkd])
      have zi : (i == 0) = false := by simpa using hi0
      clear hh hi hkd hi0 x1 x2 x3 x4 x5
      obtain ⟨w16, hw16⟩ : ∃ w, w15.setCell ⟨w13.heap.size, 1, none⟩ (.int .i64 7) = w := ⟨_, rfl⟩
      have ONp : Obl w16 w13.heap.size 61 (oc (hob i 7)) := by rw [← hw16, ← hob_kind i 6 7]; exact ON19.put 1 _
      have ONs : Obl w16 w4.heap.size 25 #[.int .i64 s.kind, .int .u64 s.desc, .int .u64 s.target, .int .i64 s.fin] := by rw [← hw16]; exact s7_13.put_other (b' := w13.heap.size) (by have := HSZ.out.1; omega) 1 _
      have HBp : Hid (Below W.heap.size W w16) := hide (by rw [← hw16]; exact B_13.out.setCell (p := ⟨w13.heap.size, 1, none⟩) (by have := HSZ.out.2; simp only; omega) _)
      clear ON19 s7_13 B_13
      go_wp2_with (first | (refine store_ob rfl _ _ rfl rfl (c := hob i 6) rfl OZ19 rfl ?_; rw [hw15]) | (refine load_ob rfl _ rfl rfl ONp ?_) | (refine wpList_val (by rfl) (exec_load_slot0 (y := s) rfl rfl ONs) ?_) | fail)
      refine (tbHold_any (hob i 7) s Cont.none _ (Holds.bald (hob_bald i 7) _ _) Cont.none_short (by rw [hob_cnt]; decide)).mono ?_
      rintro e w17 ⟨⟨h0, _⟩ | ⟨h0, cc, rfl, hH⟩, hb17⟩
      · exact absurd (holdE_z (hob_fits HS.out.1 HIK.out HI0.out) (by rw [hob_cnt]; decide)) h0
      have HCB := hide hH.is_bald
      clear h0 hH
      have B_14 := hide (HBp.out.trans (hb17.mono HBp.out.size))
      have s7_14 := ONs.below hb17 ONs.lt
      have p_14 := ONp.below hb17 ONp.lt
      clear hb17 HBp ONs ONp
      obtain ⟨q, hq⟩ : ∃ q, ((hob i 7).relist cc).setCnt s ((hob i 7).cnt s + 1) = q := ⟨_, rfl⟩
      rw [hq]
      have HQB : Hid q.Bald := hide (by rw [← hq]; exact Bald.setCnt (Bald.relist HCB.out) s _)
      have HQC : Hid (q.cnt s = 1) := hide (by rw [← hq, setCnt_cnt, hob_cnt]; rfl)
      have HQF : Hid (q.fits s = 0) := hide (by rw [← hq, setCnt_fits]; exact hob_fits HS.out.1 HIK.out HI0.out)
      have HQK : Hid (∀ d : Ob, (q.relist d).setCnt s (q.cnt s - 1) = (hob i 7).relist d) := hide (fun d => by rw [HQC.out, ← hq]; exact hob_back i 7 _ cc d s)
      have HQG : Hid ((q.setCnt s (q.cnt s - 1)).gone = true) := hide (by rw [HQC.out, ← hq]; exact (hob_gone (i := i) (k := 7)).trans rfl)
      clear hq HCB
      obtain ⟨w18, hw18, g20, hg20, w19, hw19, OZ20, ON20, hb19, hs19⟩ := start_zob w17 q
      subst hg20
      clear hs19
      have B_15 := hide (B_14.out.trans (hb19.mono B_14.out.size))
      have s7_15 := s7_14.below hb19 s7_14.lt
      have p_15 := p_14.below hb19 p_14.lt
      clear hb19 B_14 s7_14 p_14
      go_wp2_with (first | (refine store_ob rfl _ _ rfl rfl (c := q) rfl OZ20 rfl ?_; rw [hw19]) | (refine load_ob rfl _ rfl rfl ON20 ?_) | (refine wpList_val (by rfl) (exec_load_slot0 (y := s) rfl rfl s7_15) ?_) | fail)
      refine (tbDrop_any q s Cont.none _ (Holds.bald HQB.out _ _) Cont.none_short (by rw [HQC.out]; decide)).mono ?_
      rintro e w20 ⟨⟨h0, rfl⟩ | ⟨h0, d, rfl, hH⟩, hb20⟩
      case inl => exact absurd (dropE_z HQF.out (by rw [HQC.out]; decide)) h0
      have HDB := hide hH.is_bald
      rw [HQK.out, HQG.out]
      clear h0 hH
      have B_16 := hide (B_15.out.trans (hb20.mono B_15.out.size))
      have s7_16 := s7_15.below hb20 s7_15.lt
      have p_16 := p_15.below hb20 p_15.lt
      have q_16 := ON20.below hb20 ON20.lt
      clear hb20 B_15 s7_15 p_15 ON20
      clear q_16
      obtain ⟨w21, hw21, g22, hg22, w22, hw22, OZ22, ON22, hb22, hs22⟩ := start_zob w20 ((hob i 7).relist d)
      subst hg22
      clear hs22
      have B_17 := hide (B_16.out.trans (hb22.mono B_16.out.size))
      have s7_17 := s7_16.below hb22 s7_16.lt
      have p_17 := p_16.below hb22 p_16.lt
      clear hb22 B_16 s7_16 p_16
      have u0 : w22.cell? ⟨w13.heap.size, 0, none⟩ = some (.int .u64 i) := p_17.cell 0
      go_wp2_with (first | (refine store_ob rfl _ _ rfl rfl (c := (hob i 7).relist d) rfl OZ22 rfl ?_; rw [hw22]) | (refine wpList_val (by rfl) (exec_load_ob rfl rfl ON22) ?_) | (refine wpList_val (by rfl) (exec_load_ob rfl rfl p_17) ?_) | fail)
      refine (same_back i 7 HDB.out _).mono ?_
      rintro e w23 ⟨rfl, hb23⟩
      have B_18 := hide (B_17.out.trans (hb23.mono B_17.out.size))
      have s7_18 := s7_17.below hb23 s7_17.lt
      have p_18 := p_17.below hb23 p_17.lt
      have r_18 := ON22.below hb23 ON22.lt
      clear hb23 B_17 s7_17 p_17 ON22
      have u1 : w23.cell? ⟨w13.heap.size, 1, none⟩ = some (.int .i64 7) := p_18.cell 1
      go_wp2_with fail
      go_ret
      exact ⟨rfl, B_18.out⟩
    by_cases x5 : s.kind = 5
    · skip
      have y1 : (s.kind == 1) = false := by simpa using x1
      have y2 : (s.kind == 2) = false := by simpa using x2
      have y3 : (s.kind == 3) = false := by simpa using x3
      have y4 : (s.kind == 4) = false := by simpa using x4
      obtain ⟨hh, hi0⟩ := holder_5 HS.out.1 x5
      rw [HID.out] at hh
      obtain ⟨hi, hkd⟩ := Prod.mk.inj hh
      rw [← hi] at hi0
      have HI0 := hide hi0
      have HIK : Hid (Tb.holder s = (i, 6)) := hide (by rw [HID.out, hkd])
      have zi : (i == 0) = false := by simpa using hi0
      clear hh hi hkd hi0 x1 x2 x3 x4 x5
      go_wp2_with (first | (refine store_ob rfl _ _ rfl rfl (c := hob i 6) rfl OZ19 rfl ?_; rw [hw15]) | (refine load_ob rfl _ rfl rfl ON19 ?_) | (refine wpList_val (by rfl) (exec_load_slot0 (y := s) rfl rfl s7_13) ?_) | fail)
      refine (tbHold_any (hob i 6) s Cont.none _ (Holds.bald (hob_bald i 6) _ _) Cont.none_short (by rw [hob_cnt]; decide)).mono ?_
      rintro e w17 ⟨⟨h0, _⟩ | ⟨h0, cc, rfl, hH⟩, hb17⟩
      · exact absurd (holdE_z (hob_fits HS.out.1 HIK.out HI0.out) (by rw [hob_cnt]; decide)) h0
      have HCB := hide hH.is_bald
      clear h0 hH
      have B_14 := hide (B_13.out.trans (hb17.mono B_13.out.size))
      have s7_14 := s7_13.below hb17 s7_13.lt
      have p_14 := ON19.below hb17 ON19.lt
      clear hb17 B_13 s7_13 ON19
      obtain ⟨q, hq⟩ : ∃ q, ((hob i 6).relist cc).setCnt s ((hob i 6).cnt s + 1) = q := ⟨_, rfl⟩
      rw [hq]
      have HQB : Hid q.Bald := hide (by rw [← hq]; exact Bald.setCnt (Bald.relist HCB.out) s _)
      have HQC : Hid (q.cnt s = 1) := hide (by rw [← hq, setCnt_cnt, hob_cnt]; rfl)
      have HQF : Hid (q.fits s = 0) := hide (by rw [← hq, setCnt_fits]; exact hob_fits HS.out.1 HIK.out HI0.out)
      have HQK : Hid (∀ d : Ob, (q.relist d).setCnt s (q.cnt s - 1) = (hob i 6).relist d) := hide (fun d => by rw [HQC.out, ← hq]; exact hob_back i 6 _ cc d s)
      have HQG : Hid ((q.setCnt s (q.cnt s - 1)).gone = false) := hide (by rw [HQC.out, ← hq]; exact (hob_gone (i := i) (k := 6)).trans rfl)
      clear hq HCB
      obtain ⟨w18, hw18, g20, hg20, w19, hw19, OZ20, ON20, hb19, hs19⟩ := start_zob w17 q
      subst hg20
      clear hs19
      have B_15 := hide (B_14.out.trans (hb19.mono B_14.out.size))
      have s7_15 := s7_14.below hb19 s7_14.lt
      have p_15 := p_14.below hb19 p_14.lt
      clear hb19 B_14 s7_14 p_14
      go_wp2_with (first | (refine store_ob rfl _ _ rfl rfl (c := q) rfl OZ20 rfl ?_; rw [hw19]) | (refine load_ob rfl _ rfl rfl ON20 ?_) | (refine wpList_val (by rfl) (exec_load_slot0 (y := s) rfl rfl s7_15) ?_) | fail)
      refine (tbDrop_any q s Cont.none _ (Holds.bald HQB.out _ _) Cont.none_short (by rw [HQC.out]; decide)).mono ?_
      rintro e w20 ⟨⟨h0, rfl⟩ | ⟨h0, d, rfl, hH⟩, hb20⟩
      case inl => exact absurd (dropE_z HQF.out (by rw [HQC.out]; decide)) h0
      have HDB := hide hH.is_bald
      rw [HQK.out, HQG.out]
      clear h0 hH
      have B_16 := hide (B_15.out.trans (hb20.mono B_15.out.size))
      have s7_16 := s7_15.below hb20 s7_15.lt
      have p_16 := p_15.below hb20 p_15.lt
      have q_16 := ON20.below hb20 ON20.lt
      clear hb20 B_15 s7_15 p_15 ON20
      clear q_16
      obtain ⟨w21, hw21, g22, hg22, w22, hw22, OZ22, ON22, hb22, hs22⟩ := start_zob w20 ((hob i 6).relist d)
      subst hg22
      clear hs22
      have B_17 := hide (B_16.out.trans (hb22.mono B_16.out.size))
      have s7_17 := s7_16.below hb22 s7_16.lt
      have p_17 := p_16.below hb22 p_16.lt
      clear hb22 B_16 s7_16 p_16
      have u0 : w22.cell? ⟨w13.heap.size, 0, none⟩ = some (.int .u64 i) := p_17.cell 0
      go_wp2_with (first | (refine store_ob rfl _ _ rfl rfl (c := (hob i 6).relist d) rfl OZ22 rfl ?_; rw [hw22]) | (refine wpList_val (by rfl) (exec_load_ob rfl rfl ON22) ?_) | (refine wpList_val (by rfl) (exec_load_ob rfl rfl p_17) ?_) | fail)
      refine (same_back i 6 HDB.out _).mono ?_
      rintro e w23 ⟨rfl, hb23⟩
      have B_18 := hide (B_17.out.trans (hb23.mono B_17.out.size))
      have s7_18 := s7_17.below hb23 s7_17.lt
      have p_18 := p_17.below hb23 p_17.lt
      have r_18 := ON22.below hb23 ON22.lt
      clear hb23 B_17 s7_17 p_17 ON22
      have u1 : w23.cell? ⟨w13.heap.size, 1, none⟩ = some (.int .i64 6) := p_18.cell 1
      go_wp2_with fail
      go_ret
      exact ⟨rfl, B_18.out⟩
    have y1 : (s.kind == 1) = false := by simpa using x1
    have y2 : (s.kind == 2) = false := by simpa using x2
    have y3 : (s.kind == 3) = false := by simpa using x3
    have y4 : (s.kind == 4) = false := by simpa using x4
    have hh := holder_0 HS.out.1 x1 x2 x3 x4 x5
    rw [HID.out] at hh
    obtain ⟨rfl, _⟩ := Prod.mk.inj hh
    have HF1 := hide (holdE_10 (hob_not (k := 6) HS.out.1 (by rw [HID.out])))
    have HF2 := hide (dropE_10 (hob_not (k := 0) HS.out.1 (by rw [HID.out])))
    clear hh x1 x2 x3 x4 x5
    go_wp2_with (first | (refine store_ob rfl _ _ rfl rfl (c := hob 0 6) rfl OZ19 rfl ?_; rw [hw15]) | (refine load_ob rfl _ rfl rfl ON19 ?_) | (refine wpList_val (by rfl) (exec_load_slot0 (y := s) rfl rfl s7_13) ?_) | fail)
    refine (tbHold_any (hob 0 6) s Cont.none _ (Holds.bald (hob_bald 0 6) _ _) Cont.none_short (by rw [hob_cnt]; decide)).mono ?_
    rintro e w17 ⟨⟨h0, rfl⟩ | ⟨h0, cc, rfl, hH⟩, hb17⟩
    case inr => rw [HF1.out] at h0; cases h0
    rw [HF1.out]
    clear h0
    have B_14 := hide (B_13.out.trans (hb17.mono B_13.out.size))
    have s7_14 := s7_13.below hb17 s7_13.lt
    have p_14 := ON19.below hb17 ON19.lt
    clear hb17 B_13 s7_13 ON19
    obtain ⟨w18, hw18, g20, hg20, w19, hw19, OZ20, ON20, hb19, hs19⟩ := start_zob w17 (hob 0 0)
    subst hg20
    clear hs19
    have B_15 := hide (B_14.out.trans (hb19.mono B_14.out.size))
    have s7_15 := s7_14.below hb19 s7_14.lt
    have p_15 := p_14.below hb19 p_14.lt
    clear hb19 B_14 s7_14 p_14
    go_wp2_with (first | (refine store_ob rfl _ _ rfl rfl (c := hob 0 0) rfl OZ20 rfl ?_; rw [hw19]) | (refine load_ob rfl _ rfl rfl ON20 ?_) | (refine wpList_val (by rfl) (exec_load_slot0 (y := s) rfl rfl s7_15) ?_) | fail)
    refine (tbDrop_any (hob 0 0) s Cont.none _ (Holds.bald (hob_bald 0 0) _ _) Cont.none_short (by rw [hob_cnt]; decide)).mono ?_
    rintro e w20 ⟨⟨h0, rfl⟩ | ⟨h0, d, rfl, hH⟩, hb20⟩
    case inr => rw [HF2.out] at h0; cases h0
    rw [HF2.out]
    clear h0
    have B_16 := hide (B_15.out.trans (hb20.mono B_15.out.size))
    have s7_16 := s7_15.below hb20 s7_15.lt
    have p_16 := p_15.below hb20 p_15.lt
    have q_16 := ON20.below hb20 ON20.lt
    clear hb20 B_15 s7_15 p_15 ON20
    clear q_16
    obtain ⟨w21, hw21, g22, hg22, w22, hw22, OZ22, ON22, hb22, hs22⟩ := start_zob w20 (hob 0 0)
    subst hg22
    clear hs22
    have B_17 := hide (B_16.out.trans (hb22.mono B_16.out.size))
    have s7_17 := s7_16.below hb22 s7_16.lt
    have p_17 := p_16.below hb22 p_16.lt
    clear hb22 B_16 s7_16 p_16
    have u0 : w22.cell? ⟨w13.heap.size, 0, none⟩ = some (.int .u64 0) := p_17.cell 0
    go_wp2_with (first | (refine store_ob rfl _ _ rfl rfl (c := hob 0 0) rfl OZ22 rfl ?_; rw [hw22]) | fail)
    go_ret
    exact ⟨rfl, B_17.out⟩
  · skip
    have z1 : ((j : Int) != (k : Int)) = true := by simp; omega
    have hbb2 : gb = ga ∧ gj = gh := by have h1 := HGB.out; rw [Tb.putL_other HS.out.2 HKF.out hjk, HGA.out] at h1; exact ⟨(Prod.mk.inj h1).1.symm, (Prod.mk.inj h1).2.symm⟩
    obtain ⟨rfl, rfl⟩ := hbb2
    have haa : decide (gb = gb) = true := by simp
    have hjj : (gj != gj) = false := by simp
    clear hjk
    go_wp2_with (first | (refine wpList_val (by rfl) (exec_load_slot0 (y := gb) rfl rfl s15_10) ?_) | (refine wpList_val (by rfl) (exec_load_slot0 (y := gb) rfl rfl s17_10) ?_) | (refine wpList_val (by rfl) (exec_neq_slot (x := gb) (y := gb) rfl rfl rfl) ?_; rw [haa]) | fail)
    refine (tbValid_any (Tb.putL t s) X nx cx _ X_10.out HNX.out).mono ?_
    rintro e w12 ⟨rfl, hb12⟩
    rw [decide_eq_true HVX.out]
    have B_11 := hide (B_10.out.trans (hb12.mono B_10.out.size))
    have s7_11 := s7_10.below hb12 s7_10.lt
    have X_11 := hide (X_10.out.later hb12)
    have s11_11 := s11_10.below hb12 s11_10.lt
    have s15_11 := s15_10.below hb12 s15_10.lt
    have s17_11 := s17_10.below hb12 s17_10.lt
    clear hb12 B_10 s7_10 X_10 s11_10 s15_10 s17_10
    clear X_11 s11_11 s15_11 s17_11
    go_wp2_with (first | (refine wpList_val (by rfl) (exec_load_slot0 (y := s) rfl rfl s7_11) ?_) | fail)
    refine (Holder_any s _).mono ?_
    rintro e w13 ⟨rfl, hb13⟩
    have B_12 := hide (B_11.out.trans (hb13.mono B_11.out.size))
    have s7_12 := s7_11.below hb13 s7_11.lt
    clear hb13 B_11 s7_11
    have hlt13 : w4.heap.size < w13.heap.size := s7_12.lt
    have hle13 : W.heap.size ≤ w13.heap.size := B_12.out.size
    obtain ⟨i, kd, hid⟩ : ∃ i kd, Tb.holder s = (i, kd) := ⟨_, _, rfl⟩
    have HID := hide hid
    rw [hid]
    clear hid
    obtain ⟨w14, hw14, g19, hg19, w15, hw15, OZ19, ON19, hb15, hs15⟩ := start_zob w13 (hob i 6)
    subst hg19
    clear hs15
    have B_13 := hide (B_12.out.trans (hb15.mono B_12.out.size))
    have s7_13 := s7_12.below hb15 s7_12.lt
    clear hb15 B_12 s7_12
    have q0 : w15.cell? ⟨w13.heap.size, 0, none⟩ = some (.int .u64 i) := ON19.cell 0
    have q1 : w15.cell? ⟨w13.heap.size, 1, none⟩ = some (.int .i64 6) := ON19.cell 1
    have qf := ON19.free 1
    have qs : w15.cell? ⟨w4.heap.size, 0, none⟩ = some (.int .i64 s.kind) := s7_13.cell 0
    have HSZ : Hid (w4.heap.size < w13.heap.size ∧ W.heap.size ≤ w13.heap.size) := hide ⟨hlt13, hle13⟩
    by_cases x1 : s.kind = 1
    · skip
      have x2 : True := trivial
      have x3 : True := trivial
      have x4 : True := trivial
      have x5 : True := trivial
      have y1 : (s.kind == 1) = true := by simpa using x1
      obtain ⟨hh, hi0⟩ := holder_1 HS.out.1 x1
      rw [HID.out] at hh
      obtain ⟨hi, hkd⟩ := Prod.mk.inj hh
      rw [← hi] at hi0
      have HI0 := hide hi0
      have HIK : Hid (Tb.holder s = (i, 4)) := hide (by rw [HID.out, hkd])
      have zi : (i == 0) = false := by simpa using hi0
      clear hh hi hkd hi0 x1 x2 x3 x4 x5
      obtain ⟨w16, hw16⟩ : ∃ w, w15.setCell ⟨w13.heap.size, 1, none⟩ (.int .i64 4) = w := ⟨_, rfl⟩
      have ONp : Obl w16 w13.heap.size 61 (oc (hob i 4)) := by rw [← hw16, ← hob_kind i 6 4]; exact ON19.put 1 _
      have ONs : Obl w16 w4.heap.size 25 #[.int .i64 s.kind, .int .u64 s.desc, .int .u64 s.target, .int .i64 s.fin] := by rw [← hw16]; exact s7_13.put_other (b' := w13.heap.size) (by have := HSZ.out.1; omega) 1 _
      have HBp : Hid (Below W.heap.size W w16) := hide (by rw [← hw16]; exact B_13.out.setCell (p := ⟨w13.heap.size, 1, none⟩) (by have := HSZ.out.2; simp only; omega) _)
      clear ON19 s7_13 B_13
      go_wp2_with (first | (refine store_ob rfl _ _ rfl rfl (c := hob i 6) rfl OZ19 rfl ?_; rw [hw15]) | (refine load_ob rfl _ rfl rfl ONp ?_) | (refine wpList_val (by rfl) (exec_load_slot0 (y := s) rfl rfl ONs) ?_) | fail)
      refine (tbHold_any (hob i 4) s Cont.none _ (Holds.bald (hob_bald i 4) _ _) Cont.none_short (by rw [hob_cnt]; decide)).mono ?_
      rintro e w17 ⟨⟨h0, _⟩ | ⟨h0, cc, rfl, hH⟩, hb17⟩
      · exact absurd (holdE_z (hob_fits HS.out.1 HIK.out HI0.out) (by rw [hob_cnt]; decide)) h0
      have HCB := hide hH.is_bald
      clear h0 hH
      have B_14 := hide (HBp.out.trans (hb17.mono HBp.out.size))
      have s7_14 := ONs.below hb17 ONs.lt
      have p_14 := ONp.below hb17 ONp.lt
      clear hb17 HBp ONs ONp
      obtain ⟨q, hq⟩ : ∃ q, ((hob i 4).relist cc).setCnt s ((hob i 4).cnt s + 1) = q := ⟨_, rfl⟩
      rw [hq]
      have HQB : Hid q.Bald := hide (by rw [← hq]; exact Bald.setCnt (Bald.relist HCB.out) s _)
      have HQC : Hid (q.cnt s = 1) := hide (by rw [← hq, setCnt_cnt, hob_cnt]; rfl)
      have HQF : Hid (q.fits s = 0) := hide (by rw [← hq, setCnt_fits]; exact hob_fits HS.out.1 HIK.out HI0.out)
      have HQK : Hid (∀ d : Ob, (q.relist d).setCnt s (q.cnt s - 1) = (hob i 4).relist d) := hide (fun d => by rw [HQC.out, ← hq]; exact hob_back i 4 _ cc d s)
      have HQG : Hid ((q.setCnt s (q.cnt s - 1)).gone = true) := hide (by rw [HQC.out, ← hq]; exact (hob_gone (i := i) (k := 4)).trans rfl)
      clear hq HCB
      obtain ⟨w18, hw18, g20, hg20, w19, hw19, OZ20, ON20, hb19, hs19⟩ := start_zob w17 q
      subst hg20
      clear hs19
      have B_15 := hide (B_14.out.trans (hb19.mono B_14.out.size))
      have s7_15 := s7_14.below hb19 s7_14.lt
      have p_15 := p_14.below hb19 p_14.lt
      clear hb19 B_14 s7_14 p_14
      go_wp2_with (first | (refine store_ob rfl _ _ rfl rfl (c := q) rfl OZ20 rfl ?_; rw [hw19]) | (refine load_ob rfl _ rfl rfl ON20 ?_) | (refine wpList_val (by rfl) (exec_load_slot0 (y := s) rfl rfl s7_15) ?_) | fail)
      refine (tbDrop_any q s Cont.none _ (Holds.bald HQB.out _ _) Cont.none_short (by rw [HQC.out]; decide)).mono ?_
      rintro e w20 ⟨⟨h0, rfl⟩ | ⟨h0, d, rfl, hH⟩, hb20⟩
      case inl => exact absurd (dropE_z HQF.out (by rw [HQC.out]; decide)) h0
      have HDB := hide hH.is_bald
      rw [HQK.out, HQG.out]
      clear h0 hH
      have B_16 := hide (B_15.out.trans (hb20.mono B_15.out.size))
      have s7_16 := s7_15.below hb20 s7_15.lt
      have p_16 := p_15.below hb20 p_15.lt
      have q_16 := ON20.below hb20 ON20.lt
      clear hb20 B_15 s7_15 p_15 ON20
      clear q_16
      obtain ⟨w21, hw21, g22, hg22, w22, hw22, OZ22, ON22, hb22, hs22⟩ := start_zob w20 ((hob i 4).relist d)
      subst hg22
      clear hs22
      have B_17 := hide (B_16.out.trans (hb22.mono B_16.out.size))
      have s7_17 := s7_16.below hb22 s7_16.lt
      have p_17 := p_16.below hb22 p_16.lt
      clear hb22 B_16 s7_16 p_16
      have u0 : w22.cell? ⟨w13.heap.size, 0, none⟩ = some (.int .u64 i) := p_17.cell 0
      go_wp2_with (first | (refine store_ob rfl _ _ rfl rfl (c := (hob i 4).relist d) rfl OZ22 rfl ?_; rw [hw22]) | (refine wpList_val (by rfl) (exec_load_ob rfl rfl ON22) ?_) | (refine wpList_val (by rfl) (exec_load_ob rfl rfl p_17) ?_) | fail)
      refine (same_back i 4 HDB.out _).mono ?_
      rintro e w23 ⟨rfl, hb23⟩
      have B_18 := hide (B_17.out.trans (hb23.mono B_17.out.size))
      have s7_18 := s7_17.below hb23 s7_17.lt
      have p_18 := p_17.below hb23 p_17.lt
      have r_18 := ON22.below hb23 ON22.lt
      clear hb23 B_17 s7_17 p_17 ON22
      have u1 : w23.cell? ⟨w13.heap.size, 1, none⟩ = some (.int .i64 4) := p_18.cell 1
      go_wp2_with fail
      go_ret
      exact ⟨rfl, B_18.out⟩
    by_cases x2 : s.kind = 2
    · skip
      have x3 : True := trivial
      have x4 : True := trivial
      have x5 : True := trivial
      have y1 : (s.kind == 1) = false := by simpa using x1
      have y2 : (s.kind == 2) = true := by simpa using x2
      obtain ⟨hh, hi0⟩ := holder_2 HS.out.1 (.inl x2)
      rw [HID.out] at hh
      obtain ⟨hi, hkd⟩ := Prod.mk.inj hh
      rw [← hi] at hi0
      have HI0 := hide hi0
      have HIK : Hid (Tb.holder s = (i, 5)) := hide (by rw [HID.out, hkd])
      have zi : (i == 0) = false := by simpa using hi0
      clear hh hi hkd hi0 x1 x2 x3 x4 x5
      obtain ⟨w16, hw16⟩ : ∃ w, w15.setCell ⟨w13.heap.size, 1, none⟩ (.int .i64 5) = w := ⟨_, rfl⟩
      have ONp : Obl w16 w13.heap.size 61 (oc (hob i 5)) := by rw [← hw16, ← hob_kind i 6 5]; exact ON19.put 1 _
      have ONs : Obl w16 w4.heap.size 25 #[.int .i64 s.kind, .int .u64 s.desc, .int .u64 s.target, .int .i64 s.fin] := by rw [← hw16]; exact s7_13.put_other (b' := w13.heap.size) (by have := HSZ.out.1; omega) 1 _
      have HBp : Hid (Below W.heap.size W w16) := hide (by rw [← hw16]; exact B_13.out.setCell (p := ⟨w13.heap.size, 1, none⟩) (by have := HSZ.out.2; simp only; omega) _)
      clear ON19 s7_13 B_13
      go_wp2_with (first | (refine store_ob rfl _ _ rfl rfl (c := hob i 6) rfl OZ19 rfl ?_; rw [hw15]) | (refine load_ob rfl _ rfl rfl ONp ?_) | (refine wpList_val (by rfl) (exec_load_slot0 (y := s) rfl rfl ONs) ?_) | fail)
      refine (tbHold_any (hob i 5) s Cont.none _ (Holds.bald (hob_bald i 5) _ _) Cont.none_short (by rw [hob_cnt]; decide)).mono ?_
      rintro e w17 ⟨⟨h0, _⟩ | ⟨h0, cc, rfl, hH⟩, hb17⟩
      · exact absurd (holdE_z (hob_fits HS.out.1 HIK.out HI0.out) (by rw [hob_cnt]; decide)) h0
      have HCB := hide hH.is_bald
      clear h0 hH
      have B_14 := hide (HBp.out.trans (hb17.mono HBp.out.size))
      have s7_14 := ONs.below hb17 ONs.lt
      have p_14 := ONp.below hb17 ONp.lt
      clear hb17 HBp ONs ONp
      obtain ⟨q, hq⟩ : ∃ q, ((hob i 5).relist cc).setCnt s ((hob i 5).cnt s + 1) = q := ⟨_, rfl⟩
      rw [hq]
      have HQB : Hid q.Bald := hide (by rw [← hq]; exact Bald.setCnt (Bald.relist HCB.out) s _)
      have HQC : Hid (q.cnt s = 1) := hide (by rw [← hq, setCnt_cnt, hob_cnt]; rfl)
      have HQF : Hid (q.fits s = 0) := hide (by rw [← hq, setCnt_fits]; exact hob_fits HS.out.1 HIK.out HI0.out)
      have HQK : Hid (∀ d : Ob, (q.relist d).setCnt s (q.cnt s - 1) = (hob i 5).relist d) := hide (fun d => by rw [HQC.out, ← hq]; exact hob_back i 5 _ cc d s)
      have HQG : Hid ((q.setCnt s (q.cnt s - 1)).gone = true) := hide (by rw [HQC.out, ← hq]; exact (hob_gone (i := i) (k := 5)).trans rfl)
      clear hq HCB
      obtain ⟨w18, hw18, g20, hg20, w19, hw19, OZ20, ON20, hb19, hs19⟩ := start_zob w17 q
      subst hg20
      clear hs19
      have B_15 := hide (B_14.out.trans (hb19.mono B_14.out.size))
      have s7_15 := s7_14.below hb19 s7_14.lt
      have p_15 := p_14.below hb19 p_14.lt
      clear hb19 B_14 s7_14 p_14
      go_wp2_with (first | (refine store_ob rfl _ _ rfl rfl (c := q) rfl OZ20 rfl ?_; rw [hw19]) | (refine load_ob rfl _ rfl rfl ON20 ?_) | (refine wpList_val (by rfl) (exec_load_slot0 (y := s) rfl rfl s7_15) ?_) | fail)
      refine (tbDrop_any q s Cont.none _ (Holds.bald HQB.out _ _) Cont.none_short (by rw [HQC.out]; decide)).mono ?_
      rintro e w20 ⟨⟨h0, rfl⟩ | ⟨h0, d, rfl, hH⟩, hb20⟩
      case inl => exact absurd (dropE_z HQF.out (by rw [HQC.out]; decide)) h0
      have HDB := hide hH.is_bald
      rw [HQK.out, HQG.out]
      clear h0 hH
      have B_16 := hide (B_15.out.trans (hb20.mono B_15.out.size))
      have s7_16 := s7_15.below hb20 s7_15.lt
      have p_16 := p_15.below hb20 p_15.lt
      have q_16 := ON20.below hb20 ON20.lt
      clear hb20 B_15 s7_15 p_15 ON20
      clear q_16
      obtain ⟨w21, hw21, g22, hg22, w22, hw22, OZ22, ON22, hb22, hs22⟩ := start_zob w20 ((hob i 5).relist d)
      subst hg22
      clear hs22
      have B_17 := hide (B_16.out.trans (hb22.mono B_16.out.size))
      have s7_17 := s7_16.below hb22 s7_16.lt
      have p_17 := p_16.below hb22 p_16.lt
      clear hb22 B_16 s7_16 p_16
      have u0 : w22.cell? ⟨w13.heap.size, 0, none⟩ = some (.int .u64 i) := p_17.cell 0
      go_wp2_with (first | (refine store_ob rfl _ _ rfl rfl (c := (hob i 5).relist d) rfl OZ22 rfl ?_; rw [hw22]) | (refine wpList_val (by rfl) (exec_load_ob rfl rfl ON22) ?_) | (refine wpList_val (by rfl) (exec_load_ob rfl rfl p_17) ?_) | fail)
      refine (same_back i 5 HDB.out _).mono ?_
      rintro e w23 ⟨rfl, hb23⟩
      have B_18 := hide (B_17.out.trans (hb23.mono B_17.out.size))
      have s7_18 := s7_17.below hb23 s7_17.lt
      have p_18 := p_17.below hb23 p_17.lt
      have r_18 := ON22.below hb23 ON22.lt
      clear hb23 B_17 s7_17 p_17 ON22
      have u1 : w23.cell? ⟨w13.heap.size, 1, none⟩ = some (.int .i64 5) := p_18.cell 1
      go_wp2_with fail
      go_ret
      exact ⟨rfl, B_18.out⟩
    by_cases x3 : s.kind = 3
    · skip
      have x4 : True := trivial
      have x5 : True := trivial
      have y1 : (s.kind == 1) = false := by simpa using x1
      have y2 : (s.kind == 2) = false := by simpa using x2
      have y3 : (s.kind == 3) = true := by simpa using x3
      obtain ⟨hh, hi0⟩ := holder_2 HS.out.1 (.inr x3)
      rw [HID.out] at hh
      obtain ⟨hi, hkd⟩ := Prod.mk.inj hh
      rw [← hi] at hi0
      have HI0 := hide hi0
      have HIK : Hid (Tb.holder s = (i, 5)) := hide (by rw [HID.out, hkd])
      have zi : (i == 0) = false := by simpa using hi0
      clear hh hi hkd hi0 x1 x2 x3 x4 x5
      obtain ⟨w16, hw16⟩ : ∃ w, w15.setCell ⟨w13.heap.size, 1, none⟩ (.int .i64 5) = w := ⟨_, rfl⟩
      have ONp : Obl w16 w13.heap.size 61 (oc (hob i 5)) := by rw [← hw16, ← hob_kind i 6 5]; exact ON19.put 1 _
      have ONs : Obl w16 w4.heap.size 25 #[.int .i64 s.kind, .int .u64 s.desc, .int .u64 s.target, .int .i64 s.fin] := by rw [← hw16]; exact s7_13.put_other (b' := w13.heap.size) (by have := HSZ.out.1; omega) 1 _
      have HBp : Hid (Below W.heap.size W w16) := hide (by rw [← hw16]; exact B_13.out.setCell (p := ⟨w13.heap.size, 1, none⟩) (by have := HSZ.out.2; simp only; omega) _)
      clear ON19 s7_13 B_13
      go_wp2_with (first | (refine store_ob rfl _ _ rfl rfl (c := hob i 6) rfl OZ19 rfl ?_; rw [hw15]) | (refine load_ob rfl _ rfl rfl ONp ?_) | (refine wpList_val (by rfl) (exec_load_slot0 (y := s) rfl rfl ONs) ?_) | fail)
      refine (tbHold_any (hob i 5) s Cont.none _ (Holds.bald (hob_bald i 5) _ _) Cont.none_short (by rw [hob_cnt]; decide)).mono ?_
      rintro e w17 ⟨⟨h0, _⟩ | ⟨h0, cc, rfl, hH⟩, hb17⟩
      · exact absurd (holdE_z (hob_fits HS.out.1 HIK.out HI0.out) (by rw [hob_cnt]; decide)) h0
      have HCB := hide hH.is_bald
      clear h0 hH
      have B_14 := hide (HBp.out.trans (hb17.mono HBp.out.size))
      have s7_14 := ONs.below hb17 ONs.lt
      have p_14 := ONp.below hb17 ONp.lt
      clear hb17 HBp ONs ONp
      obtain ⟨q, hq⟩ : ∃ q, ((hob i 5).relist cc).setCnt s ((hob i 5).cnt s + 1) = q := ⟨_, rfl⟩
      rw [hq]
      have HQB : Hid q.Bald := hide (by rw [← hq]; exact Bald.setCnt (Bald.relist HCB.out) s _)
      have HQC : Hid (q.cnt s = 1) := hide (by rw [← hq, setCnt_cnt, hob_cnt]; rfl)
      have HQF : Hid (q.fits s = 0) := hide (by rw [← hq, setCnt_fits]; exact hob_fits HS.out.1 HIK.out HI0.out)
      have HQK : Hid (∀ d : Ob, (q.relist d).setCnt s (q.cnt s - 1) = (hob i 5).relist d) := hide (fun d => by rw [HQC.out, ← hq]; exact hob_back i 5 _ cc d s)
      have HQG : Hid ((q.setCnt s (q.cnt s - 1)).gone = true) := hide (by rw [HQC.out, ← hq]; exact (hob_gone (i := i) (k := 5)).trans rfl)
      clear hq HCB
      obtain ⟨w18, hw18, g20, hg20, w19, hw19, OZ20, ON20, hb19, hs19⟩ := start_zob w17 q
      subst hg20
      clear hs19
      have B_15 := hide (B_14.out.trans (hb19.mono B_14.out.size))
      have s7_15 := s7_14.below hb19 s7_14.lt
      have p_15 := p_14.below hb19 p_14.lt
      clear hb19 B_14 s7_14 p_14
      go_wp2_with (first | (refine store_ob rfl _ _ rfl rfl (c := q) rfl OZ20 rfl ?_; rw [hw19]) | (refine load_ob rfl _ rfl rfl ON20 ?_) | (refine wpList_val (by rfl) (exec_load_slot0 (y := s) rfl rfl s7_15) ?_) | fail)
      refine (tbDrop_any q s Cont.none _ (Holds.bald HQB.out _ _) Cont.none_short (by rw [HQC.out]; decide)).mono ?_
      rintro e w20 ⟨⟨h0, rfl⟩ | ⟨h0, d, rfl, hH⟩, hb20⟩
      case inl => exact absurd (dropE_z HQF.out (by rw [HQC.out]; decide)) h0
      have HDB := hide hH.is_bald
      rw [HQK.out, HQG.out]
      clear h0 hH
      have B_16 := hide (B_15.out.trans (hb20.mono B_15.out.size))
      have s7_16 := s7_15.below hb20 s7_15.lt
      have p_16 := p_15.below hb20 p_15.lt
      have q_16 := ON20.below hb20 ON20.lt
      clear hb20 B_15 s7_15 p_15 ON20
      clear q_16
      obtain ⟨w21, hw21, g22, hg22, w22, hw22, OZ22, ON22, hb22, hs22⟩ := start_zob w20 ((hob i 5).relist d)
      subst hg22
      clear hs22
      have B_17 := hide (B_16.out.trans (hb22.mono B_16.out.size))
      have s7_17 := s7_16.below hb22 s7_16.lt
      have p_17 := p_16.below hb22 p_16.lt
      clear hb22 B_16 s7_16 p_16
      have u0 : w22.cell? ⟨w13.heap.size, 0, none⟩ = some (.int .u64 i) := p_17.cell 0
      go_wp2_with (first | (refine store_ob rfl _ _ rfl rfl (c := (hob i 5).relist d) rfl OZ22 rfl ?_; rw [hw22]) | (refine wpList_val (by rfl) (exec_load_ob rfl rfl ON22) ?_) | (refine wpList_val (by rfl) (exec_load_ob rfl rfl p_17) ?_) | fail)
      refine (same_back i 5 HDB.out _).mono ?_
      rintro e w23 ⟨rfl, hb23⟩
      have B_18 := hide (B_17.out.trans (hb23.mono B_17.out.size))
      have s7_18 := s7_17.below hb23 s7_17.lt
      have p_18 := p_17.below hb23 p_17.lt
      have r_18 := ON22.below hb23 ON22.lt
      clear hb23 B_17 s7_17 p_17 ON22
      have u1 : w23.cell? ⟨w13.heap.size, 1, none⟩ = some (.int .i64 5) := p_18.cell 1
      go_wp2_with fail
      go_ret
      exact ⟨rfl, B_18.out⟩
    by_cases x4 : s.kind = 4
    · skip
      have x5 : True := trivial
      have y1 : (s.kind == 1) = false := by simpa using x1
      have y2 : (s.kind == 2) = false := by simpa using x2
      have y3 : (s.kind == 3) = false := by simpa using x3
      have y4 : (s.kind == 4) = true := by simpa using x4
      obtain ⟨hh, hi0⟩ := holder_4 HS.out.1 x4
      rw [HID.out] at hh
      obtain ⟨hi, hkd⟩ := Prod.mk.inj hh
      rw [← hi] at hi0
      have HI0 := hide hi0
      have HIK : Hid (Tb.holder s = (i, 7)) := hide (by rw [HID.out, hkd])
      have zi : (i == 0) = false := by simpa using hi0
      clear hh hi hkd hi0 x1 x2 x3 x4 x5
      obtain ⟨w16, hw16⟩ : ∃ w, w15.setCell ⟨w13.heap.size, 1, none⟩ (.int .i64 7) = w := ⟨_, rfl⟩
      have ONp : Obl w16 w13.heap.size 61 (oc (hob i 7)) := by rw [← hw16, ← hob_kind i 6 7]; exact ON19.put 1 _
      have ONs : Obl w16 w4.heap.size 25 #[.int .i64 s.kind, .int .u64 s.desc, .int .u64 s.target, .int .i64 s.fin] := by rw [← hw16]; exact s7_13.put_other (b' := w13.heap.size) (by have := HSZ.out.1; omega) 1 _
      have HBp : Hid (Below W.heap.size W w16) := hide (by rw [← hw16]; exact B_13.out.setCell (p := ⟨w13.heap.size, 1, none⟩) (by have := HSZ.out.2; simp only; omega) _)
      clear ON19 s7_13 B_13
      go_wp2_with (first | (refine store_ob rfl _ _ rfl rfl (c := hob i 6) rfl OZ19 rfl ?_; rw [hw15]) | (refine load_ob rfl _ rfl rfl ONp ?_) | (refine wpList_val (by rfl) (exec_load_slot0 (y := s) rfl rfl ONs) ?_) | fail)
      refine (tbHold_any (hob i 7) s Cont.none _ (Holds.bald (hob_bald i 7) _ _) Cont.none_short (by rw [hob_cnt]; decide)).mono ?_
      rintro e w17 ⟨⟨h0, _⟩ | ⟨h0, cc, rfl, hH⟩, hb17⟩
      · exact absurd (holdE_z (hob_fits HS.out.1 HIK.out HI0.out) (by rw [hob_cnt]; decide)) h0
      have HCB := hide hH.is_bald
      clear h0 hH
      have B_14 := hide (HBp.out.trans (hb17.mono HBp.out.size))
      have s7_14 := ONs.below hb17 ONs.lt
      have p_14 := ONp.below hb17 ONp.lt
      clear hb17 HBp ONs ONp
      obtain ⟨q, hq⟩ : ∃ q, ((hob i 7).relist cc).setCnt s ((hob i 7).cnt s + 1) = q := ⟨_, rfl⟩
      rw [hq]
      have HQB : Hid q.Bald := hide (by rw [← hq]; exact Bald.setCnt (Bald.relist HCB.out) s _)
      have HQC : Hid (q.cnt s = 1) := hide (by rw [← hq, setCnt_cnt, hob_cnt]; rfl)
      have HQF : Hid (q.fits s = 0) := hide (by rw [← hq, setCnt_fits]; exact hob_fits HS.out.1 HIK.out HI0.out)
      have HQK : Hid (∀ d : Ob, (q.relist d).setCnt s (q.cnt s - 1) = (hob i 7).relist d) := hide (fun d => by rw [HQC.out, ← hq]; exact hob_back i 7 _ cc d s)
      have HQG : Hid ((q.setCnt s (q.cnt s - 1)).gone = true) := hide (by rw [HQC.out, ← hq]; exact (hob_gone (i := i) (k := 7)).trans rfl)
      clear hq HCB
      obtain ⟨w18, hw18, g20, hg20, w19, hw19, OZ20, ON20, hb19, hs19⟩ := start_zob w17 q
      subst hg20
      clear hs19
      have B_15 := hide (B_14.out.trans (hb19.mono B_14.out.size))
      have s7_15 := s7_14.below hb19 s7_14.lt
      have p_15 := p_14.below hb19 p_14.lt
      clear hb19 B_14 s7_14 p_14
      go_wp2_with (first | (refine store_ob rfl _ _ rfl rfl (c := q) rfl OZ20 rfl ?_; rw [hw19]) | (refine load_ob rfl _ rfl rfl ON20 ?_) | (refine wpList_val (by rfl) (exec_load_slot0 (y := s) rfl rfl s7_15) ?_) | fail)
      refine (tbDrop_any q s Cont.none _ (Holds.bald HQB.out _ _) Cont.none_short (by rw [HQC.out]; decide)).mono ?_
      rintro e w20 ⟨⟨h0, rfl⟩ | ⟨h0, d, rfl, hH⟩, hb20⟩
      case inl => exact absurd (dropE_z HQF.out (by rw [HQC.out]; decide)) h0
      have HDB := hide hH.is_bald
      rw [HQK.out, HQG.out]
      clear h0 hH
      have B_16 := hide (B_15.out.trans (hb20.mono B_15.out.size))
      have s7_16 := s7_15.below hb20 s7_15.lt
      have p_16 := p_15.below hb20 p_15.lt
      have q_16 := ON20.below hb20 ON20.lt
      clear hb20 B_15 s7_15 p_15 ON20
      clear q_16
      obtain ⟨w21, hw21, g22, hg22, w22, hw22, OZ22, ON22, hb22, hs22⟩ := start_zob w20 ((hob i 7).relist d)
      subst hg22
      clear hs22
      have B_17 := hide (B_16.out.trans (hb22.mono B_16.out.size))
      have s7_17 := s7_16.below hb22 s7_16.lt
      have p_17 := p_16.below hb22 p_16.lt
      clear hb22 B_16 s7_16 p_16
      have u0 : w22.cell? ⟨w13.heap.size, 0, none⟩ = some (.int .u64 i) := p_17.cell 0
      go_wp2_with (first | (refine store_ob rfl _ _ rfl rfl (c := (hob i 7).relist d) rfl OZ22 rfl ?_; rw [hw22]) | (refine wpList_val (by rfl) (exec_load_ob rfl rfl ON22) ?_) | (refine wpList_val (by rfl) (exec_load_ob rfl rfl p_17) ?_) | fail)
      refine (same_back i 7 HDB.out _).mono ?_
      rintro e w23 ⟨rfl, hb23⟩
      have B_18 := hide (B_17.out.trans (hb23.mono B_17.out.size))
      have s7_18 := s7_17.below hb23 s7_17.lt
      have p_18 := p_17.below hb23 p_17.lt
      have r_18 := ON22.below hb23 ON22.lt
      clear hb23 B_17 s7_17 p_17 ON22
      have u1 : w23.cell? ⟨w13.heap.size, 1, none⟩ = some (.int .i64 7) := p_18.cell 1
      go_wp2_with fail
      go_ret
      exact ⟨rfl, B_18.out⟩
    by_cases x5 : s.kind = 5
    · skip
      have y1 : (s.kind == 1) = false := by simpa using x1
      have y2 : (s.kind == 2) = false := by simpa using x2
      have y3 : (s.kind == 3) = false := by simpa using x3
      have y4 : (s.kind == 4) = false := by simpa using x4
      obtain ⟨hh, hi0⟩ := holder_5 HS.out.1 x5
      rw [HID.out] at hh
      obtain ⟨hi, hkd⟩ := Prod.mk.inj hh
      rw [← hi] at hi0
      have HI0 := hide hi0
      have HIK : Hid (Tb.holder s = (i, 6)) := hide (by rw [HID.out, hkd])
      have zi : (i == 0) = false := by simpa using hi0
      clear hh hi hkd hi0 x1 x2 x3 x4 x5
      go_wp2_with (first | (refine store_ob rfl _ _ rfl rfl (c := hob i 6) rfl OZ19 rfl ?_; rw [hw15]) | (refine load_ob rfl _ rfl rfl ON19 ?_) | (refine wpList_val (by rfl) (exec_load_slot0 (y := s) rfl rfl s7_13) ?_) | fail)
      refine (tbHold_any (hob i 6) s Cont.none _ (Holds.bald (hob_bald i 6) _ _) Cont.none_short (by rw [hob_cnt]; decide)).mono ?_
      rintro e w17 ⟨⟨h0, _⟩ | ⟨h0, cc, rfl, hH⟩, hb17⟩
      · exact absurd (holdE_z (hob_fits HS.out.1 HIK.out HI0.out) (by rw [hob_cnt]; decide)) h0
      have HCB := hide hH.is_bald
      clear h0 hH
      have B_14 := hide (B_13.out.trans (hb17.mono B_13.out.size))
      have s7_14 := s7_13.below hb17 s7_13.lt
      have p_14 := ON19.below hb17 ON19.lt
      clear hb17 B_13 s7_13 ON19
      obtain ⟨q, hq⟩ : ∃ q, ((hob i 6).relist cc).setCnt s ((hob i 6).cnt s + 1) = q := ⟨_, rfl⟩
      rw [hq]
      have HQB : Hid q.Bald := hide (by rw [← hq]; exact Bald.setCnt (Bald.relist HCB.out) s _)
      have HQC : Hid (q.cnt s = 1) := hide (by rw [← hq, setCnt_cnt, hob_cnt]; rfl)
      have HQF : Hid (q.fits s = 0) := hide (by rw [← hq, setCnt_fits]; exact hob_fits HS.out.1 HIK.out HI0.out)
      have HQK : Hid (∀ d : Ob, (q.relist d).setCnt s (q.cnt s - 1) = (hob i 6).relist d) := hide (fun d => by rw [HQC.out, ← hq]; exact hob_back i 6 _ cc d s)
      have HQG : Hid ((q.setCnt s (q.cnt s - 1)).gone = false) := hide (by rw [HQC.out, ← hq]; exact (hob_gone (i := i) (k := 6)).trans rfl)
      clear hq HCB
      obtain ⟨w18, hw18, g20, hg20, w19, hw19, OZ20, ON20, hb19, hs19⟩ := start_zob w17 q
      subst hg20
      clear hs19
      have B_15 := hide (B_14.out.trans (hb19.mono B_14.out.size))
      have s7_15 := s7_14.below hb19 s7_14.lt
      have p_15 := p_14.below hb19 p_14.lt
      clear hb19 B_14 s7_14 p_14
      go_wp2_with (first | (refine store_ob rfl _ _ rfl rfl (c := q) rfl OZ20 rfl ?_; rw [hw19]) | (refine load_ob rfl _ rfl rfl ON20 ?_) | (refine wpList_val (by rfl) (exec_load_slot0 (y := s) rfl rfl s7_15) ?_) | fail)
      refine (tbDrop_any q s Cont.none _ (Holds.bald HQB.out _ _) Cont.none_short (by rw [HQC.out]; decide)).mono ?_
      rintro e w20 ⟨⟨h0, rfl⟩ | ⟨h0, d, rfl, hH⟩, hb20⟩
      case inl => exact absurd (dropE_z HQF.out (by rw [HQC.out]; decide)) h0
      have HDB := hide hH.is_bald
      rw [HQK.out, HQG.out]
      clear h0 hH
      have B_16 := hide (B_15.out.trans (hb20.mono B_15.out.size))
      have s7_16 := s7_15.below hb20 s7_15.lt
      have p_16 := p_15.below hb20 p_15.lt
      have q_16 := ON20.below hb20 ON20.lt
      clear hb20 B_15 s7_15 p_15 ON20
      clear q_16
      obtain ⟨w21, hw21, g22, hg22, w22, hw22, OZ22, ON22, hb22, hs22⟩ := start_zob w20 ((hob i 6).relist d)
      subst hg22
      clear hs22
      have B_17 := hide (B_16.out.trans (hb22.mono B_16.out.size))
      have s7_17 := s7_16.below hb22 s7_16.lt
      have p_17 := p_16.below hb22 p_16.lt
      clear hb22 B_16 s7_16 p_16
      have u0 : w22.cell? ⟨w13.heap.size, 0, none⟩ = some (.int .u64 i) := p_17.cell 0
      go_wp2_with (first | (refine store_ob rfl _ _ rfl rfl (c := (hob i 6).relist d) rfl OZ22 rfl ?_; rw [hw22]) | (refine wpList_val (by rfl) (exec_load_ob rfl rfl ON22) ?_) | (refine wpList_val (by rfl) (exec_load_ob rfl rfl p_17) ?_) | fail)
      refine (same_back i 6 HDB.out _).mono ?_
      rintro e w23 ⟨rfl, hb23⟩
      have B_18 := hide (B_17.out.trans (hb23.mono B_17.out.size))
      have s7_18 := s7_17.below hb23 s7_17.lt
      have p_18 := p_17.below hb23 p_17.lt
      have r_18 := ON22.below hb23 ON22.lt
      clear hb23 B_17 s7_17 p_17 ON22
      have u1 : w23.cell? ⟨w13.heap.size, 1, none⟩ = some (.int .i64 6) := p_18.cell 1
      go_wp2_with fail
      go_ret
      exact ⟨rfl, B_18.out⟩
    have y1 : (s.kind == 1) = false := by simpa using x1
    have y2 : (s.kind == 2) = false := by simpa using x2
    have y3 : (s.kind == 3) = false := by simpa using x3
    have y4 : (s.kind == 4) = false := by simpa using x4
    have hh := holder_0 HS.out.1 x1 x2 x3 x4 x5
    rw [HID.out] at hh
    obtain ⟨rfl, _⟩ := Prod.mk.inj hh
    have HF1 := hide (holdE_10 (hob_not (k := 6) HS.out.1 (by rw [HID.out])))
    have HF2 := hide (dropE_10 (hob_not (k := 0) HS.out.1 (by rw [HID.out])))
    clear hh x1 x2 x3 x4 x5
    go_wp2_with (first | (refine store_ob rfl _ _ rfl rfl (c := hob 0 6) rfl OZ19 rfl ?_; rw [hw15]) | (refine load_ob rfl _ rfl rfl ON19 ?_) | (refine wpList_val (by rfl) (exec_load_slot0 (y := s) rfl rfl s7_13) ?_) | fail)
    refine (tbHold_any (hob 0 6) s Cont.none _ (Holds.bald (hob_bald 0 6) _ _) Cont.none_short (by rw [hob_cnt]; decide)).mono ?_
    rintro e w17 ⟨⟨h0, rfl⟩ | ⟨h0, cc, rfl, hH⟩, hb17⟩
    case inr => rw [HF1.out] at h0; cases h0
    rw [HF1.out]
    clear h0
    have B_14 := hide (B_13.out.trans (hb17.mono B_13.out.size))
    have s7_14 := s7_13.below hb17 s7_13.lt
    have p_14 := ON19.below hb17 ON19.lt
    clear hb17 B_13 s7_13 ON19
    obtain ⟨w18, hw18, g20, hg20, w19, hw19, OZ20, ON20, hb19, hs19⟩ := start_zob w17 (hob 0 0)
    subst hg20
    clear hs19
    have B_15 := hide (B_14.out.trans (hb19.mono B_14.out.size))
    have s7_15 := s7_14.below hb19 s7_14.lt
    have p_15 := p_14.below hb19 p_14.lt
    clear hb19 B_14 s7_14 p_14
    go_wp2_with (first | (refine store_ob rfl _ _ rfl rfl (c := hob 0 0) rfl OZ20 rfl ?_; rw [hw19]) | (refine load_ob rfl _ rfl rfl ON20 ?_) | (refine wpList_val (by rfl) (exec_load_slot0 (y := s) rfl rfl s7_15) ?_) | fail)
    refine (tbDrop_any (hob 0 0) s Cont.none _ (Holds.bald (hob_bald 0 0) _ _) Cont.none_short (by rw [hob_cnt]; decide)).mono ?_
    rintro e w20 ⟨⟨h0, rfl⟩ | ⟨h0, d, rfl, hH⟩, hb20⟩
    case inr => rw [HF2.out] at h0; cases h0
    rw [HF2.out]
    clear h0
    have B_16 := hide (B_15.out.trans (hb20.mono B_15.out.size))
    have s7_16 := s7_15.below hb20 s7_15.lt
    have p_16 := p_15.below hb20 p_15.lt
    have q_16 := ON20.below hb20 ON20.lt
    clear hb20 B_15 s7_15 p_15 ON20
    clear q_16
    obtain ⟨w21, hw21, g22, hg22, w22, hw22, OZ22, ON22, hb22, hs22⟩ := start_zob w20 (hob 0 0)
    subst hg22
    clear hs22
    have B_17 := hide (B_16.out.trans (hb22.mono B_16.out.size))
    have s7_17 := s7_16.below hb22 s7_16.lt
    have p_17 := p_16.below hb22 p_16.lt
    clear hb22 B_16 s7_16 p_16
    have u0 : w22.cell? ⟨w13.heap.size, 0, none⟩ = some (.int .u64 0) := p_17.cell 0
    go_wp2_with (first | (refine store_ob rfl _ _ rfl rfl (c := hob 0 0) rfl OZ22 rfl ?_; rw [hw22]) | fail)
    go_ret
    exact ⟨rfl, B_17.out⟩
end Go.Proofs.Ytbbibbniphmgbaa
