/- Layer 12, what the laws share: the sanity check. -/
import Derived.Test.YteaippnffmhhnaaChOps
import Derived.Test.YteaippnffmhhnaaChPort
namespace Go.Proofs.Yteaippnffmhhnaa
open Go.RowKit

/-- A guarded operation whose guard is met. -/
theorem wpList_met {P : Program} {ops : Array Oper} {rest : List Oper} {o : Oper} {a : Act} {w : World} {Q : Exit → Act → World → Prop} (hw : Region.wanted o (yielded ops a.tmps) = true) (h : ∀ K : Act → World → Prop, (∀ a' w', wpList P ops Q rest a' w' → K a' w') → o.wp P a w K Q) : wpList P ops Q (o :: rest) a w := by
  simp only [wpList, hw, if_true]
  left
  exact h _ fun _ _ h => h
theorem chan_ok {id a b k : Int} {s t : Sl} (hid : id ≠ 0) (he : 0 ≤ a ∧ a ≤ 1073741824 ∧ 0 ≤ b ∧ b ≤ 1073741824 ∧ (a ≠ 0 ∨ b ≠ 0)) (hs : s.n ≤ 64) (ht : t.n ≤ 64) (hk : k = 0 ∨ k = 1) : (Ob.chan id a b s t).ChOk k := ⟨chan_chan hid he hs ht, hk⟩
theorem New8.len {B : Nat} {w : World} {s : Sl} {P : List UInt8} (h : New8 B w s P) : s.n = P.length := h.1.len.symm
theorem New64.len {B : Nat} {w : World} {s : Sl} {I : List Int} (h : New64 B w s I) : s.n = I.length := h.1.len.symm

set_option maxRecDepth 100000 in
set_option maxHeartbeats 4000000 in
theorem chSane_any (W : World) : Calls Try.prog 7 #[] W (BoolPost true W) := by
  have HK0 := hide (chan_ok (id := 3) (a := 1) (b := 1) (k := 0) (s := noSl) (t := noSl) (by decide) (by decide) (by decide) (by decide) (.inl rfl))
  have HP0 := hide (port_port (id := 4) (r := 1) (s := noSl) (I := []) (by decide) (by decide) (by decide) ⟨by simp, List.nodup_nil⟩)
  go_enter Try.func7, Try.ntmps7
  try dsimp only [List.append]
  go_wp2_with fail
  refine (chNew_any 3 _).mono ?_
  rintro e w1 ⟨rfl, hb1⟩
  go_wp2_with fail
  refine (chWrite_ok0 (Ob.chan 3 1 1 noSl noSl) 7 [] [] _ HK0.out (by decide) (by decide) Bytes.nil Bytes.nil).mono ?_
  rintro e w2 ⟨s, t, rfl, hs, ht, hb2⟩
  have hsn := hs.len
  have htn := ht.len
  have hs1 : s.n = 1 := by simpa using hsn
  have ht0 : t.n = 0 := by simpa using htn
  obtain ⟨w3, hw3, m, hm, w4, hw4, OZ, OM, hb4, hs4⟩ := laid_ob (Ob.chan 3 1 1 s t) w2
  have HS := hide (hs.below hb4)
  have HT := hide (ht.below hb4)
  have HB := hide (hb1.trans ((hb2.trans (hb4.mono hb2.size)).mono hb1.size))
  have HK := hide (chan_ok (id := 3) (a := 1) (b := 1) (k := 1) (s := s) (t := t) (by decide) (by decide) (by omega) (by omega) (.inr rfl))
  have HK' := hide (chan_ok (id := 3) (a := 1) (b := 1) (k := 0) (s := s) (t := t) (by decide) (by decide) (by omega) (by omega) (.inl rfl))
  have HT0 := hide ht0
  clear hb1 hb2 hb4 hs ht hsn htn hs1 ht0
  go_wp2_with (first | (refine store_ob rfl _ _ rfl rfl (c := Ob.chan 3 1 1 s t) rfl OZ rfl ?_; rw [hw4]) | (refine load_ob rfl _ rfl rfl OM ?_) | fail)
  clear OZ hw3 hw4 hm hs4
  refine (chRead_ok1 (Ob.chan 3 1 1 s t) 7 [] [] _ HK.out HS.out.1 HT.out.1).mono ?_
  rintro e w5 ⟨s1, t1, rfl, _, _, hb5⟩
  obtain ⟨w6, hw6, m6, hm6, w7, hw7, OZ, _, hb7, hs7⟩ := laid_ob (Ob.chan 3 1 1 s1 t1) w5
  replace OM := (OM.below hb5 OM.lt)
  replace OM := (OM.below hb7 OM.lt)
  replace HS := hide ((HS.out.below hb5).below hb7)
  replace HT := hide ((HT.out.below hb5).below hb7)
  replace HB := hide (HB.out.trans ((hb5.trans (hb7.mono hb5.size)).mono HB.out.size))
  clear hb5 hb7
  go_wp2_with (first | (refine store_ob rfl _ _ rfl rfl (c := Ob.chan 3 1 1 s1 t1) rfl OZ rfl ?_; rw [hw7]) | (refine load_ob rfl _ rfl rfl OM ?_) | fail)
  clear OZ hw6 hw7 hm6 hs7
  refine (chRead_wait0 (Ob.chan 3 1 1 s t) [7] [] _ HK'.out HT0.out (show (0 : Int) < 1 by decide) HS.out.1 HT.out.1).mono ?_
  rintro e w8 ⟨rfl, hb8⟩
  obtain ⟨w9, hw9, m9, hm9, wa, hwa, OZ, _, hba, hsa⟩ := laid_ob Ob.zero w8
  replace OM := (OM.below hb8 OM.lt)
  replace OM := (OM.below hba OM.lt)
  replace HB := hide (HB.out.trans ((hb8.trans (hba.mono hb8.size)).mono HB.out.size))
  clear hb8 hba HS HT
  go_wp2_with (first | (refine store_ob rfl _ _ rfl rfl (c := Ob.zero) rfl OZ rfl ?_; rw [hwa]) | fail)
  clear OZ hw9 hwa hm9 hsa
  refine (chNewPort_any 4 _).mono ?_
  rintro e wb ⟨rfl, hbb⟩
  replace OM := (OM.below hbb OM.lt)
  replace HB := hide (HB.out.trans (hbb.mono HB.out.size))
  clear hbb
  go_wp2_with fail
  refine (chCall_ok (Ob.port 4 1 noSl) 3 [] _ HP0.out (by decide) (by simp) (by decide) (by decide) Nums.nil (by decide) (by decide)).mono ?_
  rintro e wc ⟨u, rfl, hu, hbc⟩
  have hun : u.n = 1 := by have := hu.len; simpa using this
  obtain ⟨wd, hwd, mp, hmp, we, hwe, OZ, OP, hbe, hse⟩ := laid_ob (Ob.port 4 1 u) wc
  replace OM := (OM.below hbc OM.lt)
  replace OM := (OM.below hbe OM.lt)
  have HU := hide (hu.below hbe)
  replace HB := hide (HB.out.trans ((hbc.trans (hbe.mono hbc.size)).mono HB.out.size))
  have HP := hide (port_port (id := 4) (r := 1) (s := u) (I := [3]) (by decide) (by decide) (by omega) ⟨by simp, by simp⟩)
  clear hbc hbe hu hun
  go_wp2_with (first | (refine store_ob rfl _ _ rfl rfl (c := Ob.port 4 1 u) rfl OZ rfl ?_; rw [hwe]) | (refine load_ob rfl _ rfl rfl OP ?_) | fail)
  clear OZ hwd hwe hmp hse
  refine (chAccept_ok (Ob.port 4 1 u) 3 [] _ HP.out HU.out.1 HU.out.2.2).mono ?_
  rintro e wf ⟨u1, rfl, _, hbf⟩
  obtain ⟨wg, hwg, mg, hmg, wh, hwh, OZ, _, hbh, hsh⟩ := laid_ob (Ob.port 4 1 u1) wf
  replace OM := (OM.below hbf OM.lt)
  replace OM := (OM.below hbh OM.lt)
  replace OP := (OP.below hbf OP.lt)
  replace OP := (OP.below hbh OP.lt)
  replace HU := hide ((HU.out.below hbf).below hbh)
  replace HB := hide (HB.out.trans ((hbf.trans (hbh.mono hbf.size)).mono HB.out.size))
  clear hbf hbh
  go_wp2_with (first | (refine store_ob rfl _ _ rfl rfl (c := Ob.port 4 1 u1) rfl OZ rfl ?_; rw [hwh]) | (refine wpList_val (by rfl) (exec_load_ob rfl rfl OM) ?_) | (go_at_call 27; refine (chValid_any _ _).mono ?_; rintro e wi ⟨rfl, hbi⟩; rw [decide_eq_true HK.out.1]; have OP2 := OP.below hbi OP.lt) | (refine wpList_val (by rfl) (exec_load_ob rfl rfl OP2) ?_) | (go_at_call 18; refine (chValidPort_any _ _ [3] (HU.out.below hbi).1 HU.out.2.2).mono ?_; rintro e wj ⟨rfl, hbj⟩; rw [decide_eq_true HP.out]) | fail)
  go_ret
  exact ⟨rfl, HB.out.trans ((hbi.trans (hbj.mono hbi.size)).mono HB.out.size)⟩
end Go.Proofs.Yteaippnffmhhnaa
