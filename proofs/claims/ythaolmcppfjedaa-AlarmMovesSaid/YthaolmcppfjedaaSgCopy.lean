/- A process is copied with all its lists (clusterkernel/signal.copied): a contract. (Written by tools/mkprcopy.py.) -/
import Derived.Test.YthaolmcppfjedaaPrMem
import Derived.Test.YthaolmcppfjedaaRegionD
namespace Go.Proofs.Ythaolmcppfjedaa
open Go.RowKit

set_option maxRecDepth 100000 in
set_option maxHeartbeats 16000000 in
theorem sgCopied_any (o : Ob) (X : Cont) (W : World) (h : HoldsP W W.heap.size o X) (hX : X.ShortP) : Calls Try.prog 26 #[.agg (pcell o)] W (ProcPost o X W) := by
  obtain ⟨w0, hw0, P0, Q0, hb0, hs0⟩ := start_pp W o
  have HB0 := hide hb0
  have H0 := hide h
  have HX := hide hX
  have hl0 : W.heap.size + 2 ≤ w0.heap.size := by omega
  clear h hX hb0
  have k0 : w0.cell? ⟨W.heap.size, 2, none⟩ = some (.slice o.children.A o.children.n o.children.c) := P0.cell 2
  go_enter Try.func26, Try.ntmps26
  go_wp2_with fail
  refine (cloneU64_any _ (nv_one _ _) _ _ _ W.heap.size _ (H0.out.children.2.below HB0.out) HB0.out.size (by have := H0.out.children.1; have := HX.out.1; omega)).mono ?_
  rintro e v1 ⟨Achildren, cchildren, rfl, hown, hb⟩
  have O1 := P0.below hb P0.lt
  have Z1 := Q0.below hb Q0.lt
  have k1 : v1.cell? ⟨W.heap.size, 2, none⟩ = some (.slice _ _ _) := O1.cell 2
  have z1 := O1.free 2
  obtain ⟨w1, hw1⟩ : ∃ w, v1.setCell ⟨W.heap.size, 2, none⟩ (.slice Achildren o.children.n cchildren) = w := ⟨_, rfl⟩
  have P1 := O1.put 2 (.slice Achildren o.children.n cchildren)
  rw [pcell_children, hw1] at P1
  have Q1 := Z1.put_other (b' := W.heap.size) (by omega) 2 (.slice Achildren o.children.n cchildren)
  rw [hw1] at Q1
  have HF1 : Hid (Fr (W.heap.size + 2) v1 w1) := hide (by rw [← hw1]; exact Fr.put (by omega) _ _)
  have HBn : Hid (Below W.heap.size W w1) := hide (by rw [← hw1]; exact (HB0.out.trans (hb.mono HB0.out.size)).setCell (p := ⟨W.heap.size, 2, none⟩) (by simp only; omega) _)
  have HB1 := HBn
  have HS1 : Hid (Stays (W.heap.size + 2) w1 _) := hide ((Stays.own hown (by omega)).next HF1.out)
  have hl1 : W.heap.size + 2 ≤ w1.heap.size := by have := P1.lt; have := Q1.lt; omega
  have m1 : w1.cell? ⟨W.heap.size, 3, none⟩ = some (.slice o.code.A o.code.n o.code.c) := P1.cell 3
  clear hown hb HBn O1 Z1 HF1 P0 Q0 HB0 
  go_wp2_with fail
  refine (cloneIns_any _ (iv_one _) _ _ _ W.heap.size _ (H0.out.code.2.below HB1.out) HB1.out.size (by have := H0.out.code.1; have := HX.out.2.1; omega)).mono ?_
  rintro e v2 ⟨Acode, ccode, rfl, hown, hb⟩
  have O2 := P1.below hb P1.lt
  have Z2 := Q1.below hb Q1.lt
  have k2 : v2.cell? ⟨W.heap.size, 3, none⟩ = some (.slice _ _ _) := O2.cell 3
  have z2 := O2.free 3
  obtain ⟨w2, hw2⟩ : ∃ w, v2.setCell ⟨W.heap.size, 3, none⟩ (.slice Acode o.code.n ccode) = w := ⟨_, rfl⟩
  have P2 := O2.put 3 (.slice Acode o.code.n ccode)
  rw [pcell_code, hw2] at P2
  have Q2 := Z2.put_other (b' := W.heap.size) (by omega) 3 (.slice Acode o.code.n ccode)
  rw [hw2] at Q2
  have HF2 : Hid (Fr (W.heap.size + 2) v2 w2) := hide (by rw [← hw2]; exact Fr.put (by omega) _ _)
  have HBn : Hid (Below W.heap.size W w2) := hide (by rw [← hw2]; exact (HB1.out.trans (hb.mono HB1.out.size)).setCell (p := ⟨W.heap.size, 3, none⟩) (by simp only; omega) _)
  have HB2 := HBn
  have HS2 : Hid (Stays (W.heap.size + 2) w2 _) := hide (((HS1.out.next (Fr.below hb)).and (Stays.own hown (by omega))).next HF2.out)
  have hl2 : W.heap.size + 2 ≤ w2.heap.size := by have := P2.lt; have := Q2.lt; omega
  have m2 : w2.cell? ⟨W.heap.size, 4, none⟩ = some (.slice o.strs.A o.strs.n o.strs.c) := P2.cell 4
  clear hown hb HBn O2 Z2 HF2 P1 Q1 HB1 HS1
  go_wp2_with fail
  refine (cloneStr_any _ (sv_one _) _ _ _ W.heap.size _ (H0.out.strs.2.below HB2.out) HB2.out.size (by have := H0.out.strs.1; have := HX.out.2.2.1; omega)).mono ?_
  rintro e v3 ⟨Astrs, cstrs, rfl, hown, hb⟩
  have O3 := P2.below hb P2.lt
  have Z3 := Q2.below hb Q2.lt
  have k3 : v3.cell? ⟨W.heap.size, 4, none⟩ = some (.slice _ _ _) := O3.cell 4
  have z3 := O3.free 4
  obtain ⟨w3, hw3⟩ : ∃ w, v3.setCell ⟨W.heap.size, 4, none⟩ (.slice Astrs o.strs.n cstrs) = w := ⟨_, rfl⟩
  have P3 := O3.put 4 (.slice Astrs o.strs.n cstrs)
  rw [pcell_strs, hw3] at P3
  have Q3 := Z3.put_other (b' := W.heap.size) (by omega) 4 (.slice Astrs o.strs.n cstrs)
  rw [hw3] at Q3
  have HF3 : Hid (Fr (W.heap.size + 2) v3 w3) := hide (by rw [← hw3]; exact Fr.put (by omega) _ _)
  have HBn : Hid (Below W.heap.size W w3) := hide (by rw [← hw3]; exact (HB2.out.trans (hb.mono HB2.out.size)).setCell (p := ⟨W.heap.size, 4, none⟩) (by simp only; omega) _)
  have HB3 := HBn
  have HS3 : Hid (Stays (W.heap.size + 2) w3 _) := hide (((HS2.out.next (Fr.below hb)).and (Stays.own hown (by omega))).next HF3.out)
  have hl3 : W.heap.size + 2 ≤ w3.heap.size := by have := P3.lt; have := Q3.lt; omega
  have m3 : w3.cell? ⟨W.heap.size, 15, none⟩ = some (.slice o.pages.A o.pages.n o.pages.c) := P3.cell 15
  clear hown hb HBn O3 Z3 HF3 P2 Q2 HB2 HS2
  go_wp2_with fail
  refine (cloneRef_any _ (rv_one _) _ _ _ W.heap.size _ (H0.out.pages.2.below HB3.out) HB3.out.size (by have := H0.out.pages.1; have := HX.out.2.2.2.1; omega)).mono ?_
  rintro e v4 ⟨Apages, cpages, rfl, hown, hb⟩
  have O4 := P3.below hb P3.lt
  have Z4 := Q3.below hb Q3.lt
  have k4 : v4.cell? ⟨W.heap.size, 15, none⟩ = some (.slice _ _ _) := O4.cell 15
  have z4 := O4.free 15
  obtain ⟨w4, hw4⟩ : ∃ w, v4.setCell ⟨W.heap.size, 15, none⟩ (.slice Apages o.pages.n cpages) = w := ⟨_, rfl⟩
  have P4 := O4.put 15 (.slice Apages o.pages.n cpages)
  rw [pcell_pages, hw4] at P4
  have Q4 := Z4.put_other (b' := W.heap.size) (by omega) 15 (.slice Apages o.pages.n cpages)
  rw [hw4] at Q4
  have HF4 : Hid (Fr (W.heap.size + 2) v4 w4) := hide (by rw [← hw4]; exact Fr.put (by omega) _ _)
  have HBn : Hid (Below W.heap.size W w4) := hide (by rw [← hw4]; exact (HB3.out.trans (hb.mono HB3.out.size)).setCell (p := ⟨W.heap.size, 15, none⟩) (by simp only; omega) _)
  have HB4 := HBn
  have HS4 : Hid (Stays (W.heap.size + 2) w4 _) := hide (((HS3.out.next (Fr.below hb)).and (Stays.own hown (by omega))).next HF4.out)
  have hl4 : W.heap.size + 2 ≤ w4.heap.size := by have := P4.lt; have := Q4.lt; omega
  have m4 : w4.cell? ⟨W.heap.size, 16, none⟩ = some (.slice o.table.A o.table.n o.table.c) := P4.cell 16
  clear hown hb HBn O4 Z4 HF4 P3 Q3 HB3 HS3
  go_wp2_with fail
  refine (cloneSlot_any _ (stv_one _) _ _ _ W.heap.size _ (H0.out.table.2.below HB4.out) HB4.out.size (by have := H0.out.table.1; have := HX.out.2.2.2.2; omega)).mono ?_
  rintro e v5 ⟨Atable, ctable, rfl, hown, hb⟩
  have O5 := P4.below hb P4.lt
  have Z5 := Q4.below hb Q4.lt
  have k5 : v5.cell? ⟨W.heap.size, 16, none⟩ = some (.slice _ _ _) := O5.cell 16
  have z5 := O5.free 16
  obtain ⟨w5, hw5⟩ : ∃ w, v5.setCell ⟨W.heap.size, 16, none⟩ (.slice Atable o.table.n ctable) = w := ⟨_, rfl⟩
  have P5 := O5.put 16 (.slice Atable o.table.n ctable)
  rw [pcell_table, hw5] at P5
  have Q5 := Z5.put_other (b' := W.heap.size) (by omega) 16 (.slice Atable o.table.n ctable)
  rw [hw5] at Q5
  have HF5 : Hid (Fr (W.heap.size + 2) v5 w5) := hide (by rw [← hw5]; exact Fr.put (by omega) _ _)
  have HBn : Hid (Below W.heap.size W w5) := hide (by rw [← hw5]; exact (HB4.out.trans (hb.mono HB4.out.size)).setCell (p := ⟨W.heap.size, 16, none⟩) (by simp only; omega) _)
  have HB5 := HBn
  have HS5 : Hid (Stays (W.heap.size + 2) w5 _) := hide (((HS4.out.next (Fr.below hb)).and (Stays.own hown (by omega))).next HF5.out)
  have hl5 : W.heap.size + 2 ≤ w5.heap.size := by have := P5.lt; have := Q5.lt; omega
  clear hown hb HBn O5 Z5 HF5 P4 Q4 HB4 HS4
  go_wp2_with (first | (refine wpList_val (by rfl) (exec_load_proc0 rfl rfl P5) ?_) | (refine store_proc rfl _ _ rfl rfl (c := { o with children := ⟨Achildren, o.children.n, cchildren⟩, code := ⟨Acode, o.code.n, ccode⟩, strs := ⟨Astrs, o.strs.n, cstrs⟩, pages := ⟨Apages, o.pages.n, cpages⟩, table := ⟨Atable, o.table.n, ctable⟩ }) rfl Q5 rfl ?_) | fail)
  refine bodyPost_ret (ret_proc rfl _ rfl (Q5.row_same _)) rfl ?_
  refine ⟨{ o with children := ⟨Achildren, o.children.n, cchildren⟩, code := ⟨Acode, o.code.n, ccode⟩, strs := ⟨Astrs, o.strs.n, cstrs⟩, pages := ⟨Apages, o.pages.n, cpages⟩, table := ⟨Atable, o.table.n, ctable⟩ }, rfl, ?_, below_row HB5.out (by omega) _⟩
  refine ((HS5.out.next (Fr.row (by omega) _)).imp ?_).lower (Nat.le_add_right _ 2)
  rintro u ⟨⟨⟨⟨h1, h2⟩, h3⟩, h4⟩, h5⟩
  exact (⟨h1, h2, h3, h4, h5⟩ : Owns u (W.heap.size + 2) _ X).weaken (Nat.le_add_right _ 2)
theorem sgCopied_like (o : Ob) (X : Cont) (W : World) (h : HoldsP W W.heap.size o X) (hX : X.ShortP) : Calls Try.prog 26 #[.agg (pcell o)] W (ProcGive o X W) :=
  (sgCopied_any o X W h hX).mono fun _ _ ⟨_, he, hs, hb⟩ => ⟨_, he, ⟨rfl, rfl, rfl, rfl, rfl, rfl, rfl⟩, (have k := hs.now.p; ⟨k.children, k.code, k.strs, k.pages, k.table⟩), hb⟩
end Go.Proofs.Ythaolmcppfjedaa
