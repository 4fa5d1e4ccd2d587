/- Layer 9: package names' Find: a contract. | Layer 9: package names' New and Add: contracts. | Layer 9: the statements' own sane: a contract. -/
import Derived.Test.YtejhnfeligifgaaDoorNxPos
import Derived.Test.YtejhnfeligifgaaDoorNxNames
import Derived.Test.YtejhnfeligifgaaDoorNxInsert
import Derived.Test.YtejhnfeligifgaaDoorNmAdd
import Derived.Test.YtejhnfeligifgaaDoorNxAre
import Derived.Test.YtejhnfeligifgaaDoorObMade
import Derived.Test.YtejhnfeligifgaaDoorRegionX
namespace Go.Proofs.YtejhnfeligifgaaDoor
open Go.RowKit

set_option maxRecDepth 100000 in
set_option maxHeartbeats 8000000 in
theorem nxFind_any (o : Ob) (p : ByteArray) (l : List Nm) (E : List Nx.Ent) (W : World) (hl0 : Ents W W.heap.size o.names.A o.names.n l E) (hs : Short l) (HM0 : Mx W) : Calls Tryd.prog 14 #[.agg (oc o), .string p] W (FindIs (o.found E p.data.toList) W) := by
  have hl := hl0.nms
  obtain ⟨w1, hw, O, OR, hb, hs1⟩ : ∃ w1, (W.alloc (.cells (oc o) 41)).alloc (.cells #[.string ⟨#[]⟩, .int .i64 0, .slice none 0 0] 51) = w1 ∧ Obl w1 W.heap.size 41 (oc o) ∧ Obl w1 (W.heap.size + 1) 51 #[.string ⟨#[]⟩, .int .i64 0, .slice none 0 0] ∧ Below W.heap.size W w1 ∧ w1.heap.size = W.heap.size + 2 := by
    refine ⟨_, rfl, (Obl.make W _ _).alloc _, ?_, ((Below.refl _ _).alloc (Nat.le_refl _) _).alloc (by simp) _, by simp⟩
    have := Obl.make (W.alloc (.cells (oc o) 41)) 51 #[.string ⟨#[]⟩, .int .i64 0, .slice none 0 0]
    rwa [World.size_alloc] at this
  have HB0 := hide hb
  have HL := hide hl
  have HEN := hide hl0
  have HM := hide HM0
  have HNO := hide (show ¬ o.Names E → o.found E p.data.toList = none from fun h => if_neg h)
  have HYE := hide (show o.Names E → o.found E p.data.toList = Nx.find E p.data.toList ∧ o.names.n ≤ 1000 ∧ Nx.Asc E from fun h => ⟨if_pos h, by have := h.2.2.1; omega, Nx.asc_of_space h.2.2.2.1⟩)
  have HS := hide hs
  clear hl hl0 hs HM0
  go_enter Tryd.func14, Tryd.ntmps14
  go_wp2_with (first | (refine load_ob rfl _ rfl rfl O ?_) | fail)
  refine (nxNames_any o l E _ ((HEN.out.below hb).mono hb.size) HS.out (HM.out.below hb)).mono ?_
  rintro e w2 ⟨rfl, hb2⟩
  obtain ⟨bv, hbv⟩ : ∃ bv, decide (o.Names E) = bv := ⟨_, rfl⟩
  rw [hbv]
  have HBV := hide hbv
  clear hbv
  replace O := O.below hb2 O.lt
  replace OR := OR.below hb2 OR.lt
  have HB := hide (HB0.out.trans (hb2.mono HB0.out.size))
  clear hb hb2 HB0 hw hs1
  cases bv with
  | false =>
    have HR := hide (HNO.out (of_decide_eq_false HBV.out))
    clear HNO HYE HBV
    go_wp2_with (first | (refine store_nm rfl _ _ rfl rfl (c := ⟨[], 0, ⟨none, 0, 0⟩⟩) rfl OR rfl ?_) | fail)
    refine bodyPost_ret (ret_nm2 rfl _ rfl (OR.row_same (nc ⟨[], 0, ⟨none, 0, 0⟩⟩))) rfl ?_
    exact ⟨.inr ⟨HR.out, rfl⟩, below_row HB.out (by omega) _⟩
  | true =>
    obtain ⟨hr0, hn, has⟩ := HYE.out (of_decide_eq_true HBV.out)
    have HR := hide hr0
    have HAS := hide has
    clear HNO HYE HBV hr0 has
    have k35 : w2.cell? ⟨W.heap.size, 35, none⟩ = some (.slice o.names.A o.names.n o.names.c) := O.cell 35
    go_wp2_with fail
    refine (nxPos_any o.names.A o.names.n o.names.c l E p _ ((HEN.out.below HB.out).mono HB.out.size) HAS.out hn).mono ?_
    rintro e w3 ⟨i, hp, rfl, hb3⟩
    have HP := hide hp
    replace O := O.below hb3 O.lt
    replace OR := OR.below hb3 OR.lt
    replace HB := hide (HB.out.trans (hb3.mono HB.out.size))
    clear hp hb3 k35
    cases hf : Nx.find E p.data.toList with
    | none =>
      have HF := hide (HR.out.trans hf)
      rw [show (none : Option Nx.Ent).isSome = false from rfl]
      clear hf HR HP
      go_wp2_with (first | (refine store_nm rfl _ _ rfl rfl (c := ⟨[], 0, ⟨none, 0, 0⟩⟩) rfl OR rfl ?_) | fail)
      refine bodyPost_ret (ret_nm2 rfl _ rfl (OR.row_same (nc ⟨[], 0, ⟨none, 0, 0⟩⟩))) rfl ?_
      exact ⟨.inr ⟨HF.out, rfl⟩, below_row HB.out (by omega) _⟩
    | some z =>
      have HF := hide (HR.out.trans hf)
      rw [show (some z).isSome = true from rfl]
      obtain ⟨hiE, hez⟩ := HP.out.there HAS.out hf
      have hin : i < o.names.n := by have := HEN.out.len; omega
      clear hf HR HP
      have hLr := HL.out.below HB.out
      obtain ⟨b1, f1, hkl, hA, hb1, c0, c1, c2, _⟩ := hLr.at_ hin
      have hEr := HEN.out.below HB.out
      obtain ⟨_, _, _, hII⟩ := hEr.ent hin
      have HPT := hide (show l[i].path = z.path ∧ l[i].kind = z.kind from by
        have := hEr.2.2 i hkl hiE
        rw [hez] at this
        exact ⟨this.1, this.2.1⟩)
      rw [hez] at hII
      have hy := hide (HS.out _ (List.getElem_mem hkl))
      have k35 : w3.cell? ⟨W.heap.size, 35, none⟩ = some (.slice (some ⟨b1, f1, none⟩) o.names.n o.names.c) := (O.cell 35).trans (by show some (Value.slice o.names.A o.names.n o.names.c) = _; rw [hA])
      have hin' : (i : Int) < (o.names.n : Int) := by omega
      have hn' : (o.names.n : Int) ≤ 1000 := by omega
      generalize l[i] = y at *
      have HII := hide hII
      clear hez hLr hEr hII hA
      generalize o.names.n = n at *
      go_wp2_with (first | (refine wpList_val (by rfl) (exec_load_nmid rfl rfl c0 c1 c2) ?_) | fail)
      refine (nxCopied_any y W.heap.size z.ids _ HII.out HB.out.size hy.out.2).mono ?_
      rintro e w5 ⟨A5, c5, rfl, hown5, hb5⟩
      have HO5 := hide (own_weaken hown5 (show W.heap.size + 2 ≤ w3.heap.size by have := OR.lt; omega))
      clear hown5
      have OR5 := OR.below hb5 OR.lt
      have HB5 := hide (HB.out.trans (hb5.mono HB.out.size))
      clear hb5 OR HB
      go_wp2_with (first | (refine store_nm rfl _ _ rfl rfl (c := ⟨y.path, y.kind, ⟨A5, y.ids.n, c5⟩⟩) rfl OR5 rfl ?_) | fail)
      refine bodyPost_ret (ret_nm2 rfl _ rfl (OR5.row_same (nc ⟨y.path, y.kind, ⟨A5, y.ids.n, c5⟩⟩))) rfl ?_
      exact ⟨.inl ⟨_, z, HF.out, rfl, HPT.out.1, HPT.out.2, own_weaken (own_keep HO5.out (keep_row (m := W.heap.size + 1) (by omega) _)) (by omega)⟩, below_row HB5.out (by omega) _⟩
end Go.Proofs.YtejhnfeligifgaaDoor
namespace Go.Proofs.YtejhnfeligifgaaDoor
open Go.RowKit

/-- A name space of some entries. -/
def Ob.dir (s : Sl) : Ob := { Ob.zero with id := 1, kind := 10, names := s }
set_option maxRecDepth 100000 in
set_option maxHeartbeats 2000000 in
theorem nxNew_any (W : World) : Calls Tryd.prog 26 #[] W (ObPost (Ob.dir ⟨none, 0, 0⟩) W) := by
  obtain ⟨w1, hw, O, hb, hs⟩ := start_z W
  have HB := hide hb
  clear hb
  go_enter Tryd.func26, Tryd.ntmps26
  go_wp2_with (first | (refine store_ob rfl _ _ rfl rfl (c := Ob.dir ⟨none, 0, 0⟩) rfl O rfl ?_) | fail)
  refine bodyPost_ret (ret_ob rfl _ rfl (O.row_same _)) rfl ?_
  exact ⟨rfl, below_row HB.out (Nat.le_refl _) _⟩
/-- A name space of lists of its own, or nothing and the error. -/
def DirIs (r : Int) (F : List Nx.Ent) (w : World) (e : Ending) (w' : World) : Prop :=
  (r = 0 ∧ ∃ A n c l, e = .returned (.tuple #[.agg (oc (Ob.dir ⟨A, n, c⟩)), .int .i64 0]) ∧ NmOutE w' w.heap.size A n c l F ∧ Below w.heap.size w w') ∨
  (r ≠ 0 ∧ e = .returned (.tuple #[.agg (oc Ob.zero), .int .i64 r]) ∧ Below w.heap.size w w')
theorem DirIs.no {F : List Nx.Ent} {w w' : World} {r s : Int} (h : r = s) (hr : s ≠ 0) (hb : Below w.heap.size w w') : DirIs r F w (.returned (.tuple #[.agg (oc Ob.zero), .int .i64 s])) w' := .inr ⟨by rw [h]; exact hr, by rw [h], hb⟩
theorem Short.take {l : List Nm} (h : Short l) (i : Nat) : Short (l.take i) := fun x hx => h x (List.mem_of_mem_take hx)
/-- One entry put between. -/
theorem NmOutE.put {w w' : World} {base n c n' c' i : Nat} {A A' : Option Addr} {l : List Nm} {F : List Nx.Ent} {y : Nm} {z : Nx.Ent} (h : NmOutE w base A n c l F) (hi : i ≤ n) (hy : y.path.length ≤ 1000 ∧ y.ids.n ≤ 1000) (hz : y.path = z.path ∧ y.kind = z.kind ∧ w.ownsRow base 22 1 (.slice y.ids.A y.ids.n y.ids.c) y.ids.n (nv .u64 z.ids))
    (hown : w'.ownsRow base 51 3 (.slice A' n' c') n' (nmv (l.take i ++ y :: l.drop i))) (hg : w.grownBy w' (blk A)) : NmOutE w' base A' n' c' (l.take i ++ y :: l.drop i) (F.take i ++ z :: F.drop i) := by
  have hl := own_nmv h.own.1
  have hF := h.has.1
  have hkeep : ∀ (x : Nm) (I : List Int), w.ownsRow base 22 1 (.slice x.ids.A x.ids.n x.ids.c) x.ids.n (nv .u64 I) → w'.ownsRow base 22 1 (.slice x.ids.A x.ids.n x.ids.c) x.ids.n (nv .u64 I) :=
    fun x I hI => hI.kept hg (own_apart hI h.own.1 (by decide))
  have hmem : ∀ x ∈ l.take i ++ y :: l.drop i, x = y ∨ x ∈ l := fun x hx => by
    rcases List.mem_append.1 hx with hx | hx
    · exact .inr (List.mem_of_mem_take hx)
    · rcases List.mem_cons.1 hx with hx | hx
      · exact .inl hx
      · exact .inr (List.mem_of_mem_drop hx)
  refine ⟨⟨hown, fun x hx => ?_⟩, fun x hx => ?_, Nat.le_trans h.base_le hg.size, ?_, fun k h1 h2 => ?_⟩
  · rcases hmem x hx with rfl | hx
    · exact ⟨_, hkeep _ _ hz.2.2⟩
    · obtain ⟨I, hI⟩ := h.own.2 x hx
      exact ⟨I, hkeep _ _ hI⟩
  · rcases hmem x hx with rfl | hx
    · exact hy
    · exact h.short x hx
  · simp only [List.length_append, List.length_cons, List.length_take, List.length_drop]; omega
  · rcases Nat.lt_trichotomy k i with hk | hk | hk
    · have e1 : (l.take i ++ y :: l.drop i)[k] = l[k]'(by omega) := by rw [List.getElem_append_left (by rw [List.length_take]; omega), List.getElem_take]
      have e2 : (F.take i ++ z :: F.drop i)[k] = F[k]'(by omega) := by rw [List.getElem_append_left (by rw [List.length_take]; omega), List.getElem_take]
      rw [e1, e2]
      obtain ⟨a, b, d⟩ := h.has.2 k (by omega) (by omega)
      exact ⟨a, b, hkeep _ _ d⟩
    · subst hk
      have e1 : (l.take k ++ y :: l.drop k)[k] = y := by rw [List.getElem_append_right (by rw [List.length_take]; omega)]; simp only [List.length_take, Nat.min_eq_left (show k ≤ l.length by omega), Nat.sub_self, List.getElem_cons_zero]
      have e2 : (F.take k ++ z :: F.drop k)[k] = z := by rw [List.getElem_append_right (by rw [List.length_take]; omega)]; simp only [List.length_take, Nat.min_eq_left (show k ≤ F.length by omega), Nat.sub_self, List.getElem_cons_zero]
      rw [e1, e2]
      exact ⟨hz.1, hz.2.1, hkeep _ _ hz.2.2⟩
    · obtain ⟨q, rfl⟩ : ∃ q, k = i + (q + 1) := ⟨k - i - 1, by omega⟩
      have hq : i + q < l.length := by simp only [List.length_append, List.length_cons, List.length_take, List.length_drop] at h1; omega
      have e1 : (l.take i ++ y :: l.drop i)[i + (q + 1)] = l[i + q] := by
        rw [List.getElem_append_right (by rw [List.length_take]; omega)]
        simp only [List.length_take, Nat.min_eq_left (show i ≤ l.length by omega), Nat.add_sub_cancel_left, List.getElem_cons_succ, List.getElem_drop]
      have e2 : (F.take i ++ z :: F.drop i)[i + (q + 1)] = F[i + q]'(by omega) := by
        rw [List.getElem_append_right (by rw [List.length_take]; omega)]
        simp only [List.length_take, Nat.min_eq_left (show i ≤ F.length by omega), Nat.add_sub_cancel_left, List.getElem_cons_succ, List.getElem_drop]
      rw [e1, e2]
      obtain ⟨a, b, d⟩ := h.has.2 (i + q) (by omega) (by omega)
      exact ⟨a, b, hkeep _ _ d⟩
set_option maxRecDepth 100000 in
set_option maxHeartbeats 8000000 in
theorem nxAdd_any (o : Ob) (x : Nm) (l : List Nm) (E : List Nx.Ent) (I : List Int) (W : World) (hl0 : Ents W W.heap.size o.names.A o.names.n l E) (hs : Short l) (HM0 : Mx W) (hx : x.path.length ≤ 1000 ∧ x.ids.n ≤ 1000) (hI : Nums .u64 W W.heap.size x.ids.A x.ids.n I) :
    Calls Tryd.prog 21 #[.agg (oc o), .agg (nc x)] W (DirIs (o.addErr E ⟨x.path, x.kind, I⟩) (Nx.insert E ⟨x.path, x.kind, I⟩) W) := by
  obtain ⟨w1, hw, O, OX, OR, hb, hs1⟩ : ∃ w1, ((W.alloc (.cells (oc o) 41)).alloc (.cells (nc x) 51)).alloc (.cells #[.int .u64 0, .int .i64 0, .int .i64 0, .int .i64 0, .int .u64 0, .slice none 0 0, .slice none 0 0, .slice none 0 0, .int .i64 0, .int .i64 0, .int .i64 0, .int .i64 0, .int .i64 0, .int .i64 0, .int .i64 0, .int .i64 0, .int .i64 0, .int .i64 0,
      .slice none 0 0, .slice none 0 0, .int .i64 0, .int .i64 0, .int .i64 0, .slice none 0 0, .slice none 0 0, .int .i64 0, .int .u64 0, .int .i64 0, .int .i64 0, .slice none 0 0, .slice none 0 0, .slice none 0 0, .int .i64 0, .int .i64 0, .int .i64 0, .slice none 0 0] 41) = w1 ∧
      Obl w1 W.heap.size 41 (oc o) ∧ Obl w1 (W.heap.size + 1) 51 (nc x) ∧ Obl w1 (W.heap.size + 2) 41 (oc Ob.zero) ∧ Below W.heap.size W w1 ∧ w1.heap.size = W.heap.size + 3 := by
    refine ⟨_, rfl, ((Obl.make W _ _).alloc _).alloc _, ?_, ?_, (((Below.refl _ _).alloc (Nat.le_refl _) _).alloc (by simp) _).alloc (by simp; omega) _, by simp⟩
    · have := (Obl.make (W.alloc (.cells (oc o) 41)) 51 (nc x)).alloc (.cells (oc Ob.zero) 41)
      rw [World.size_alloc] at this
      exact this
    · have := Obl.make ((W.alloc (.cells (oc o) 41)).alloc (.cells (nc x) 51)) 41 (oc Ob.zero)
      rw [World.size_alloc, World.size_alloc] at this
      exact this
  have HB := hide hb
  have HEN := hide hl0
  have HER := hide (show o.addErr E ⟨x.path, x.kind, I⟩ = _ from rfl)
  unfold Ob.addErr at HER
  have HS := hide hs
  have HX := hide hx
  have HI := hide hI
  have HM := hide HM0
  clear hb hl0 hs hx hI HM0
  go_enter Tryd.func21, Tryd.ntmps21
  go_wp2_with (first | (refine load_ob rfl _ rfl rfl O ?_) | fail)
  refine (nxNames_any o l E _ ((HEN.out.below HB.out).mono HB.out.size) HS.out (HM.out.below HB.out)).mono ?_
  rintro e w2 ⟨rfl, hb2⟩
  obtain ⟨bv, hbv⟩ : ∃ bv, decide (o.Names E) = bv := ⟨_, rfl⟩
  rw [hbv]
  have HBV := hide hbv
  clear hbv
  replace O := O.below hb2 O.lt
  replace OX := OX.below hb2 OX.lt
  replace OR := OR.below hb2 OR.lt
  replace HB := hide (HB.out.trans (hb2.mono HB.out.size))
  clear hb2 hw hs1
  cases bv with
  | false =>
    have HF := hide (show o.addErr E ⟨x.path, x.kind, I⟩ = 1 from if_neg (fun h => of_decide_eq_false HBV.out h.1))
    clear HER
    go_wp2_with (first | (refine store_ob rfl _ _ rfl rfl (c := Ob.zero) rfl OR rfl ?_) | fail)
    refine bodyPost_ret (ret_ob2 rfl _ rfl (OR.row_same (oc Ob.zero))) rfl ?_
    exact DirIs.no HF.out (by decide) (below_row HB.out (by omega) _)
  | true =>
    have HQ := hide (show x.path.length ≤ 9223372036854775807 ∧ x.ids.n ≤ 9223372036854775807 from ⟨by have := HX.out.1; omega, by have := HX.out.2; omega⟩)
    go_wp2_with (first | (refine wpList_val (by rfl) (exec_load_nm rfl rfl OX) ?_) | fail)
    go_at_call 51
    refine (nxEntry_any x W.heap.size I _ (HI.out.below HB.out) (by have := HB.out.size; omega) (HM.out.below HB.out) HQ.out.2 HQ.out.1).mono ?_
    rintro e w3 ⟨rfl, hb3⟩
    obtain ⟨eb, heb⟩ : ∃ eb, decide (Nx.Ent.Ok ⟨x.path, x.kind, I⟩) = eb := ⟨_, rfl⟩
    rw [heb]
    have HEB := hide heb
    clear heb
    replace O := O.below hb3 O.lt
    replace OX := OX.below hb3 OX.lt
    replace OR := OR.below hb3 OR.lt
    replace HB := hide (HB.out.trans (hb3.mono HB.out.size))
    clear hb3
    cases eb with
    | false =>
      have HF := hide (show o.addErr E ⟨x.path, x.kind, I⟩ = 1 from if_neg (fun h => of_decide_eq_false HEB.out h.2))
      clear HER
      go_wp2_with (first | (refine store_ob rfl _ _ rfl rfl (c := Ob.zero) rfl OR rfl ?_) | fail)
      refine bodyPost_ret (ret_ob2 rfl _ rfl (OR.row_same (oc Ob.zero))) rfl ?_
      exact DirIs.no HF.out (by decide) (below_row HB.out (by omega) _)
    | true =>
      have HE3 := hide (show o.addErr E ⟨x.path, x.kind, I⟩ = (if (Nx.find E x.path).isSome then 7 else if 256 ≤ o.names.n then 9 else 0) from if_pos ⟨of_decide_eq_true HBV.out, of_decide_eq_true HEB.out⟩)
      obtain ⟨_, _, hn256, hsp, _⟩ := of_decide_eq_true HBV.out
      have HAS := hide (Nx.asc_of_space hsp)
      clear HER HBV HEB hsp
      have kp : w3.cell? ⟨W.heap.size + 1, 0, none⟩ = some (.string ⟨x.path.toArray⟩) := OX.cell 0
      have k35 : w3.cell? ⟨W.heap.size, 35, none⟩ = some (.slice o.names.A o.names.n o.names.c) := O.cell 35
      go_wp2_with fail
      refine (nxPos_any o.names.A o.names.n o.names.c l E ⟨x.path.toArray⟩ _ ((HEN.out.below HB.out).mono HB.out.size) HAS.out (by omega)).mono ?_
      rintro e w4 ⟨i, hp, rfl, hb4⟩
      have HP := hide (show Nx.Pos E x.path i from hp)
      rw [show (Nx.find E (⟨x.path.toArray⟩ : ByteArray).data.toList).isSome = (Nx.find E x.path).isSome from rfl]
      obtain ⟨v, hv⟩ : ∃ v, (Nx.find E x.path).isSome = v := ⟨_, rfl⟩
      rw [hv]
      have HV := hide hv
      replace O := O.below hb4 O.lt
      replace OX := OX.below hb4 OX.lt
      replace OR := OR.below hb4 OR.lt
      replace HB := hide (HB.out.trans (hb4.mono HB.out.size))
      clear hb4 kp hp hv k35
      cases v with
      | true =>
        have HF := hide (show o.addErr E ⟨x.path, x.kind, I⟩ = 7 from by rw [HE3.out, HV.out]; rfl)
        clear HE3 HV
        go_wp2_with (first | (refine store_ob rfl _ _ rfl rfl (c := Ob.zero) rfl OR rfl ?_) | fail)
        refine bodyPost_ret (ret_ob2 rfl _ rfl (OR.row_same (oc Ob.zero))) rfl ?_
        exact DirIs.no HF.out (by decide) (below_row HB.out (by omega) _)
      | false =>
        have k35 : w4.cell? ⟨W.heap.size, 35, none⟩ = some (.slice o.names.A o.names.n o.names.c) := O.cell 35
        by_cases h256 : 256 ≤ o.names.n
        · have hn1 : (256 : Int) ≤ (o.names.n : Int) := by omega
          have HF := hide (show o.addErr E ⟨x.path, x.kind, I⟩ = 9 from by rw [HE3.out, HV.out, if_neg (by decide), if_pos h256])
          clear HE3 HV
          go_wp2_with (first | (refine store_ob rfl _ _ rfl rfl (c := Ob.zero) rfl OR rfl ?_) | fail)
          refine bodyPost_ret (ret_ob2 rfl _ rfl (OR.row_same (oc Ob.zero))) rfl ?_
          exact DirIs.no HF.out (by decide) (below_row HB.out (by omega) _)
        have HF := hide (show o.addErr E ⟨x.path, x.kind, I⟩ = 0 from by rw [HE3.out, HV.out, if_neg (by decide), if_neg h256])
        have HNF : Hid (Nx.find E x.path = none) := hide (by simpa using HV.out)
        clear HE3 HV
        have hn1 : ¬ (256 : Int) ≤ (o.names.n : Int) := by omega
        have hn2 : (o.names.n : Int) < 256 := by omega
        go_wp2_with fail
        refine (nxNew_any _).mono ?_
        rintro e w5 ⟨rfl, hb5⟩
        replace O := O.below hb5 O.lt
        replace OX := OX.below hb5 OX.lt
        replace OR := OR.below hb5 OR.lt
        replace HB := hide (HB.out.trans (hb5.mono HB.out.size))
        obtain ⟨w6, hw6, m, hm, w7, hw7, OZ, OM, hb7, hs7⟩ := laid_ob (Ob.dir ⟨none, 0, 0⟩) w5
        have hmW : W.heap.size + 2 < m := by have := OR.lt; omega
        replace O := O.below hb7 (by omega)
        replace OX := OX.below hb7 (by omega)
        replace OR := OR.below hb7 (by omega)
        replace HB := hide (HB.out.trans (hb7.mono (by omega)))
        clear hb5 hb7 k35
        go_wp2_with (first | (refine store_ob rfl _ _ rfl rfl (c := Ob.dir ⟨none, 0, 0⟩) rfl OZ rfl ?_; rw [hw7]) | fail)
        clear OZ hw6 hw7 hm
        refine region_B (by kernel_rfl) m ?_
        have k35 : w7.drew.cell? ⟨W.heap.size, 35, none⟩ = some (.slice o.names.A o.names.n o.names.c) := O.cell 35
        have OX' : Obl w7.drew (W.heap.size + 1) 51 (nc x) := OX
        have OR' : Obl w7.drew (W.heap.size + 2) 41 (oc Ob.zero) := OR
        have OM' : Obl w7.drew m 41 (oc (Ob.dir ⟨none, 0, 0⟩)) := OM
        have HB' : Hid (Below W.heap.size W w7.drew) := hide HB.out.drew
        have hsu : w7.drew.heap.size = m + 1 := hs7
        clear O OX OR OM HB hs7
        generalize w7.drew = u at *
        refine takeB 0 rfl (by kernel_rfl) (fun _ _ _ h => h) (by rfl) (by intro w' hg; go_simp; try with_reducible rfl) ?_
        refine takeB 1 rfl (by kernel_rfl) (fun _ _ _ h => h) (by rfl) (by intro w' hg; have g0 := (hg.cell (p := ⟨W.heap.size, 35, none⟩) (by show W.heap.size < m; omega)).trans k35; go_simp; try with_reducible rfl) ?_
        refine takeB 3 rfl (by kernel_rfl) (fun _ _ _ h => h) (by rfl) (by intro w' hg; go_simp; try with_reducible rfl) ?_
        refine takeB 4 rfl (by kernel_rfl) (fun _ _ _ h => h) (by rfl) (by intro w' hg; exact exec_load_nm rfl rfl (OX'.below hg (by omega))) ?_
        refine onlyB 2 rfl (by kernel_rfl) (by rfl) ?_
        intro K hK
        go_simp
        refine (nxAllCopied_any o.names.A o.names.n o.names.c l E u ((HEN.out.below HB'.out).mono HB'.out.size) HS.out (by omega)).mono ?_
        rintro e y1 ⟨A1, c1, l1, rfl, M1, hb1⟩
        refine hK _ _ (hb1.mono (by omega)) ?_
        clear hK K k35
        have HM1 := hide M1
        replace OX' := OX'.below hb1 (by omega)
        replace OR' := OR'.below hb1 (by omega)
        replace OM' := OM'.below hb1 (by omega)
        replace HB' := hide (HB'.out.trans (hb1.mono HB'.out.size))
        have hsy1 := hb1.size
        clear M1 hb1
        refine onlyB 5 rfl (by kernel_rfl) (by rfl) ?_
        intro K hK
        go_simp
        refine (nxCopied_any x W.heap.size I y1 (HI.out.below HB'.out) HB'.out.size HX.out.2).mono ?_
        rintro e y2 ⟨A2, c2, rfl, hown2, hb2⟩
        rw [show nc ⟨x.path, x.kind, ⟨A2, x.ids.n, c2⟩⟩ = #[.string ⟨x.path.toArray⟩, .int .i64 x.kind, .slice A2 x.ids.n c2] from rfl]
        refine hK _ _ (hb2.mono (by omega)) ?_
        clear hK K
        have HM2 := hide (HM1.out.later hb2)
        have HO2 := hide (own_weaken (base' := u.heap.size) hown2 hsy1)
        replace OR' := OR'.below hb2 (by omega)
        replace OM' := OM'.below hb2 (by omega)
        replace HB' := hide (HB'.out.trans (hb2.mono HB'.out.size))
        have hsy2 : u.heap.size ≤ y2.heap.size := Nat.le_trans hsy1 hb2.size
        clear HM1 hown2 hb2 OX'
        refine onlyB 6 rfl (by kernel_rfl) (by rfl) ?_
        intro K hK
        go_simp
        have ha : Below m y2 (y2.alloc (.cells #[.string ⟨x.path.toArray⟩, .int .i64 x.kind, .slice A2 x.ids.n c2] 51)) := (Below.refl _ _).alloc (by omega) _
        refine hK _ _ ha ?_
        clear hK K
        have OV : Obl (y2.alloc (.cells #[.string ⟨x.path.toArray⟩, .int .i64 x.kind, .slice A2 x.ids.n c2] 51)) y2.heap.size 51 (nc ⟨x.path, x.kind, ⟨A2, x.ids.n, c2⟩⟩) := Obl.make y2 51 (nc ⟨x.path, x.kind, ⟨A2, x.ids.n, c2⟩⟩)
        have hal : Below y2.heap.size y2 (y2.alloc (.cells #[.string ⟨x.path.toArray⟩, .int .i64 x.kind, .slice A2 x.ids.n c2] 51)) := (Below.refl _ _).alloc (Nat.le_refl _) _
        have HM3 := hide (HM2.out.later hal)
        have HO3 := hide (own_keep HO2.out (keep_below hal))
        have OR3 := OR'.below ha (by omega)
        have OM3 := OM'.below hal OM'.lt
        have HB3 := hide (HB'.out.trans (ha.mono (by omega)))
        have hvb : some y2.heap.size ≠ blk A1 := fun e => by
          have := (HM2.out.own.1.lt y2.heap.size (by rw [ownBlock_slice]; exact e.symm)).2
          omega
        have hs3 : u.heap.size ≤ (y2.alloc (.cells #[.string ⟨x.path.toArray⟩, .int .i64 x.kind, .slice A2 x.ids.n c2] 51)).heap.size := by rw [World.size_alloc]; omega
        have hi : i ≤ o.names.n := by have := HP.out.le; have := HEN.out.len; omega
        clear ha hal HM2 HO2 OR' OM' HB'
        generalize (y2.alloc (.cells #[.string ⟨x.path.toArray⟩, .int .i64 x.kind, .slice A2 x.ids.n c2] 51)) = y3 at *
        refine onlyB 7 rfl (by kernel_rfl) (by rfl) ?_
        intro K hK
        go_simp
        refine (nxInsert_any u.heap.size A1 o.names.n c1 i y2.heap.size l1 ⟨x.path, x.kind, ⟨A2, x.ids.n, c2⟩⟩ y3 HM3.out.own.1 hi (by omega) hs3 OV hvb).mono ?_
        rintro e y4 ⟨A4, c4, rfl, hown4, hg4⟩
        have hk4 : ∀ k, blk A1 = some k → u.heap.size ≤ k := fun k hk => (HM3.out.own.1.lt k (by rw [ownBlock_slice]; exact hk)).1
        have hb4 : Below m y3 y4 := (Below.refl _ _).grown hg4 (by omega) (fun k hk => by have := hk4 k hk; omega)
        refine hK _ _ hb4 ?_
        clear hK K
        have M4 := hide (HM3.out.put (y := ⟨x.path, x.kind, ⟨A2, x.ids.n, c2⟩⟩) (z := ⟨x.path, x.kind, I⟩) hi HX.out ⟨rfl, rfl, HO3.out⟩ hown4 hg4)
        rw [← (show Nx.Pos E (⟨x.path, x.kind, I⟩ : Nx.Ent).path i from HP.out).insert] at M4
        have OM4 := OM3.grown hg4 (fun e => by have := hk4 m e.symm; omega)
        have OR4 := OR3.below hb4 (by omega)
        have HB4 := hide (HB3.out.trans (hb4.mono (by omega)))
        have hs4 : u.heap.size ≤ y4.heap.size := Nat.le_trans hs3 hg4.size
        generalize l1.take i ++ (⟨x.path, x.kind, ⟨A2, x.ids.n, c2⟩⟩ : Nm) :: l1.drop i = l4 at *
        clear hown4 hg4 hk4 hb4 HM3 HO3 OR3 OM3 HB3 OV hvb hsy1 hsy2 hs3 y3
        refine takeB 8 rfl (by kernel_rfl) (fun _ _ _ h => h) (by rfl) (by intro w' hg; go_simp; try with_reducible rfl) ?_
        refine onlyB 9 rfl (by kernel_rfl) (by rfl) ?_
        intro K hK
        have m0 : y4.cell? ⟨m, 35, none⟩ = some (.slice none 0 0) := OM4.cell 35
        have z0 := OM4.free 35
        go_simp
        refine hK _ _ ((Below.refl _ _).setCell (p := ⟨m, 35, none⟩) (Nat.le_refl _) _) ?_
        clear hK K m0 z0
        have OM5 : Obl (y4.setCell ⟨m, 35, none⟩ (.slice A4 (o.names.n + 1) c4)) m 41 (oc (Ob.dir ⟨A4, o.names.n + 1, c4⟩)) := OM4.put 35 _
        have OR5 := OR4.put_other (b' := m) (by omega) 35 (.slice A4 (o.names.n + 1) c4)
        have HB5 := hide (HB4.out.setCell (p := ⟨m, 35, none⟩) (by show W.heap.size ≤ m; omega) (.slice A4 (o.names.n + 1) c4))
        have M5 := hide ((M4.out.keep (keep_put (m := m) (by omega) 35 (.slice A4 (o.names.n + 1) c4)) (by simp [World.setCell])).weaken (base' := m) (by omega))
        obtain ⟨y5, hy5⟩ : ∃ y5, y4.setCell ⟨m, 35, none⟩ (.slice A4 (o.names.n + 1) c4) = y5 := ⟨_, rfl⟩
        rw [hy5] at OM5 OR5 HB5 M5
        clear M4 OM4 OR4 HB4
        refine doneB (by kernel_rfl) ?_
        go_simp
        try rw [hy5]
        clear hy5
        go_wp2_with (first | (refine load_ob rfl _ rfl rfl OM5 ?_) | (refine store_ob rfl _ _ rfl rfl (c := Ob.dir ⟨A4, o.names.n + 1, c4⟩) rfl OR5 rfl ?_) | fail)
        refine bodyPost_ret (ret_ob2 rfl _ rfl (OR5.row_same (oc (Ob.dir ⟨A4, o.names.n + 1, c4⟩)))) rfl ?_
        exact .inl ⟨HF.out, A4, _, c4, l4, rfl, (M5.out.keep (keep_row (m := W.heap.size + 2) (by omega) _) (by simp [World.setRow])).weaken (by omega), below_row HB5.out (by omega) _⟩
end Go.Proofs.YtejhnfeligifgaaDoor
namespace Go.Proofs.YtejhnfeligifgaaDoor
open Go.RowKit

theorem dir_clear : (Ob.dir ⟨none, 0, 0⟩).Clear := by decide
theorem dir_names {s : Sl} {E : List Nx.Ent} (hn : s.n ≤ 256) (h : Nx.Space E) : (Ob.dir s).Names E := ⟨rfl, rfl, hn, h, dir_clear⟩
theorem dir_found {s : Sl} {E : List Nx.Ent} (hn : s.n ≤ 256) (h : Nx.Space E) (p : List UInt8) : (Ob.dir s).found E p = Nx.find E p := if_pos (dir_names hn h)
theorem dir_addErr {s : Sl} {E : List Nx.Ent} (hn : s.n ≤ 256) (h : Nx.Space E) {x : Nx.Ent} (hx : x.Ok) (hf : Nx.find E x.path = none) (h2 : s.n < 256) : (Ob.dir s).addErr E x = 0 := by
  unfold Ob.addErr
  rw [if_pos ⟨dir_names hn h, hx⟩, hf, if_neg (by decide), if_neg (by show ¬ 256 ≤ s.n; omega)]
theorem space_nil : Nx.Space [] := ⟨fun _ h => by simp at h, fun _ h => by simp at h⟩
/-- What Add gives where there is room. -/
theorem DirIs.ok {F : List Nx.Ent} {w w' : World} {e : Ending} (h : DirIs 0 F w e w') : ∃ A n c l, e = .returned (.tuple #[.agg (oc (Ob.dir ⟨A, n, c⟩)), .int .i64 0]) ∧ NmOutE w' w.heap.size A n c l F ∧ Below w.heap.size w w' := by
  rcases h with ⟨_, h⟩ | ⟨h, _⟩
  · exact h
  · exact absurd rfl h
def pathA : List UInt8 := [47, 97, 47, 98, 45, 49]
def entA : Nx.Ent := ⟨pathA, 3, [9]⟩
theorem entA_ok : entA.Ok := by decide
theorem nxPath_yes (s : ByteArray) (h : Nx.Path s.data.toList) (hs : s.size ≤ 9223372036854775807) (W : World) (HM : Mx W) : Calls Tryd.prog 19 #[.string s] W (BoolPost true W) := by
  have := nxPath_any s W HM hs
  rwa [decide_eq_true h] at this
theorem nxPath_no (s : ByteArray) (h : ¬ Nx.Path s.data.toList) (hs : s.size ≤ 9223372036854775807) (W : World) (HM : Mx W) : Calls Tryd.prog 19 #[.string s] W (BoolPost false W) := by
  have := nxPath_any s W HM hs
  rwa [decide_eq_false h] at this
set_option maxRecDepth 100000 in
set_option maxHeartbeats 8000000 in
theorem nxSane_any (W : World) (HM0 : Mx W) : Calls Tryd.prog 7 #[] W (BoolPost true W) := by
  have HM := hide HM0
  clear HM0
  go_enter Tryd.func7, Tryd.ntmps7
  go_wp2_with fail
  refine (nxNew_any _).mono ?_
  rintro e w1 ⟨rfl, hb1⟩
  have hba : Below W.heap.size W (w1.alloc (.cells #[.int .u64 9] 22)) := hb1.alloc hb1.size _
  have OI := Obl.make w1 22 #[.int .u64 9]
  have HI : Hid (Nums .u64 (w1.alloc (.cells #[.int .u64 9] 22)) (w1.alloc (.cells #[.int .u64 9] 22)).heap.size (some ⟨w1.heap.size, 0, none⟩) 1 [9]) := hide ⟨rfl, by rw [World.size_alloc]; exact Row.list w1 [.int .u64 9] 22⟩
  have HB := hide hba
  clear hba hb1 OI
  go_wp2_with fail
  refine (nxAdd_any (Ob.dir ⟨none, 0, 0⟩) ⟨pathA, 3, ⟨some ⟨w1.heap.size, 0, none⟩, 1, 1⟩⟩ [] [] [9] _ Ents.nil (by intro y hy; cases hy) (HM.out.below HB.out) (show pathA.length ≤ 1000 ∧ 1 ≤ 1000 by decide) HI.out).mono ?_
  rintro e w2 hd2
  rw [show (Ob.dir ⟨none, 0, 0⟩).addErr [] ⟨pathA, 3, [9]⟩ = 0 from dir_addErr (by decide) space_nil entA_ok rfl (by decide), show Nx.insert [] (⟨pathA, 3, [9]⟩ : Nx.Ent) = [entA] from rfl] at hd2
  obtain ⟨A, n, c, l, rfl, M, hb2⟩ := hd2.ok
  have hn1 : n = 1 := by have := own_nmv M.own.1; have := M.has.1; simp at this; omega
  subst hn1
  have HB2 := hide (HB.out.trans (hb2.mono HB.out.size))
  obtain ⟨w3, hw3, m, hm, w4, hw4, OZ, OM, hb4, hs4⟩ := laid_ob (Ob.dir ⟨A, 1, c⟩) w2
  have hmW : W.heap.size ≤ m := by have := HB2.out.size; omega
  replace HB2 := hide (HB2.out.trans (hb4.mono HB2.out.size))
  have HM4 := hide (M.later hb4)
  have HSP : Hid (Nx.Space [entA]) := hide (by decide)
  clear hb2 hb4 M hd2 HI HB hs4
  go_wp2_with (first | (refine store_ob rfl _ _ rfl rfl (c := Ob.dir ⟨A, 1, c⟩) rfl OZ rfl ?_; rw [hw4]) | (refine load_ob rfl _ rfl rfl OM ?_) | fail)
  clear OZ hw3 hw4 hm
  refine (nxFind_any (Ob.dir ⟨A, 1, c⟩) ⟨pathA.toArray⟩ l [entA] _ HM4.out.ents HM4.out.short (HM.out.below HB2.out)).mono ?_
  rintro e w5 ⟨hf5, hb5⟩
  rw [dir_found (show 1 ≤ 256 by decide) HSP.out, show Nx.find [entA] (⟨pathA.toArray⟩ : ByteArray).data.toList = some entA from by decide] at hf5
  obtain ⟨y, rfl, hyi⟩ : ∃ y, e = .returned (.tuple #[.agg (nc y), .bool true]) ∧ w5.ownsRow w4.heap.size 22 1 (.slice y.ids.A y.ids.n y.ids.c) y.ids.n (nv .u64 [9]) := by
    rcases hf5 with ⟨y, x, hx, rfl, _, _, hown⟩ | ⟨hx, _⟩
    · injection hx with hx
      subst hx
      exact ⟨y, rfl, hown⟩
    · cases hx
  have hn1 : y.ids.n = 1 := by have := hyi.1; rw [nv_length] at this; simp at this; omega
  have hM5 := HM4.out.later hb5
  have OM5 := OM.below hb5 OM.lt
  have HB5 := hide (HB2.out.trans (hb5.mono HB2.out.size))
  obtain ⟨w6, hw6, g, hg, w7, hw7, OZ, ON, hb7, hs7⟩ := start_nm w5 y
  have hgW : W.heap.size ≤ g := by have := HB5.out.size; omega
  replace OM5 := OM5.below hb7 (by have := OM5.lt; omega)
  replace HB5 := hide (HB5.out.trans (hb7.mono hgW))
  have HM7 := hide (hM5.later (hg.symm ▸ hb7))
  have hI7 := Nums.of_own (own_keep hyi (keep_below (hg.symm ▸ hb7)))
  rw [hn1] at hI7
  obtain ⟨bi, oi, _, hA, _, hci⟩ := hI7.at_ (i := 0) (by decide)
  rw [Nat.add_zero] at hci
  have k2 : w7.cell? ⟨g, 2, none⟩ = some (.slice (some ⟨bi, oi, none⟩) 1 y.ids.c) := (ON.cell 2).trans (by show some (Value.slice y.ids.A y.ids.n y.ids.c) = _; rw [hn1, hA])
  have hci' : w7.cell? ⟨bi, oi, none⟩ = some (.int .u64 9) := hci
  have HV : Hid (Calls Tryd.prog 17 #[.agg (oc (Ob.dir ⟨A, 1, c⟩))] w7 (BoolPost true w7)) := hide (by
    have := nxNames_any (Ob.dir ⟨A, 1, c⟩) l [entA] w7 HM7.out.ents HM7.out.short (HM.out.below HB5.out)
    rwa [decide_eq_true (dir_names (show 1 ≤ 256 by decide) HSP.out)] at this)
  have H1 := hide (nxPath_yes ⟨#[47, 97, 47, 98, 45, 49]⟩ (by decide) (by decide))
  have H2 := hide (nxPath_no ⟨#[47]⟩ (by decide) (by decide))
  have H3 := hide (nxPath_no ⟨#[97]⟩ (by decide) (by decide))
  have H4 := hide (nxPath_no ⟨#[47, 97, 47]⟩ (by decide) (by decide))
  have H5 := hide (nxPath_no ⟨#[47, 65]⟩ (by decide) (by decide))
  clear hci hA hI7 hf5 hyi hM5 hb5 hb7 HM4 HM7 HSP HB2 hn1 ON OM
  go_wp2_with (first | (refine store_nm rfl _ _ rfl rfl (c := y) rfl OZ rfl ?_; rw [hw7]) | (refine wpList_val (by rfl) (exec_load_ob rfl rfl OM5) ?_) | fail)
  go_at_call 17
  refine HV.out.mono ?_
  rintro e w8 ⟨rfl, hb8⟩
  replace HB5 := hide (HB5.out.trans (hb8.mono HB5.out.size))
  clear hb8 OZ hw6 hw7 hg k2 hci' OM5 HV
  go_wp2_with fail
  go_at_call 19
  refine (H1.out _ (HM.out.below HB5.out)).mono ?_
  rintro e w9 ⟨rfl, hb9⟩
  replace HB5 := hide (HB5.out.trans (hb9.mono HB5.out.size))
  clear hb9
  go_wp2_with fail
  go_at_call 19
  refine (H2.out _ (HM.out.below HB5.out)).mono ?_
  rintro e w10 ⟨rfl, hb10⟩
  replace HB5 := hide (HB5.out.trans (hb10.mono HB5.out.size))
  clear hb10
  go_wp2_with fail
  go_at_call 19
  refine (H3.out _ (HM.out.below HB5.out)).mono ?_
  rintro e w11 ⟨rfl, hb11⟩
  replace HB5 := hide (HB5.out.trans (hb11.mono HB5.out.size))
  clear hb11
  go_wp2_with fail
  go_at_call 19
  refine (H4.out _ (HM.out.below HB5.out)).mono ?_
  rintro e w12 ⟨rfl, hb12⟩
  replace HB5 := hide (HB5.out.trans (hb12.mono HB5.out.size))
  clear hb12
  go_wp2_with fail
  go_at_call 19
  refine (H5.out _ (HM.out.below HB5.out)).mono ?_
  rintro e w13 ⟨rfl, hb13⟩
  replace HB5 := hide (HB5.out.trans (hb13.mono HB5.out.size))
  clear hb13
  go_wp2_with fail
  go_ret
  exact ⟨rfl, HB5.out⟩
end Go.Proofs.YtejhnfeligifgaaDoor
