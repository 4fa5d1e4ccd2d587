/- The reference of name spaces: Add: a contract. -/
import Derived.Test.YtcgiobffobonpaaNmFind
import Derived.Test.YtcgiobffobonpaaNmIns
namespace Go.Proofs.Ytcgiobffobonpaa
open Go.RowKit

/-- The name space with other entries, or nothing and an error. -/
def AddPost (o : Ob) (w : World) (e : Ending) (w' : World) : Prop :=
  (∃ A n c l, e = .returned (.tuple #[.agg (oc { o with names := ⟨A, n, c⟩ }), .int .i64 0]) ∧ n ≤ 2 * o.names.n + 1 ∧ NmOut w' (w.heap.size + 1) A n c l ∧ Below w.heap.size w w') ∨
  (∃ r, r ≠ 0 ∧ e = .returned (.tuple #[.agg (oc Ob.zero), .int .i64 r]) ∧ Below w.heap.size w w')
theorem NmOut.weaken {w : World} {base base' n c : Nat} {A : Option Addr} {l : List Nm} (h : NmOut w base A n c l) (hb : base' ≤ base) : NmOut w base' A n c l :=
  ⟨⟨own_weaken h.own.1 hb, fun x hx => (h.own.2 x hx).imp fun _ h => own_weaken h hb⟩, h.short, Nat.le_trans hb h.base_le⟩
theorem NmOut.keep {w w' : World} {base n c : Nat} {A : Option Addr} {l : List Nm} (h : NmOut w base A n c l) (hk : ∀ g, base ≤ g → g < w.heap.size → w'.heap[g]? = w.heap[g]?) (hs : w.heap.size ≤ w'.heap.size) : NmOut w' base A n c l := ⟨h.own.keep hk, h.short, Nat.le_trans h.base_le hs⟩
set_option maxRecDepth 100000 in
set_option maxHeartbeats 8000000 in
theorem add_any (o : Ob) (x : Nm) (l : List Nm) (I : List Int) (W : World) (hl : Nms W W.heap.size o.names.A o.names.n l) (hs : Short l) (hn : o.names.n ≤ 200) (hx : x.path.length ≤ 1000 ∧ x.ids.n ≤ 1000) (hI : Nums .u64 W W.heap.size x.ids.A x.ids.n I) :
    Calls Try.prog 52 #[.agg (oc o), .agg (nc x)] W (AddPost o W) := by
  obtain ⟨w1, hw, O, OX, OR, hb, hs1⟩ : ∃ w1, ((W.alloc (.cells (oc o) 41)).alloc (.cells (nc x) 64)).alloc (.cells #[.int .u64 0, .int .i64 0, .int .i64 0, .int .i64 0, .int .u64 0, .slice none 0 0, .slice none 0 0, .slice none 0 0, .int .i64 0, .int .i64 0, .int .i64 0, .int .i64 0, .int .i64 0, .int .i64 0, .int .i64 0, .int .i64 0, .int .i64 0, .int .i64 0,
      .slice none 0 0, .slice none 0 0, .int .i64 0, .int .i64 0, .int .i64 0, .slice none 0 0, .slice none 0 0, .int .i64 0, .int .u64 0, .int .i64 0, .int .i64 0, .slice none 0 0, .slice none 0 0, .slice none 0 0, .int .i64 0, .int .i64 0, .int .i64 0, .slice none 0 0] 41) = w1 ∧
      Obl w1 W.heap.size 41 (oc o) ∧ Obl w1 (W.heap.size + 1) 64 (nc x) ∧ Obl w1 (W.heap.size + 2) 41 (oc Ob.zero) ∧ Below W.heap.size W w1 ∧ w1.heap.size = W.heap.size + 3 := by
    refine ⟨_, rfl, ((Obl.make W _ _).alloc _).alloc _, ?_, ?_, (((Below.refl _ _).alloc (Nat.le_refl _) _).alloc (by simp) _).alloc (by simp; omega) _, by simp⟩
    · have := (Obl.make (W.alloc (.cells (oc o) 41)) 64 (nc x)).alloc (.cells (oc Ob.zero) 41)
      rw [World.size_alloc] at this
      exact this
    · have := Obl.make ((W.alloc (.cells (oc o) 41)).alloc (.cells (nc x) 64)) 41 (oc Ob.zero)
      rw [World.size_alloc, World.size_alloc] at this
      exact this
  have HB := hide hb
  have HL := hide hl
  have HS := hide hs
  have HX := hide hx
  have HI := hide hI
  clear hb hl hs hx hI
  go_enter Try.func52, Try.ntmps52
  go_wp2_with (first | (refine load_ob rfl _ rfl rfl O ?_) | fail)
  refine (nmValid_any o l _ ((HL.out.below HB.out).mono HB.out.size) HS.out).mono ?_
  rintro e w2 ⟨bv, rfl, hb2⟩
  replace O := O.below hb2 O.lt
  replace OX := OX.below hb2 OX.lt
  replace OR := OR.below hb2 OR.lt
  replace HB := hide (HB.out.trans (hb2.mono HB.out.size))
  clear hb2 hw hs1
  cases bv with
  | false =>
    go_wp2_with (first | (refine store_ob rfl _ _ rfl rfl (c := Ob.zero) rfl OR rfl ?_) | fail)
    refine bodyPost_ret (ret_ob2 rfl _ rfl (OR.row_same (oc Ob.zero))) rfl ?_
    exact .inr ⟨1, by decide, rfl, below_row HB.out (by omega) _⟩
  | true =>
    have HQ := hide (show x.path.length ≤ 9223372036854775807 ∧ x.ids.n ≤ 9223372036854775807 from ⟨by have := HX.out.1; omega, by have := HX.out.2; omega⟩)
    go_wp2_with (first | (refine wpList_val (by rfl) (exec_load_nm rfl rfl OX) ?_) | fail)
    go_at_call 60
    refine (entry_any x W.heap.size I _ (HI.out.below HB.out) (by have := HB.out.size; omega) HQ.out.2 HQ.out.1).mono ?_
    rintro e w3 ⟨eb, rfl, hb3⟩
    replace O := O.below hb3 O.lt
    replace OX := OX.below hb3 OX.lt
    replace OR := OR.below hb3 OR.lt
    replace HB := hide (HB.out.trans (hb3.mono HB.out.size))
    clear hb3
    cases eb with
    | false =>
      go_wp2_with (first | (refine store_ob rfl _ _ rfl rfl (c := Ob.zero) rfl OR rfl ?_) | fail)
      refine bodyPost_ret (ret_ob2 rfl _ rfl (OR.row_same (oc Ob.zero))) rfl ?_
      exact .inr ⟨1, by decide, rfl, below_row HB.out (by omega) _⟩
    | true =>
      have kp : w3.cell? ⟨W.heap.size + 1, 0, none⟩ = some (.string ⟨x.path.toArray⟩) := OX.cell 0
      go_wp2_with (first | (refine load_ob rfl _ rfl rfl O ?_) | fail)
      refine (find_any o ⟨x.path.toArray⟩ l _ ((HL.out.below HB.out).mono HB.out.size) HS.out (by omega)).mono ?_
      rintro e w4 ⟨y, v, rfl, hb4⟩
      replace O := O.below hb4 O.lt
      replace OX := OX.below hb4 OX.lt
      replace OR := OR.below hb4 OR.lt
      replace HB := hide (HB.out.trans (hb4.mono HB.out.size))
      clear hb4 kp
      obtain ⟨w5, hw5, g, hg, w6, hw6, OZ, ON, hb6, hs6⟩ := start_nm w4 y
      have hgO : W.heap.size + 2 < g := by have := OR.lt; omega
      replace O := O.below hb6 (by omega)
      replace OX := OX.below hb6 (by omega)
      replace OR := OR.below hb6 (by omega)
      replace HB := hide (HB.out.trans (hb6.mono (by omega)))
      clear hb6 ON
      cases v with
      | true =>
        go_wp2_with (first | (refine store_nm rfl _ _ rfl rfl (c := y) rfl OZ rfl ?_; rw [hw6]) | (refine store_ob rfl _ _ rfl rfl (c := Ob.zero) rfl OR rfl ?_) | fail)
        refine bodyPost_ret (ret_ob2 rfl _ rfl (OR.row_same (oc Ob.zero))) rfl ?_
        exact .inr ⟨7, by decide, rfl, below_row HB.out (by omega) _⟩
      | false =>
        have k35 : w6.cell? ⟨W.heap.size, 35, none⟩ = some (.slice o.names.A o.names.n o.names.c) := O.cell 35
        have hn1 : ¬ (256 : Int) ≤ (o.names.n : Int) := by omega
        have hn2 : (o.names.n : Int) < 256 := by omega
        go_wp2_with (first | (refine store_nm rfl _ _ rfl rfl (c := y) rfl OZ rfl ?_; rw [hw6]) | (refine load_nm rfl _ rfl rfl OX ?_) | fail)
        clear OZ hw5 hw6 hg
        refine (insert_any o.names.A o.names.n o.names.c l x I _ ((HL.out.below HB.out).mono HB.out.size) HS.out (by omega) HX.out ((HI.out.below HB.out).mono HB.out.size)).mono ?_
        rintro e w7 ⟨A7, n7, c7, l7, rfl, hn7, hM, hb7⟩
        have O7 := O.below hb7 O.lt
        have OR7 := OR.below hb7 OR.lt
        have HB7 := hide (HB.out.trans (hb7.mono HB.out.size))
        have hs7 := O.lt
        have k7 : w7.cell? ⟨W.heap.size, 35, none⟩ = some (.slice o.names.A o.names.n o.names.c) := O7.cell 35
        have z7 := O7.free 35
        have O8 : Obl (w7.setCell ⟨W.heap.size, 35, none⟩ (.slice A7 n7 c7)) W.heap.size 41 (oc { o with names := ⟨A7, n7, c7⟩ }) := O7.put 35 _
        have OR8 := OR7.put_other (b' := W.heap.size) (by omega) 35 (.slice A7 n7 c7)
        have HB8 := hide (HB7.out.setCell (p := ⟨W.heap.size, 35, none⟩) (Nat.le_refl _) (.slice A7 n7 c7))
        have HM8 := hide ((hM.keep (keep_put (m := W.heap.size) (by omega) 35 (.slice A7 n7 c7)) (by simp [World.setCell])).weaken (base' := W.heap.size + 3) (by have := OR.lt; omega))
        obtain ⟨w8, hw8⟩ : ∃ w8, w7.setCell ⟨W.heap.size, 35, none⟩ (.slice A7 n7 c7) = w8 := ⟨_, rfl⟩
        rw [hw8] at O8 OR8 HB8 HM8
        clear hM hb7 O7 OR7 HB7 O OX OR HB k35
        go_wp2_with (first | (refine load_ob rfl _ rfl rfl O8 ?_) | (refine store_ob rfl _ _ rfl rfl (c := { o with names := ⟨A7, n7, c7⟩ }) rfl OR8 rfl ?_) | fail)
        refine bodyPost_ret (ret_ob2 rfl _ rfl (OR8.row_same (oc { o with names := ⟨A7, n7, c7⟩ }))) rfl ?_
        exact .inl ⟨A7, n7, c7, l7, rfl, hn7, (HM8.out.keep (keep_row (m := W.heap.size + 2) (by omega) _) (by simp [World.setRow])).weaken (by omega), below_row HB8.out (by omega) _⟩
end Go.Proofs.Ytcgiobffobonpaa
