/- Layer 6: package page's Set and Copy: contracts. -/
import Derived.Test.YtohdoleeefoiaaaPgOps
import Derived.Test.YtohdoleeefoiaaaDice
namespace Go.Proofs.Ytohdoleeefoiaaa
open Go.RowKit

theorem i64Size1 : (Try.prog.info? 2).map (·.size) = some 1 := by kernel_rfl
/-- Sixteen words are copied over sixteen. -/
theorem wpList_copy16 {ops : Array Oper} {rest : List Oper} {o : Oper} {a : Act} {w : World} {Q : Exit → Act → World → Prop} (hgd : o.guard = none) (d s : Operand) (ho : o.op = .call { callee := .builtin .copy, args := #[d, s], argTypes := #[35, 35] })
    {g b f c : Nat} {L0 L : List Int} (hd : a.eval d = .slice (some ⟨g, 0, none⟩) 16 16) (hs : a.eval s = .slice (some ⟨b, f, none⟩) 16 c) (hg : Obl w g 2 (nv .i64 L0).toArray) (h0 : L0.length = 16) (hL : L.length = 16)
    (hsrc : ∀ (j : Nat) (v : Value), (nv .i64 L)[j]? = some v → w.cell? ⟨b, f + j, none⟩ = some v) (hK : wpList Try.prog ops Q rest (a.put o.dst (goInt 16)) (w.setRow g (nv .i64 L).toArray)) : wpList Try.prog ops Q (o :: rest) a w := by
  refine wpList_copy_own hgd d s _ _ ho 2 Try.underlying35 i64Size1 g 0 16 16 ⟨b, f, none⟩ 16 c hd hs (nv .i64 L0).toArray 2 hg (nv .i64 L) (by rw [nv_length, hL]; rfl) (fun j v hv => by rw [add_spot]; exact hsrc j v hv) (by simp [nv, hL, h0]) (nv_one _ _) ?_
  have e1 : ((nv .i64 L0).toArray.toList.take 0 ++ (nv .i64 L ++ (nv .i64 L0).toArray.toList.drop (0 + (nv .i64 L).length))).toArray = (nv .i64 L).toArray := by
    rw [List.drop_of_length_le (by simp [nv, hL, h0])]
    simp
  rw [e1, nv_length, hL]
  exact hK
/-- Where sixteen words lie. -/
theorem nums_at {w : World} {B : Nat} {A : Option Addr} {L : List Int} (h : Nums .i64 w B A 16 L) : ∃ b f, A = some ⟨b, f, none⟩ ∧ b < B ∧ ∀ (j : Nat) (v : Value), (nv .i64 L)[j]? = some v → w.cell? ⟨b, f + j, none⟩ = some v := by
  obtain ⟨b, f, e, hb, hc⟩ := h.2.rd (by intro e; have := h.1; rw [nv] at e; simp at e; subst e; simp at this)
  exact ⟨b, f, e, hb, hc⟩

set_option maxRecDepth 100000 in
set_option maxHeartbeats 4000000 in
theorem with_any (o : Ob) (id : Int) (L : List Int) (W : World) (hn : o.words.n = 16) (hL : Words W o L) : Calls Try.prog 37 #[.agg (oc o), .int .u64 id] W (PagePost id L W) := by
  obtain ⟨w1, hw, O, OR, hb, hs⟩ := start_oz W o
  have hLw := (hL hn)
  have hlen := hLw.1
  obtain ⟨b, f, hA, hbl, hsrc⟩ := nums_at hLw
  have HB := hide hb
  have HS := hide hsrc
  clear hb hL hLw hsrc
  go_enter Try.func37, Try.ntmps37
  go_wp2_with fail
  refine (new_any id _).mono ?_
  rintro e w2 ⟨g, rfl, OG, hg, hb2⟩
  obtain ⟨w3, hw3, O3, hb3, hs3⟩ := start_z w2
  obtain ⟨m, hm⟩ : ∃ m, w2.heap.size = m := ⟨_, rfl⟩
  have hgm : g < m := by have := OG.lt; omega
  have hsz : w1.heap.size ≤ m := by have := hb2.size; omega
  rw [hm] at O3 hb3 hs3
  have OG3 := OG.below hb3 (by omega)
  have O0 := (O.below hb2 O.lt).below hb3 (by have := O.lt; omega)
  have OR3 := (OR.below hb2 OR.lt).below hb3 (by have := OR.lt; omega)
  have hb13 := hb2.trans (hb3.mono hsz)
  have OG4 := OG3.row_other (g := m) (by omega) (oc (Ob.page id ⟨some ⟨g, 0, none⟩, 16, 16⟩))
  have O04 := O0.row_other (g := m) (by have := O.lt; omega) (oc (Ob.page id ⟨some ⟨g, 0, none⟩, 16, 16⟩))
  have OR4 := OR3.row_other (g := m) (by have := OR.lt; omega) (oc (Ob.page id ⟨some ⟨g, 0, none⟩, 16, 16⟩))
  have OM4 := O3.row_same (oc (Ob.page id ⟨some ⟨g, 0, none⟩, 16, 16⟩))
  have hb4 := below_row hb13 (g := m) hsz (oc (Ob.page id ⟨some ⟨g, 0, none⟩, 16, 16⟩))
  obtain ⟨w4, hw4⟩ : ∃ w4, w3.setRow m (oc (Ob.page id ⟨some ⟨g, 0, none⟩, 16, 16⟩)) = w4 := ⟨_, rfl⟩
  rw [hw4] at OG4 O04 OR4 OM4 hb4
  have hsrc4 : ∀ (j : Nat) (v : Value), (nv .i64 L)[j]? = some v → w4.cell? ⟨b, f + j, none⟩ = some v := fun j v hv => by
    rw [hb4.cell (p := ⟨b, f + j, none⟩) (by have := HB.out.size; show b < _; omega), HB.out.cell (p := ⟨b, f + j, none⟩) hbl]
    exact HS.out j v hv
  have k0 : w4.cell? ⟨m, 23, none⟩ = some (.slice (some ⟨g, 0, none⟩) 16 16) := OM4.cell 23
  have k1 : w4.cell? ⟨W.heap.size, 23, none⟩ = some (.slice (some ⟨b, f, none⟩) 16 o.words.c) := (O04.cell 23).trans (by show some (Value.slice o.words.A o.words.n o.words.c) = _; rw [hn, hA])
  have OM5 := OM4.row_other (g := g) (by omega) (nv .i64 L).toArray
  have OR5 := OR4.row_other (g := g) (by have := OR.lt; omega) (nv .i64 L).toArray
  have OG5 := OG4.row_same (nv .i64 L).toArray
  have hb5 := below_row hb4 (g := g) hg (nv .i64 L).toArray
  obtain ⟨w5, hw5⟩ : ∃ w5, w4.setRow g (nv .i64 L).toArray = w5 := ⟨_, rfl⟩
  rw [hw5] at OM5 OR5 OG5 hb5
  have HN := hide hn
  have HF : Hid (Below W.heap.size W (w5.setRow (W.heap.size + 1) (oc (Ob.page id ⟨some ⟨g, 0, none⟩, 16, 16⟩)))) := hide (below_row (HB.out.trans (hb5.mono (by omega))) (by omega) _)
  have HG5 := hide (OG5.row_other (g := W.heap.size + 1) (by omega) (oc (Ob.page id ⟨some ⟨g, 0, none⟩, 16, 16⟩)))
  have hgW : W.heap.size ≤ g := by omega
  clear hb2 hb3 hb13 hb4 hb5 OG3 O0 OR3 OG O OR O04 OR4 OG5 hA hn hw HB HS
  go_wp2_with (first | (refine store_ob rfl _ _ rfl rfl (c := Ob.page id ⟨some ⟨g, 0, none⟩, 16, 16⟩) rfl O3 rfl ?_; rw [hw4]) | (refine wpList_copy16 rfl _ _ rfl rfl rfl OG4 rfl hlen hsrc4 ?_; rw [hw5]) | (refine load_ob rfl _ rfl rfl OM5 ?_) | (refine store_ob rfl _ _ rfl rfl (c := Ob.page id ⟨some ⟨g, 0, none⟩, 16, 16⟩) rfl OR5 rfl ?_) | fail)
  refine bodyPost_ret (ret_ob rfl _ rfl (OR5.row_same _)) rfl ?_
  exact ⟨g, rfl, HG5.out, hgW, HF.out⟩

/-- A page and no error; nothing and an error. -/
def PageOk (id : Int) (L : List Int) (w : World) (e : Ending) (w' : World) : Prop := ∃ g, e = .returned (.tuple #[.agg (oc (Ob.page id ⟨some ⟨g, 0, none⟩, 16, 16⟩)), .int .i64 0]) ∧ Obl w' g 2 (nv .i64 L).toArray ∧ w.heap.size ≤ g ∧ Below w.heap.size w w'
def PageNo (r : Int) (w : World) (e : Ending) (w' : World) : Prop := e = .returned (.tuple #[.agg (oc Ob.zero), .int .i64 r]) ∧ Below w.heap.size w w'
theorem nv_put (L : List Int) (k : Nat) (v : Int) : ((nv .i64 L).toArray).setIfInBounds k (.int .i64 v) = (nv .i64 (L.set k v)).toArray := by simp [nv]

set_option maxRecDepth 100000 in
set_option maxHeartbeats 4000000 in
theorem set_no (o : Ob) (word v : Int) (W : World) (hc : o.check word ≠ 0) : Calls Try.prog 14 #[.agg (oc o), .int .i64 word, .int .i64 v] W (PageNo (o.check word) W) := by
  obtain ⟨w1, hw, O, OR, hb, hs⟩ := start_oz W o
  have HB := hide hb
  clear hb
  go_enter Try.func14, Try.ntmps14
  go_wp2_with (first | (refine load_ob rfl _ rfl rfl O ?_) | fail)
  refine (check_any o word _).mono ?_
  rintro e w2 ⟨rfl, hb2⟩
  have OR2 := OR.below hb2 OR.lt
  have HF := hide (below_row (HB.out.trans (hb2.mono HB.out.size)) (g := W.heap.size + 1) (by omega) (oc Ob.zero))
  obtain ⟨r, hr⟩ : ∃ r, o.check word = r := ⟨_, rfl⟩
  have HR := hide hr
  rw [hr] at hc ⊢
  have b0 : (r != 0) = true := by simpa using hc
  have b1 : (r == 0) = false := by simpa using hc
  clear hr hc hb2 hw
  go_wp2_with (first | (refine store_ob rfl _ _ rfl rfl (c := Ob.zero) rfl OR2 rfl ?_) | fail)
  refine bodyPost_ret (ret_ob2 rfl _ rfl (OR2.row_same _)) rfl ?_
  exact ⟨by rw [HR.out]; rfl, HF.out⟩

set_option maxRecDepth 100000 in
set_option maxHeartbeats 4000000 in
theorem set_ok (o : Ob) (L : List Int) (word v : Int) (W : World) (hc : o.check word = 0) (hL : Words W o L) : Calls Try.prog 14 #[.agg (oc o), .int .i64 word, .int .i64 v] W (PageOk o.id (L.set word.toNat v) W) := by
  obtain ⟨w1, hw, O, OR, hb, hs⟩ := start_oz W o
  obtain ⟨hp, h0, h1⟩ := Ob.check_0 hc
  have hn := hp.2.2.1
  have hlen := (hL hn).1
  have HB := hide hb
  have HL := hide (hL.below hb)
  have HN := hide hn
  obtain ⟨k, rfl⟩ := Int.eq_ofNat_of_zero_le h0
  clear hb hL hp hn
  go_enter Try.func14, Try.ntmps14
  go_wp2_with (first | (refine load_ob rfl _ rfl rfl O ?_) | fail)
  refine (check_any o _ _).mono ?_
  rintro e w2 ⟨rfl, hb2⟩
  rw [hc]
  have O2 := O.below hb2 O.lt
  have OR2 := OR.below hb2 OR.lt
  have HB2 := hide (HB.out.trans (hb2.mono HB.out.size))
  have HL2 := hide (HL.out.below hb2)
  have i0 : w2.cell? ⟨W.heap.size, 0, none⟩ = some (.int .u64 o.id) := O2.cell 0
  have hs2 : W.heap.size + 2 ≤ w2.heap.size := by have := hb2.size; omega
  clear hb2 HB HL O OR hc hw hs
  go_wp2_with (first | (refine load_ob rfl _ rfl rfl O2 ?_) | fail)
  refine (with_any o _ L _ HN.out HL2.out).mono ?_
  rintro e w3 ⟨g, rfl, OG, hg, hb3⟩
  obtain ⟨w4, hw4, O4, hb4, hs4⟩ := start_z w3
  obtain ⟨m, hm⟩ : ∃ m, w3.heap.size = m := ⟨_, rfl⟩
  have hgm : g < m := by have := OG.lt; omega
  have hsz : w2.heap.size ≤ m := by have := hb3.size; omega
  rw [hm] at O4 hb4 hs4
  have OG5 := (OG.below hb4 (by omega)).row_other (g := m) (by omega) (oc (Ob.page o.id ⟨some ⟨g, 0, none⟩, 16, 16⟩))
  have OR5 := ((OR2.below hb3 OR2.lt).below hb4 (by omega)).row_other (g := m) (by omega) (oc (Ob.page o.id ⟨some ⟨g, 0, none⟩, 16, 16⟩))
  have OM5 := O4.row_same (oc (Ob.page o.id ⟨some ⟨g, 0, none⟩, 16, 16⟩))
  have hb5 := below_row (hb3.trans (hb4.mono hsz)) (g := m) hsz (oc (Ob.page o.id ⟨some ⟨g, 0, none⟩, 16, 16⟩))
  obtain ⟨w5, hw5⟩ : ∃ w5, w4.setRow m (oc (Ob.page o.id ⟨some ⟨g, 0, none⟩, 16, 16⟩)) = w5 := ⟨_, rfl⟩
  rw [hw5] at OG5 OR5 OM5 hb5
  have k0 : w5.cell? ⟨m, 23, none⟩ = some (.slice (some ⟨g, 0, none⟩) 16 16) := OM5.cell 23
  have kl : k < L.length := by omega
  have z1 := OG5.free k
  have c1 := OG5.num kl
  have hgl := OG5.lt
  have OG6 := OG5.put k (.int .i64 v)
  rw [nv_put] at OG6
  have OM6 := OM5.put_other (b' := g) (by omega) k (.int .i64 v)
  have OR6 := OR5.put_other (b' := g) (by omega) k (.int .i64 v)
  have hb6 := hb5.setCell (p := ⟨g, k, none⟩) hg (.int .i64 v)
  obtain ⟨w6, hw6⟩ : ∃ w6, w5.setCell ⟨g, k, none⟩ (.int .i64 v) = w6 := ⟨_, rfl⟩
  rw [hw6] at OG6 OM6 OR6 hb6
  have HF : Hid (Below W.heap.size W (w6.setRow (W.heap.size + 1) (oc (Ob.page o.id ⟨some ⟨g, 0, none⟩, 16, 16⟩)))) := hide (below_row (HB2.out.trans (hb6.mono (by omega))) (by omega) _)
  have HG6 := hide (OG6.row_other (g := W.heap.size + 1) (by omega) (oc (Ob.page o.id ⟨some ⟨g, 0, none⟩, 16, 16⟩)))
  have hgW : W.heap.size ≤ g := by omega
  have hk16 : (k : Int) < 16 := h1
  clear hb3 hb4 hb5 hb6 HB2 HL2 OG OR2 O2 OG5 OR5 OG6 i0 hs2 hs4 hsz
  go_wp2_with (first | (refine store_ob rfl _ _ rfl rfl (c := Ob.page o.id ⟨some ⟨g, 0, none⟩, 16, 16⟩) rfl O4 rfl ?_; rw [hw5]) | (refine load_ob rfl _ rfl rfl OM6 ?_) | (refine store_ob rfl _ _ rfl rfl (c := Ob.page o.id ⟨some ⟨g, 0, none⟩, 16, 16⟩) rfl OR6 rfl ?_) | fail)
  refine bodyPost_ret (ret_ob2 rfl _ rfl (OR6.row_same _)) rfl ?_
  exact ⟨g, rfl, HG6.out, hgW, HF.out⟩

set_option maxRecDepth 100000 in
set_option maxHeartbeats 4000000 in
theorem copy_ok (o : Ob) (L : List Int) (id : Int) (W : World) (hp : o.Page) (hi : id ≠ 0) (hL : Words W o L) : Calls Try.prog 17 #[.agg (oc o), .int .u64 id] W (PageOk id L W) := by
  obtain ⟨w1, hw, O, OR, hb, hs⟩ := start_oz W o
  have HB := hide hb
  have HL := hide (hL.below hb)
  have HP := hide hp
  have b0 : (id == 0) = false := by simpa using hi
  clear hb hL hi hp
  go_enter Try.func17, Try.ntmps17
  go_wp2_with (first | (refine load_ob rfl _ rfl rfl O ?_) | fail)
  refine (valid_any o _).mono ?_
  rintro e w2 ⟨rfl, hb2⟩
  rw [decide_eq_true HP.out]
  have O2 := O.below hb2 O.lt
  have OR2 := OR.below hb2 OR.lt
  have HB2 := hide (HB.out.trans (hb2.mono HB.out.size))
  have HL2 := hide (HL.out.below hb2)
  have hs2 : W.heap.size + 2 ≤ w2.heap.size := by have := hb2.size; omega
  clear hb2 HB HL O OR hw hs
  go_wp2_with (first | (refine load_ob rfl _ rfl rfl O2 ?_) | fail)
  refine (with_any o _ L _ HP.out.2.2.1 HL2.out).mono ?_
  rintro e w3 ⟨g, rfl, OG, hg, hb3⟩
  have OR3 := OR2.below hb3 OR2.lt
  have HF : Hid (Below W.heap.size W (w3.setRow (W.heap.size + 1) (oc (Ob.page id ⟨some ⟨g, 0, none⟩, 16, 16⟩)))) := hide (below_row (HB2.out.trans (hb3.mono (by omega))) (by omega) _)
  have HG := hide (OG.row_other (g := W.heap.size + 1) (by omega) (oc (Ob.page id ⟨some ⟨g, 0, none⟩, 16, 16⟩)))
  have hgW : W.heap.size ≤ g := by omega
  clear hb3 HB2 HL2 OR2 OG
  go_wp2_with (first | (refine store_ob rfl _ _ rfl rfl (c := Ob.page id ⟨some ⟨g, 0, none⟩, 16, 16⟩) rfl OR3 rfl ?_) | fail)
  refine bodyPost_ret (ret_ob2 rfl _ rfl (OR3.row_same _)) rfl ?_
  exact ⟨g, rfl, HG.out, hgW, HF.out⟩

set_option maxRecDepth 100000 in
set_option maxHeartbeats 4000000 in
theorem copy_no (o : Ob) (id : Int) (W : World) (hp : ¬ (o.Page ∧ id ≠ 0)) : Calls Try.prog 17 #[.agg (oc o), .int .u64 id] W (PageNo 1 W) := by
  obtain ⟨w1, hw, O, OR, hb, hs⟩ := start_oz W o
  have HB := hide hb
  clear hb
  go_enter Try.func17, Try.ntmps17
  go_wp2_with (first | (refine load_ob rfl _ rfl rfl O ?_) | fail)
  refine (valid_any o _).mono ?_
  rintro e w2 ⟨rfl, hb2⟩
  have OR2 := OR.below hb2 OR.lt
  have HF := hide (below_row (HB.out.trans (hb2.mono HB.out.size)) (g := W.heap.size + 1) (by omega) (oc Ob.zero))
  clear hb2 hw
  by_cases hv : o.Page
  · obtain rfl : id = 0 := Decidable.not_not.1 fun h => hp ⟨hv, h⟩
    rw [decide_eq_true hv]
    clear hp hv
    go_wp2_with (first | (refine store_ob rfl _ _ rfl rfl (c := Ob.zero) rfl OR2 rfl ?_) | fail)
    refine bodyPost_ret (ret_ob2 rfl _ rfl (OR2.row_same _)) rfl ?_
    exact ⟨rfl, HF.out⟩
  · rw [decide_eq_false hv]
    clear hp hv
    go_wp2_with (first | (refine store_ob rfl _ _ rfl rfl (c := Ob.zero) rfl OR2 rfl ?_) | fail)
    refine bodyPost_ret (ret_ob2 rfl _ rfl (OR2.row_same _)) rfl ?_
    exact ⟨rfl, HF.out⟩
end Go.Proofs.Ytohdoleeefoiaaa
