/- The reference of pages: Valid, Get, Set, Copy: contracts. -/
import Derived.Test.YtohdoleeefoiaaaPgBare
import Derived.Test.YtohdoleeefoiaaaPgSet
namespace Go.Proofs.Ytohdoleeefoiaaa
open Go.RowKit

theorem numTy : ElemTy Try.prog 35 2 1 8 := by
  obtain ⟨i0, hi, hz0, hz1, hz2⟩ := info_parts (show (Try.prog.info? 2).map (fun i => (i.zero, i.size, i.bytes)) = some (some (.int .i64 0), 1, 8) by kernel_rfl)
  exact ⟨i0, _, Try.underlying35, hi, hz0, hz1, hz2, rfl, by omega⟩
/-- An object without its words. -/
def Ob.bared (o : Ob) : Ob := { o with words := ⟨none, 0, 0⟩ }
theorem Ob.bared_iff (o : Ob) : o.bared.Clear ↔ o.Bare := ⟨fun h => h.2, fun h => ⟨rfl, h⟩⟩
theorem oc_bared (o : Ob) : (oc o).setIfInBounds 23 (.slice none 0 0) = oc o.bared := rfl
set_option maxRecDepth 100000 in
set_option maxHeartbeats 8000000 in
theorem refValid_any (o : Ob) (W : World) : Calls Try.prog 20 #[.agg (oc o)] W (BoolPost (decide o.Page) W) := by
  obtain ⟨w1, hw, O, hb⟩ : ∃ w1, W.alloc (.cells (oc o) 41) = w1 ∧ Obl w1 W.heap.size 41 (oc o) ∧ Below W.heap.size W w1 := ⟨_, rfl, Obl.make W _ _, (Below.refl _ _).alloc (Nat.le_refl _) _⟩
  have z0 := O.free 23
  have hl := O.lt
  have O2 := O.put 23 (.slice none 0 0)
  rw [oc_bared] at O2
  have hb2 := hb.setCell (p := ⟨W.heap.size, 23, none⟩) (Nat.le_refl _) (.slice none 0 0)
  obtain ⟨w2, hw2⟩ : ∃ w2, w1.setCell ⟨W.heap.size, 23, none⟩ (.slice none 0 0) = w2 := ⟨_, rfl⟩
  rw [hw2] at O2 hb2
  have HB := hide hb2
  clear hb hb2
  have kw : w1.cell? ⟨W.heap.size, 23, none⟩ = some (.slice o.words.A o.words.n o.words.c) := O.cell 23
  have k0 : w2.cell? ⟨W.heap.size, 1, none⟩ = some (.int .i64 o.kind) := O2.cell 1
  have k1 : w2.cell? ⟨W.heap.size, 0, none⟩ = some (.int .u64 o.id) := O2.cell 0
  by_cases h0 : o.kind = 2
  · have H0 := hide h0
    rw [h0] at k0
    clear h0
    by_cases h1 : o.id = 0
    · have H1 := hide h1
      rw [h1] at k1
      clear h1
      go_enter Try.func20, Try.ntmps20
      go_wp2_with fail
      go_ret
      exact ⟨ret_bool (decide_eq_false (fun hh : o.Page => hh.2.1 H1.out)).symm, HB.out⟩
    · have H1 := hide h1
      have b1 : (o.id != 0) = true := by simpa using h1
      have b1' : (o.id == 0) = false := by simpa using h1
      clear h1
      by_cases h2 : o.words.n = 16
      · have H2 := hide h2
        rw [h2] at kw
        clear h2
        by_cases h3 : o.Bare
        · have H3 := hide h3
          clear h3
          go_enter Try.func20, Try.ntmps20
          go_wp2_with (first | (refine wpList_val (by rfl) (exec_load_ob rfl rfl O2) ?_) | (go_at_call 41; refine (bare_any o.bared _).mono ?_; rintro e u3 ⟨rfl, g3⟩; rw [show decide o.bared.Clear = true from decide_eq_true (o.bared_iff.2 H3.out)]) | fail)
          go_ret
          exact ⟨ret_bool (decide_eq_true (show o.Page from ⟨H0.out, H1.out, H2.out, H3.out⟩)).symm, HB.out.trans (g3.mono HB.out.size)⟩
        · have H3 := hide h3
          clear h3
          go_enter Try.func20, Try.ntmps20
          go_wp2_with (first | (refine wpList_val (by rfl) (exec_load_ob rfl rfl O2) ?_) | (go_at_call 41; refine (bare_any o.bared _).mono ?_; rintro e u3 ⟨rfl, g3⟩; rw [show decide o.bared.Clear = false from decide_eq_false (fun hh => H3.out (o.bared_iff.1 hh))]) | fail)
          go_ret
          exact ⟨ret_bool (decide_eq_false (fun hh : o.Page => H3.out hh.2.2.2)).symm, HB.out.trans (g3.mono HB.out.size)⟩
      · have H2 := hide h2
        have b2 : (((o.words.n : Nat) : Int) == 16) = false := by simp; omega
        have e2 : ¬ ((o.words.n : Nat) : Int) = 16 := by omega
        clear h2
        go_enter Try.func20, Try.ntmps20
        go_wp2_with fail
        go_ret
        exact ⟨ret_bool (decide_eq_false (fun hh : o.Page => H2.out hh.2.2.1)).symm, HB.out⟩
  · have H0 := hide h0
    have b0 : (o.kind == 2) = false := by simpa using h0
    clear h0
    go_enter Try.func20, Try.ntmps20
    go_wp2_with fail
    go_ret
    exact ⟨ret_bool (decide_eq_false (fun hh : o.Page => H0.out hh.1)).symm, HB.out⟩

set_option maxRecDepth 100000 in
set_option maxHeartbeats 4000000 in
theorem refGet_any (o : Ob) (L : List Int) (word : Int) (W : World) (hL : Words W o L) : Calls Try.prog 13 #[.agg (oc o), .int .i64 word] W (GetPost (o.get L word) (o.check word) W) := by
  obtain ⟨w1, hw, O, hb⟩ : ∃ w1, W.alloc (.cells (oc o) 41) = w1 ∧ Obl w1 W.heap.size 41 (oc o) ∧ Below W.heap.size W w1 := ⟨_, rfl, Obl.make W _ _, (Below.refl _ _).alloc (Nat.le_refl _) _⟩
  have HB := hide hb
  have HL := hide (hL.below hb)
  clear hb hL
  go_enter Try.func13, Try.ntmps13
  go_wp2_with (first | (refine load_ob rfl _ rfl rfl O ?_) | fail)
  refine (refValid_any o _).mono ?_
  rintro e w2 ⟨rfl, hb2⟩
  have HF := hide (HB.out.trans (hb2.mono HB.out.size))
  have HL2 := hide (HL.out.below hb2)
  have O2 := O.below hb2 O.lt
  clear hb2 HL hw
  by_cases hv : o.Page
  · rw [decide_eq_true hv]
    by_cases h0 : 0 ≤ word
    · by_cases h1 : word < 16
      · have hc : o.check word = 0 := by unfold Ob.check; rw [if_pos hv, if_pos ⟨h0, h1⟩]
        have HC := hide hc
        have HQ : Hid (o.get L word = L.getD word.toNat 0) := hide (by unfold Ob.get; rw [if_pos hc])
        obtain ⟨k, rfl⟩ := Int.eq_ofNat_of_zero_le h0
        have hn := hv.2.2.1
        obtain ⟨b, f, hl, hA, hlt, hcell⟩ := (HL2.out hn).at_ (i := k) (by omega)
        have k23 : w2.cell? ⟨W.heap.size, 23, none⟩ = some (.slice (some ⟨b, f, none⟩) 16 o.words.c) := (O2.cell 23).trans (by show some (Value.slice o.words.A o.words.n o.words.c) = _; rw [hn, hA])
        have HG : Hid (L.getD k 0 = L[k]) := hide (Cd.getD_at _ _ hl)
        obtain ⟨v, hvv⟩ : ∃ v, L[k] = v := ⟨_, rfl⟩
        rw [hvv] at hcell HG
        clear hvv hn hA hv hc
        go_wp2
        go_ret2
        exact ⟨by rw [HC.out, HQ.out, Int.toNat_natCast, HG.out]; rfl, HF.out⟩
      · have HC : Hid (o.check word = 2) := hide (by unfold Ob.check; rw [if_pos hv, if_neg (fun h => h1 h.2)])
        have HQ : Hid (o.get L word = 0) := hide (by unfold Ob.get; rw [HC.out]; rfl)
        clear hv
        go_wp2
        go_ret2
        exact ⟨by rw [HC.out, HQ.out]; rfl, HF.out⟩
    · have HC : Hid (o.check word = 2) := hide (by unfold Ob.check; rw [if_pos hv, if_neg (fun h => h0 h.1)])
      have HQ : Hid (o.get L word = 0) := hide (by unfold Ob.get; rw [HC.out]; rfl)
      clear hv
      go_wp2
      go_ret2
      exact ⟨by rw [HC.out, HQ.out]; rfl, HF.out⟩
  · have HC : Hid (o.check word = 1) := hide (by unfold Ob.check; rw [if_neg hv])
    have HQ : Hid (o.get L word = 0) := hide (by unfold Ob.get; rw [HC.out]; rfl)
    rw [decide_eq_false hv]
    clear hv
    go_wp2
    go_ret2
    exact ⟨by rw [HC.out, HQ.out]; rfl, HF.out⟩

set_option maxRecDepth 100000 in
set_option maxHeartbeats 4000000 in
theorem refSet_no (o : Ob) (L : List Int) (word v : Int) (W : World) (hL : Words W o L) (hc : o.check word ≠ 0) : Calls Try.prog 15 #[.agg (oc o), .int .i64 word, .int .i64 v] W (PageNo (o.check word) W) := by
  obtain ⟨w1, hw, O, OR, hb, hs⟩ := start_oz W o
  have HB := hide hb
  have HL := hide (hL.below hb)
  clear hb hL
  go_enter Try.func15, Try.ntmps15
  go_wp2_with (first | (refine load_ob rfl _ rfl rfl O ?_) | fail)
  refine (refGet_any o L word _ HL.out).mono ?_
  rintro e w2 ⟨rfl, hb2⟩
  have OR2 := OR.below hb2 OR.lt
  have HF := hide (below_row (HB.out.trans (hb2.mono HB.out.size)) (g := W.heap.size + 1) (by omega) (oc Ob.zero))
  obtain ⟨r, hr⟩ : ∃ r, o.check word = r := ⟨_, rfl⟩
  have HR := hide hr
  rw [hr] at hc ⊢
  have b0 : (r != 0) = true := by simpa using hc
  have b1 : (r == 0) = false := by simpa using hc
  clear hr hc hb2 hw
  go_wp2_with (first | (refine store_ob rfl _ _ rfl rfl (c := Ob.zero) rfl OR2 rfl ?_) | fail)
  refine bodyPost_ret (ret_ob2 rfl _ rfl (OR2.row_same _)) rfl ?_
  exact ⟨by rw [HR.out]; rfl, HF.out⟩

/-- The reference gives the object with other words, and no error. -/
def RefOk (o : Ob) (L : List Int) (w : World) (e : Ending) (w' : World) : Prop := ∃ A c, e = .returned (.tuple #[.agg (oc { o with words := ⟨A, 16, c⟩ }), .int .i64 0]) ∧ Nums .i64 w' w'.heap.size A 16 L ∧ Below w.heap.size w w'
theorem below_none {w w' : World} (h : w.grownBy w' none) : Below w.heap.size w w' := ⟨h.os, h.tape, h.output, h.size, fun k hk => h.block k hk (by simp)⟩
theorem own_none {w : World} {base : Nat} {e : TypeId} {size : Nat} : w.ownsRow base e size (.slice none 0 0) 0 [] := ⟨by simp, .inl ⟨rfl, rfl⟩⟩
theorem oc_words (o : Ob) (A : Option Addr) (c : Nat) : (oc o).setIfInBounds 23 (.slice A 16 c) = oc { o with words := ⟨A, 16, c⟩ } := rfl

/-- Behind the copy of sixteen words: where they lie. -/
theorem row_copied {w2 w3 : World} {A : Option Addr} {c : Nat} {L : List Int} (h : w3.ownsRow w2.heap.size 2 1 (.slice A (0 + 16) c) (0 + 16) ([] ++ nv .i64 L)) : ∃ g, A = some ⟨g, 0, none⟩ ∧ w2.heap.size ≤ g ∧ w3.ownsRow w2.heap.size 2 1 (.slice (some ⟨g, 0, none⟩) 16 c) 16 (nv .i64 L) := by
  obtain ⟨g, rfl, hg, _⟩ := own_addr h (by omega)
  exact ⟨g, rfl, hg, by simpa using h⟩
/-- A row that is laid elsewhere. -/
theorem Nums.keep_row {w : World} {g f n B m : Nat} {L : List Int} {k : IntKind} {cells : Array Value} (h : Nums k w B (some ⟨g, f, none⟩) n L) (hne : g ≠ m) : Nums k (w.setRow m cells) (w.setRow m cells).heap.size (some ⟨g, f, none⟩) n L := by
  refine ⟨h.1, h.2.1, h.2.2.1, fun hx => ?_⟩
  obtain ⟨b, o, e, hb, hc⟩ := h.2.2.2 hx
  simp only [Option.some.injEq, Addr.mk.injEq, and_true] at e
  obtain ⟨rfl, rfl⟩ := e
  refine ⟨_, _, rfl, ?_, fun j u hu => ?_⟩
  · obtain ⟨x, l, hxl⟩ := List.exists_cons_of_ne_nil hx
    have := World.block_lt_of_cell? w _ (hc 0 x (by rw [hxl]; rfl))
    simpa [World.setRow] using this
  · rw [← hc j u hu]
    unfold World.cell?
    simp only [setRow_other w m cells hne]
/-- The words are laid into the object's block. -/
theorem ref_laid {W w2 w3 : World} {o : Ob} {g c : Nat} {L : List Int} (hb : Below W.heap.size W w3) (O : Obl w3 W.heap.size 41 (oc o)) (OR : Obl w3 (W.heap.size + 1) 41 (oc Ob.zero)) (hg : W.heap.size + 2 ≤ g)
    (hown : w3.ownsRow w2.heap.size 2 1 (.slice (some ⟨g, 0, none⟩) 16 c) 16 (nv .i64 L)) :
    ∃ w4, w3.setCell ⟨W.heap.size, 23, none⟩ (.slice (some ⟨g, 0, none⟩) 16 c) = w4 ∧ Obl w4 W.heap.size 41 (oc { o with words := ⟨some ⟨g, 0, none⟩, 16, c⟩ }) ∧ Obl w4 (W.heap.size + 1) 41 (oc Ob.zero) ∧
      w4.ownsRow w2.heap.size 2 1 (.slice (some ⟨g, 0, none⟩) 16 c) 16 (nv .i64 L) ∧ Below W.heap.size W w4 := by
  refine ⟨_, rfl, ?_, OR.put_other (by omega) _ _, own_put_other hown ?_ _, hb.setCell (p := ⟨W.heap.size, 23, none⟩) (Nat.le_refl _) _⟩
  · have := O.put 23 (.slice (some ⟨g, 0, none⟩) 16 c)
    rwa [oc_words] at this
  · rw [ownBlock_slice]
    show some g ≠ some W.heap.size
    intro e
    injection e
    omega
set_option maxRecDepth 100000 in
set_option maxHeartbeats 4000000 in
theorem refSet_ok (o : Ob) (L : List Int) (word v : Int) (W : World) (hc : o.check word = 0) (hL : Words W o L) : Calls Try.prog 15 #[.agg (oc o), .int .i64 word, .int .i64 v] W (RefOk o (L.set word.toNat v) W) := by
  obtain ⟨w1, hw, O, OR, hb, hs⟩ := start_oz W o
  obtain ⟨hp, h0, h1⟩ := Ob.check_0 hc
  have hn := hp.2.2.1
  have hlen := (hL hn).1
  have HB := hide hb
  have HL := hide (hL.below hb)
  have HN := hide hn
  obtain ⟨k, rfl⟩ := Int.eq_ofNat_of_zero_le h0
  clear hb hL hp hn
  go_enter Try.func15, Try.ntmps15
  go_wp2_with (first | (refine load_ob rfl _ rfl rfl O ?_) | fail)
  refine (refGet_any o L _ _ HL.out).mono ?_
  rintro e w2 ⟨rfl, hb2⟩
  rw [hc]
  have O2 := O.below hb2 O.lt
  have OR2 := OR.below hb2 OR.lt
  have HB2 := hide (HB.out.trans (hb2.mono HB.out.size))
  have hL2 := (HL.out.below hb2) HN.out
  have k23 : w2.cell? ⟨W.heap.size, 23, none⟩ = some (.slice o.words.A 16 o.words.c) := (O2.cell 23).trans (by show some (Value.slice o.words.A o.words.n o.words.c) = _; rw [HN.out])
  have hs2 : W.heap.size + 2 ≤ w2.heap.size := by have := hb2.size; omega
  have kl : k < L.length := by omega
  have hk16 : (k : Int) < 16 := h1
  generalize o.get L (k : Int) = gv
  clear hb2 HB HL O OR hc hw hs
  go_wp2_with (first | (at_builtin; refine wpList_append_rd rfl _ _ _ rfl numTy (A := none) (n := 0) (c := 0) (xs := []) (base := w2.heap.size) rfl own_none (S := o.words.A) (m := 16) (d := o.words.c) (news := nv .i64 L) rfl hL2.2 (nv_one _ _) (by unfold maxLen; omega) (by omega) (Nat.le_refl _) ?_; intro A3 c3 w3 hown3 hg3 _; obtain ⟨g, rfl, hgB, hown⟩ := row_copied hown3; have hb3 := below_none hg3; have O3 := O2.below hb3 O2.lt; have z3 := O3.free 23; have k3 : w3.cell? ⟨W.heap.size, 23, none⟩ = some (.slice o.words.A o.words.n o.words.c) := O3.cell 23; obtain ⟨w4, hw4, O4, OR4, hown4, hb4⟩ := ref_laid (HB2.out.trans (hb3.mono (by omega))) O3 (OR2.below hb3 OR2.lt) (by omega) hown; have k4 : w4.cell? ⟨W.heap.size, 23, none⟩ = some (.slice (some ⟨g, 0, none⟩) 16 c3) := O4.cell 23; have z4 := own_free hown4 k; have c4 := own_cell hown4 (nv_at kl); have hgl := (own_addr hown4 (by omega)); have HOW := hide (own_set (i := k) hown4 (.int .i64 v)); have O5 := O4.put_other (b' := g) (by omega) k (.int .i64 v); have OR5 := OR4.put_other (b' := g) (by omega) k (.int .i64 v); have HB5 := hide (hb4.setCell (p := ⟨g, k, none⟩) (by show _ ≤ g; omega) (.int .i64 v)); clear hown3 hg3 hown hb3 O3 O4 OR4 hown4 hb4 hgl; obtain ⟨w5, hw5⟩ : ∃ w5, w4.setCell ⟨g, k, none⟩ (.int .i64 v) = w5 := ⟨_, rfl⟩; rw [hw5] at HOW O5 OR5 HB5) | (refine load_ob rfl _ rfl rfl O5 ?_) | (refine store_ob rfl _ _ rfl rfl (c := { o with words := ⟨some ⟨g, 0, none⟩, 16, c3⟩ }) rfl OR5 rfl ?_) | fail)
  refine bodyPost_ret (ret_ob2 rfl _ rfl (OR5.row_same _)) rfl ?_
  refine ⟨some ⟨g, 0, none⟩, c3, rfl, ?_, below_row HB5.out (by omega) _⟩
  rw [Int.toNat_natCast]
  have h5 : w5.ownsRow w2.heap.size 2 1 (.slice (some ⟨g, 0, none⟩) 16 c3) 16 (nv .i64 (L.set k v)) := by
    have := HOW.out
    rwa [show (nv .i64 L).set k (.int .i64 v) = nv .i64 (L.set k v) from by simp [nv]] at this
  exact (Nums.of_own h5).keep_row (by omega)

set_option maxRecDepth 100000 in
set_option maxHeartbeats 4000000 in
theorem refCopy_ok (o : Ob) (L : List Int) (id : Int) (W : World) (hp : o.Page) (hi : id ≠ 0) (hL : Words W o L) : Calls Try.prog 18 #[.agg (oc o), .int .u64 id] W (RefOk { o with id := id } L W) := by
  obtain ⟨w1, hw, O, OR, hb, hs⟩ := start_oz W o
  have hn := hp.2.2.1
  have hlen := (hL hn).1
  have HB := hide hb
  have HL := hide (hL.below hb)
  have HP := hide hp
  have b0 : (id == 0) = false := by simpa using hi
  clear hb hL hp hn hi
  go_enter Try.func18, Try.ntmps18
  go_wp2_with (first | (refine load_ob rfl _ rfl rfl O ?_) | fail)
  refine (refValid_any o _).mono ?_
  rintro e w2 ⟨rfl, hb2⟩
  rw [decide_eq_true HP.out]
  have O2 := O.below hb2 O.lt
  have OR2 := OR.below hb2 OR.lt
  have HB2 := hide (HB.out.trans (hb2.mono HB.out.size))
  have hL2 := (HL.out.below hb2) HP.out.2.2.1
  have k23 : w2.cell? ⟨W.heap.size, 23, none⟩ = some (.slice o.words.A 16 o.words.c) := (O2.cell 23).trans (by show some (Value.slice o.words.A o.words.n o.words.c) = _; rw [HP.out.2.2.1])
  have hs2 : W.heap.size + 2 ≤ w2.heap.size := by have := hb2.size; omega
  clear hb2 HB HL O OR hw hs
  go_wp2_with (first | (at_builtin; refine wpList_append_rd rfl _ _ _ rfl numTy (A := none) (n := 0) (c := 0) (xs := []) (base := w2.heap.size) rfl own_none (S := o.words.A) (m := 16) (d := o.words.c) (news := nv .i64 L) rfl hL2.2 (nv_one _ _) (by unfold maxLen; omega) (by omega) (Nat.le_refl _) ?_; intro A3 c3 w3 hown3 hg3 _; obtain ⟨g, rfl, hgB, hown⟩ := row_copied hown3; have hb3 := below_none hg3; have O3 := O2.below hb3 O2.lt; have z0 := O3.free 0; have k0 : w3.cell? ⟨W.heap.size, 0, none⟩ = some (.int .u64 o.id) := O3.cell 0; have OI : Obl (w3.setCell ⟨W.heap.size, 0, none⟩ (.int .u64 id)) W.heap.size 41 (oc { o with id := id }) := O3.put 0 (.int .u64 id); have ORI := (OR2.below hb3 OR2.lt).put_other (b' := W.heap.size) (by omega) 0 (.int .u64 id); have hbI := (HB2.out.trans (hb3.mono (by omega))).setCell (p := ⟨W.heap.size, 0, none⟩) (Nat.le_refl _) (.int .u64 id); have hownI := own_put_other (b := W.heap.size) (i := 0) hown (by rw [ownBlock_slice]; show some g ≠ some W.heap.size; intro e; injection e; omega) (.int .u64 id); obtain ⟨w6, hw6⟩ : ∃ w6, w3.setCell ⟨W.heap.size, 0, none⟩ (.int .u64 id) = w6 := ⟨_, rfl⟩; rw [hw6] at OI ORI hbI hownI; have z3 := OI.free 23; have k3 : w6.cell? ⟨W.heap.size, 23, none⟩ = some (.slice o.words.A o.words.n o.words.c) := OI.cell 23; obtain ⟨w4, hw4, O4, OR4, hown4, hb4⟩ := ref_laid hbI OI ORI (by omega) hownI; have HOW := hide hown4; have HB4 := hide hb4; clear hown3 hg3 hown hb3 O3 OI ORI hbI hownI hown4 hb4) | (refine load_ob rfl _ rfl rfl O4 ?_) | (refine store_ob rfl _ _ rfl rfl (c := { o with id := id, words := ⟨some ⟨g, 0, none⟩, 16, c3⟩ }) rfl OR4 rfl ?_) | fail)
  refine bodyPost_ret (ret_ob2 rfl _ rfl (OR4.row_same _)) rfl ?_
  exact ⟨some ⟨g, 0, none⟩, c3, rfl, (Nums.of_own HOW.out).keep_row (by omega), below_row HB4.out (by omega) _⟩

set_option maxRecDepth 100000 in
set_option maxHeartbeats 4000000 in
theorem refCopy_no (o : Ob) (id : Int) (W : World) (hp : ¬ (o.Page ∧ id ≠ 0)) : Calls Try.prog 18 #[.agg (oc o), .int .u64 id] W (PageNo 1 W) := by
  obtain ⟨w1, hw, O, OR, hb, hs⟩ := start_oz W o
  have HB := hide hb
  clear hb
  go_enter Try.func18, Try.ntmps18
  go_wp2_with (first | (refine load_ob rfl _ rfl rfl O ?_) | fail)
  refine (refValid_any o _).mono ?_
  rintro e w2 ⟨rfl, hb2⟩
  have OR2 := OR.below hb2 OR.lt
  have HF := hide (below_row (HB.out.trans (hb2.mono HB.out.size)) (g := W.heap.size + 1) (by omega) (oc Ob.zero))
  clear hb2 hw
  by_cases hv : o.Page
  · obtain rfl : id = 0 := Decidable.not_not.1 fun h => hp ⟨hv, h⟩
    rw [decide_eq_true hv]
    clear hp hv
    go_wp2_with (first | (refine store_ob rfl _ _ rfl rfl (c := Ob.zero) rfl OR2 rfl ?_) | fail)
    refine bodyPost_ret (ret_ob2 rfl _ rfl (OR2.row_same _)) rfl ?_
    exact ⟨rfl, HF.out⟩
  · rw [decide_eq_false hv]
    clear hp hv
    go_wp2_with (first | (refine store_ob rfl _ _ rfl rfl (c := Ob.zero) rfl OR2 rfl ?_) | fail)
    refine bodyPost_ret (ret_ob2 rfl _ rfl (OR2.row_same _)) rfl ?_
    exact ⟨rfl, HF.out⟩
end Go.Proofs.Ytohdoleeefoiaaa
