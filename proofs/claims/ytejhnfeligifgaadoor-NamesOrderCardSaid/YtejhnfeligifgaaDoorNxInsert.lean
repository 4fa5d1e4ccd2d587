/- Layer 9: package names' copies of entries: contracts. | Layer 9: rows of entries with one put in: the rows, and copy at elements of three cells. | Layer 9: slices.Insert of one entry into a row of the call's own: a contract. -/
import Derived.Test.YtejhnfeligifgaaDoorNmAdd
import Derived.Test.YtejhnfeligifgaaDoorRowNil
import Derived.Laws.CopyRow
import Derived.Shelf.Spec.SlicesInsert
import Derived.Lib.AppendZerosOnto
namespace Go.Proofs.YtejhnfeligifgaaDoor
open Go.RowKit

/-- A copy of identifiers. -/
def CloneI (n : Nat) (I : List Int) (w : World) (e : Ending) (w' : World) : Prop := ∃ A c, e = .returned (.slice A n c) ∧ w'.ownsRow w.heap.size 22 1 (.slice A n c) n (nv .u64 I) ∧ Below w.heap.size w w'
set_option maxRecDepth 100000 in
set_option maxHeartbeats 4000000 in
theorem cloneI_any (I : List Int) (A : Option Addr) (n cap B : Nat) (W : World) (h : Nums .u64 W B A n I) (hB : B ≤ W.heap.size) (hn : n ≤ 1000000) : Calls Tryd.prog 71 #[.slice A n cap] W (CloneI n I W) := by
  have HR := hide (h.mono hB)
  have hl := h.1
  clear h
  have heq : ∀ w : World, (binOp .eql 23 (.slice A n cap) (.slice none 0 0)).run Tryd.prog w = .ok (.bool A.isNone) w := fun w => Lib.run_eql_slice_nil w _ _ _ _ _ _ _ Tryd.underlying23
  cases A with
  | none =>
    have h0 : n = 0 := HR.out.2.2.1 rfl
    subst h0
    have hl0 := List.eq_nil_of_length_eq_zero hl
    subst hl0
    go_enter Tryd.func71, Tryd.ntmps71
    go_wp2_with fail
    go_ret
    exact ⟨none, 0, rfl, own_none, Below.refl _ _⟩
  | some a =>
    go_enter Tryd.func71, Tryd.ntmps71
    go_wp2_with (first | (at_builtin; refine wpList_append_rd rfl _ _ _ rfl idTy (base := W.heap.size) rfl (own_empty W 22 1 (Nat.le_refl _)) (S := some a) (m := n) (d := cap) (news := nv .u64 I) rfl (HR.out.2.alloc (Nat.le_refl _) _) (nv_one _ _) (by unfold maxLen; omega) (by omega) (by simp) ?_; intro A3 c3 w3 hown3 hg3 _; have HB3 := hide (below_own ((Below.refl _ _).alloc (Nat.le_refl _) _) (own_empty W 22 1 (Nat.le_refl _)) hg3 (by simp)); rw [Nat.zero_add, List.nil_append] at hown3; have HO3 := hide hown3; clear hown3 hg3) | fail)
    go_ret
    exact ⟨A3, c3, rfl, HO3.out, HB3.out⟩
set_option maxRecDepth 100000 in
set_option maxHeartbeats 4000000 in
theorem nxCopied_any (x : Nm) (B : Nat) (I : List Int) (W : World) (hI : Nums .u64 W B x.ids.A x.ids.n I) (hB : B ≤ W.heap.size) (hn : x.ids.n ≤ 1000) : Calls Tryd.prog 41 #[.agg (nc x)] W (CopiedIs x I W) := by
  obtain ⟨path, kd, ids⟩ := x
  obtain ⟨A, n, c⟩ := ids
  simp only at hI hn
  obtain ⟨w1, hw, O, OR, hb, hs⟩ : ∃ w1, (W.alloc (.cells (nc ⟨path, kd, ⟨A, n, c⟩⟩) 51)).alloc (.cells #[.string ⟨#[]⟩, .int .i64 0, .slice none 0 0] 51) = w1 ∧ Obl w1 W.heap.size 51 (nc ⟨path, kd, ⟨A, n, c⟩⟩) ∧ Obl w1 (W.heap.size + 1) 51 #[.string ⟨#[]⟩, .int .i64 0, .slice none 0 0] ∧ Below W.heap.size W w1 ∧ w1.heap.size = W.heap.size + 2 := by
    refine ⟨_, rfl, (Obl.make W _ _).alloc _, ?_, ((Below.refl _ _).alloc (Nat.le_refl _) _).alloc (by simp) _, by simp⟩
    have := Obl.make (W.alloc (.cells (nc ⟨path, kd, ⟨A, n, c⟩⟩) 51)) 51 #[.string ⟨#[]⟩, .int .i64 0, .slice none 0 0]
    rwa [World.size_alloc] at this
  have HB := hide hb
  have HI1 := hide (hI.belowLe hb hB)
  have k2 : w1.cell? ⟨W.heap.size, 2, none⟩ = some (.slice A n c) := O.cell 2
  clear hb hI
  go_enter Tryd.func41, Tryd.ntmps41
  go_wp2_with fail
  refine (cloneI_any I A n c B _ HI1.out (by omega) (by omega)).mono ?_
  rintro e w3 ⟨A3, c3, rfl, hown3, hb3⟩
  have O3 := O.below hb3 O.lt
  have OR3 := OR.below hb3 OR.lt
  have z3 := O3.free 2
  have k3 : w3.cell? ⟨W.heap.size, 2, none⟩ = some (.slice A n c) := O3.cell 2
  have O4 : Obl (w3.setCell ⟨W.heap.size, 2, none⟩ (.slice A3 n c3)) W.heap.size 51 (nc ⟨path, kd, ⟨A3, n, c3⟩⟩) := O3.put 2 _
  have OR4 := OR3.put_other (b' := W.heap.size) (by omega) 2 (.slice A3 n c3)
  have HO4 := hide (own_keep hown3 (keep_put (m := W.heap.size) (by omega) 2 (.slice A3 n c3)))
  have HB4 := hide ((HB.out.trans (hb3.mono (by omega))).setCell (p := ⟨W.heap.size, 2, none⟩) (Nat.le_refl _) (.slice A3 n c3))
  obtain ⟨w4, hw4⟩ : ∃ w4, w3.setCell ⟨W.heap.size, 2, none⟩ (.slice A3 n c3) = w4 := ⟨_, rfl⟩
  rw [hw4] at O4 OR4 HO4 HB4
  clear hown3 O3 OR3 hb3 hw
  go_wp2_with (first | (refine load_nm rfl _ rfl rfl O4 ?_) | (refine store_nm rfl _ _ rfl rfl (c := ⟨path, kd, ⟨A3, n, c3⟩⟩) rfl OR4 rfl ?_) | fail)
  refine bodyPost_ret (ret_nm rfl _ rfl (OR4.row_same _)) rfl ?_
  exact ⟨A3, c3, rfl, own_weaken (own_keep HO4.out (keep_row (m := W.heap.size + 1) (by omega) _)) (by omega), below_row HB4.out (by omega) _⟩
/-- The entries again, in rows of the call's own. -/
def AllIs (n : Nat) (E : List Nx.Ent) (w : World) (e : Ending) (w' : World) : Prop := ∃ A c l, e = .returned (.slice A n c) ∧ NmOutE w' w.heap.size A n c l E ∧ Below w.heap.size w w'
set_option maxRecDepth 100000 in
set_option maxHeartbeats 8000000 in
theorem nxAllCopied_any (A : Option Addr) (n c : Nat) (l : List Nm) (E : List Nx.Ent) (W : World) (hl0 : Ents W W.heap.size A n l E) (hs : Short l) (hn : n ≤ 1000) : Calls Tryd.prog 53 #[.slice A n c] W (AllIs n E W) := by
  have hl := hl0.nms
  have HE1 : Hid (E.length = n) := hide hl0.len
  have HEN := hide hl0
  have hb : Below W.heap.size W W := Below.refl _ _
  have HB := hide hb
  have HL := hide hl
  have HS := hide hs
  have hn' : (n : Int) ≤ 1000 := by omega
  have M0 : Hid (NmOutE W W.heap.size none 0 0 [] []) := hide ⟨⟨own_nil, by simp⟩, by intro y hy; simp at hy, by omega, rfl, fun k h => by simp at h⟩
  clear hb hl hl0 hs
  by_cases hn0 : n = 0
  · subst hn0
    have HE0 := hide (List.eq_nil_of_length_eq_zero HE1.out)
    go_enter Tryd.func53, Tryd.ntmps53
    go_wp2_with fail
    go_loop [3, 8] (fun s3 s8 => s3 = .slice none 0 0 ∧ s8 = .int .i64 0) (fun _ _ => 0)
    case atStart => exact ⟨rfl, rfl⟩
    case round =>
      obtain ⟨rfl, rfl⟩ := hrel
      go_wp2_with fail
      go_ret
      exact ⟨none, 0, [], rfl, by rw [HE0.out]; exact M0.out, HB.out⟩
  have hL0 := HL.out
  obtain ⟨b1, f1, _, hA, _⟩ := hL0.at_ (i := 0) (by omega)
  subst hA
  clear hL0
  go_enter Tryd.func53, Tryd.ntmps53
  go_wp2_with fail
  go_loopw [3, 8] (fun s3 s8 wr => ∃ (k c' : Nat) (A' : Option Addr) (L : List Nm), s8 = .int .i64 (k : Int) ∧ s3 = .slice A' k c' ∧ k ≤ n ∧ Hid (NmOutE wr W.heap.size A' k c' L (E.take k)) ∧ Hid (Below W.heap.size W wr)) (fun _ s8 _ => n - (intOf s8).toNat)
  case atStart => exact ⟨0, 0, none, [], rfl, rfl, by omega, M0, HB⟩
  case round =>
    clear M0 HB
    obtain ⟨k, c', A', L, rfl, rfl, hk, M, HB⟩ := hrel
    by_cases hlt : k < n
    · have hlt' : (k : Int) < (n : Int) := by omega
      have hLr := HL.out.below HB.out
      obtain ⟨b1', f1', hkl, hA, hb1, c0, c1, c2, _⟩ := hLr.at_ hlt
      obtain ⟨_, hkE, hent, hII⟩ := HEN.out.ent hlt
      have HPT := hide (List.take_succ_eq_append_getElem hkE)
      obtain ⟨II, hIIe⟩ : ∃ II, E[k].ids = II := ⟨_, rfl⟩
      rw [hIIe] at hent hII
      have HENT := hide hent
      clear hIIe hent
      have HIW := hide hII
      simp only [Option.some.injEq, Addr.mk.injEq, and_true] at hA
      obtain ⟨rfl, rfl⟩ := hA
      have hy := hide (HS.out _ (List.getElem_mem hkl))
      generalize l[k] = y at *
      obtain ⟨w3, hw3, g, hg, w4, hw4, OZ, N, hb4, hs4⟩ := start_nm wr y
      have hgW : W.heap.size ≤ g := by have := HB.out.size; omega
      replace M := hide (M.out.later (hb4.mono (by omega)))
      replace HB := hide (HB.out.trans (hb4.mono hgW))
      clear hLr hb4 hII hs4
      go_wp2_with (first | (refine wpList_val (by rfl) (exec_load_nmid rfl rfl c0 c1 c2) ?_) | (refine store_nm rfl _ _ rfl rfl (c := y) rfl OZ rfl ?_; rw [hw4]) | (refine load_nm rfl _ rfl rfl N ?_) | fail)
      clear OZ hw4 hw3 hg c0 c1 c2
      refine (nxCopied_any y W.heap.size II _ (HIW.out.below HB.out) HB.out.size hy.out.2).mono ?_
      rintro e wa ⟨A2, c2, rfl, hown2, hb2⟩
      rw [show nc ⟨y.path, y.kind, ⟨A2, y.ids.n, c2⟩⟩ = #[.string ⟨y.path.toArray⟩, .int .i64 y.kind, .slice A2 y.ids.n c2] from rfl]
      have Ma := hide (M.out.later hb2)
      have hid := hide (own_weaken (base' := W.heap.size) hown2 M.out.base_le)
      have HBa := hide (HB.out.trans (hb2.mono HB.out.size))
      clear hown2 hb2 M HB
      have hrow := Ma.out.own.1.alloc (.cells #[.string ⟨y.path.toArray⟩, .int .i64 y.kind, .slice A2 y.ids.n c2] 51)
      have hthree : Row _ _ 3 _ 1 [.string ⟨y.path.toArray⟩, .int .i64 y.kind, .slice A2 y.ids.n c2] := Row.three wa ⟨y.path, y.kind, ⟨A2, y.ids.n, c2⟩⟩ 51
      have hbs : W.heap.size ≤ (wa.alloc (.cells #[.string ⟨y.path.toArray⟩, .int .i64 y.kind, .slice A2 y.ids.n c2] 51)).heap.size := by have := Ma.out.base_le; simp; omega
      have HBc := hide (HBa.out.alloc (by have := Ma.out.base_le; omega) (.cells #[.string ⟨y.path.toArray⟩, .int .i64 y.kind, .slice A2 y.ids.n c2] 51))
      obtain ⟨wc, hwc⟩ : ∃ wc, wa.alloc (.cells #[.string ⟨y.path.toArray⟩, .int .i64 y.kind, .slice A2 y.ids.n c2] 51) = wc := ⟨_, rfl⟩
      rw [hwc] at hrow hthree hbs HBc
      go_wp2_with (first | (at_builtin; refine wpList_append_rd rfl _ _ _ rfl nmTy (base := W.heap.size) rfl hrow rfl hthree (by simp [Value.oneCell']) (by unfold maxLen; omega) (by omega) hbs ?_; intro A3 c3 wb hown3 hg3 _; rw [show nmv L ++ [.string ⟨y.path.toArray⟩, .int .i64 y.kind, .slice A2 y.ids.n c2] = nmv (L ++ [⟨y.path, y.kind, ⟨A2, y.ids.n, c2⟩⟩]) from nmv_snoc L ⟨y.path, y.kind, ⟨A2, y.ids.n, c2⟩⟩] at hown3; have HBb := hide (HBc.out.grown hg3 (by have := Ma.out.base_le; omega) (fun k hk => by have := (hrow.lt k (by rw [ownBlock_slice]; exact hk)).1; omega)); rw [← hwc] at hg3; have Mb := hide (Ma.out.more (Below.refl _ _) (x := ⟨y.path, y.kind, ⟨A2, y.ids.n, c2⟩⟩) hy.out hid.out _ hown3 hg3); clear hown3 hg3 hrow hthree) | fail)
      go_roundw
      case rel => exact ⟨k + 1, c3, A3, _, by go_num, rfl, by omega, hide (by rw [HPT.out, ← HENT.out]; exact Mb.out), HBb⟩
      case measure => simp [intOf]; omega
    · obtain rfl : k = n := by omega
      have HT := hide (show E.take k = E from List.take_of_length_le (by have := HE1.out; omega))
      go_wp2_with fail
      go_ret
      exact ⟨A', c', L, rfl, by have := M.out; rwa [HT.out] at this, HB.out⟩
end Go.Proofs.YtejhnfeligifgaaDoor
namespace Go.Proofs.YtejhnfeligifgaaDoor
open Go.RowKit

theorem nmv_take (l : List Nm) {i : Nat} (h : i ≤ l.length) : (nmv l).take (i * 3) = nmv (l.take i) := by
  have h1 : nmv l = nmv (l.take i) ++ nmv (l.drop i) := by rw [← nmv_append, List.take_append_drop]
  rw [h1, List.take_left' (by rw [nmv_length, List.length_take]; omega)]
theorem nmv_drop (l : List Nm) {i : Nat} (h : i ≤ l.length) : (nmv l).drop (i * 3) = nmv (l.drop i) := by
  have h1 : nmv l = nmv (l.take i) ++ nmv (l.drop i) := by rw [← nmv_append, List.take_append_drop]
  rw [h1, List.drop_left' (by rw [nmv_length, List.length_take]; omega)]
/-- A piece laid over a row. -/
def over (C : List Value) (o : Nat) (cs : List Value) : List Value := C.take o ++ cs ++ C.drop (o + cs.length)
theorem over_length {C : List Value} {o : Nat} {cs : List Value} (h : o + cs.length ≤ C.length) : (over C o cs).length = C.length := by
  unfold over; simp; omega
theorem over_take {C : List Value} {o k : Nat} {cs : List Value} (h : k ≤ o) (ho : o ≤ C.length) : (over C o cs).take k = C.take k := by
  unfold over
  rw [List.append_assoc, List.take_append_of_le_length (by rw [List.length_take]; omega), List.take_take, Nat.min_eq_left h]
theorem over_drop {C : List Value} {o : Nat} {cs : List Value} (h : o + cs.length ≤ C.length) : (over C o cs).drop (o + cs.length) = C.drop (o + cs.length) := by
  unfold over
  rw [List.drop_left' (by rw [List.length_append, List.length_take]; omega)]
theorem over_mid {C : List Value} {o : Nat} {cs : List Value} (h : o ≤ C.length) : (over C o cs).drop o = cs ++ C.drop (o + cs.length) := by
  unfold over
  rw [List.append_assoc, List.drop_left' (by rw [List.length_take]; omega)]
/-- The row where there is room. -/
theorem shift_row {C : List Value} {l : List Nm} {x : Nm} {i n : Nat} (hl : l.length = n) (hC : C.take (n * 3) = nmv l) (hi : i < n) (hr : (n + 1) * 3 ≤ C.length) :
    (over (over C ((i + 1) * 3) (nmv (l.drop i))) (i * 3) (nmc x)).take ((n + 1) * 3) = nmv (l.take i ++ x :: l.drop i) := by
  have hd : (nmv (l.drop i)).length = (n - i) * 3 := by rw [nmv_length, List.length_drop, hl]
  have hx : (nmc x).length = 3 := rfl
  have h1 : (over C ((i + 1) * 3) (nmv (l.drop i))).length = C.length := over_length (by rw [hd]; omega)
  have h2 : (over C ((i + 1) * 3) (nmv (l.drop i))).take (i * 3) = nmv (l.take i) := by
    rw [over_take (by omega) (by omega), ← nmv_take l (by omega), ← hC, List.take_take, Nat.min_eq_left (by omega)]
  have h3 : (over C ((i + 1) * 3) (nmv (l.drop i))).drop (i * 3 + (nmc x).length) = nmv (l.drop i) ++ C.drop ((i + 1) * 3 + (nmv (l.drop i)).length) := by
    rw [hx, show i * 3 + 3 = (i + 1) * 3 by omega, over_mid (by omega)]
  generalize over C ((i + 1) * 3) (nmv (l.drop i)) = R at *
  unfold over
  rw [h2, h3, nmv_append, nmv_cons, ← List.append_assoc, ← List.append_assoc (nmv (l.take i))]
  rw [List.take_left' (by simp only [List.length_append, hd, hx, nmv_length, List.length_take]; omega)]
/-- The row where there is none. -/
theorem grow_row {Z : List Value} {l : List Nm} {x : Nm} {i n : Nat} (hl : l.length = n) (hi : i < n) :
    (over (over (nmv (l.take i) ++ Z) (i * 3) (nmc x)) ((i + 1) * 3) (nmv (l.drop i))).take ((n + 1) * 3) = nmv (l.take i ++ x :: l.drop i) := by
  have hd : (nmv (l.drop i)).length = (n - i) * 3 := by rw [nmv_length, List.length_drop, hl]
  have ht : (nmv (l.take i)).length = i * 3 := by rw [nmv_length, List.length_take]; omega
  have hx : (nmc x).length = 3 := rfl
  have h1 : over (nmv (l.take i) ++ Z) (i * 3) (nmc x) = nmv (l.take i) ++ nmc x ++ Z.drop 3 := by
    unfold over
    rw [List.take_left' ht, ← ht, List.drop_length_add_append, hx]
  rw [h1]
  have h2 : over (nmv (l.take i) ++ nmc x ++ Z.drop 3) ((i + 1) * 3) (nmv (l.drop i)) = nmv (l.take i) ++ nmc x ++ nmv (l.drop i) ++ (Z.drop 3).drop (nmv (l.drop i)).length := by
    unfold over
    have h3 : (nmv (l.take i) ++ nmc x).length = (i + 1) * 3 := by rw [List.length_append, ht, hx]; omega
    rw [List.take_left' h3, ← h3, List.drop_length_add_append]
  rw [h2, nmv_append, nmv_cons, List.take_left' (by simp only [List.length_append, hd, hx, ht]; omega), List.append_assoc]
/-- copy at elements of three cells, into a row that is known whole. -/
theorem run_copy3 {P : Program} (w : World) (dT sT ty elem : TypeId) (g o dLen dCap : Nat) (a : Addr) (sLen sCap : Nat) (cur : Array Value) (t : TypeId) (cs : List Value) (m : Nat)
    (hu : P.underlying dT = some (.slice elem)) (hs : (P.info? elem).map (·.size) = some 3)
    (hg : w.heap[g]? = some (.cells cur t (0, 0))) (hm : Nat.min sLen dLen = m) (hn : cs.length = m * 3)
    (hsrc : ∀ j v, cs[j]? = some v → w.cell? (a.add j) = some v) (hfit : o + cs.length ≤ cur.size) (h1 : ∀ v ∈ cs, v.oneCell' = true) :
    (Builtin.copy_ #[dT, sT] ty #[.slice (some ⟨g, o, none⟩) dLen dCap, .slice (some a) sLen sCap]).run P w =
      .ok (goInt m) (w.setRow g (over cur.toList o cs).toArray) := by
  have hl := run_loadCells_list (P := P) w a cs hsrc
  have hst := run_storeCells_at P g o t cs 0 cur w hg (by simpa using hfit) h1
  rw [hn] at hl
  cases hq : P.info? elem with
  | none => simp [hq] at hs
  | some i =>
    have hi : i.size = 3 := by simpa [hq] using hs
    simp [Builtin.copy_, run_underlying hu, Builtin.lenOf, Builtin.firstCells, sizeOf, typeInfo, hq, hi, hm, hl, hst, over]
end Go.Proofs.YtejhnfeligifgaaDoor
namespace Go.Proofs.YtejhnfeligifgaaDoor
open Go.RowKit

/-- The row with x at its place. -/
def InsAt (base : Nat) (A : Option Addr) (n : Nat) (L : List Nm) (w : World) (e : Ending) (w' : World) : Prop := ∃ A' c', e = .returned (.slice A' (n + 1) c') ∧ w'.ownsRow base 51 3 (.slice A' (n + 1) c') (n + 1) (nmv L) ∧ w.grownBy w' (blk A)
set_option maxRecDepth 100000 in
set_option maxHeartbeats 8000000 in
theorem nxInsert_any (base : Nat) (A : Option Addr) (n c i vb : Nat) (l : List Nm) (x : Nm) (w : World) (hown : w.ownsRow base 51 3 (.slice A n c) n (nmv l)) (hi : i ≤ n) (hn : n ≤ 1000) (hbase : base ≤ w.heap.size) (hv : w.heap[vb]? = some (.cells (nc x) 51 (0, 0))) (hvb : some vb ≠ blk A) :
    Calls Tryd.prog 52 #[.slice A n c, .int .i64 (i : Int), .slice (some ⟨vb, 0, none⟩) 1 1] w (InsAt base A n (l.take i ++ x :: l.drop i) w) := by
  have hl : l.length = n := own_nmv hown
  have hn' : (n : Int) ≤ 1000 := by omega
  have hin : (i : Int) ≤ (n : Int) := by omega
  have hthree : Row w (vb + 1) 3 (some ⟨vb, 0, none⟩) 1 (nmc x) := ⟨rfl, (fun h => by cases h), fun _ => ⟨vb, 0, rfl, Nat.lt_succ_self _, fun j u hu => by
    rw [Nat.zero_add]
    simp only [World.cell?, hv]
    rw [show (nc x)[j]? = (nmc x)[j]? from by simp [nc, nmc], hu]
    rfl⟩⟩
  rcases hown.2 with ⟨he, h0⟩ | ⟨g, cap, cur, he, hbg, hg, hnc, hcm, hcs, hct⟩
  · -- the nil slice
    simp only [Value.slice.injEq] at he
    obtain ⟨rfl, rfl, rfl⟩ := he
    obtain rfl : i = 0 := by omega
    have hl0 := List.eq_nil_of_length_eq_zero hl
    subst hl0
    go_enter Tryd.func52, Tryd.ntmps52
    go_wp2_with (first | (at_builtin; refine wpList_append_rd rfl _ _ _ rfl nmTy (base := base) rfl hown rfl hthree (by simp [nmc, Value.oneCell']) (by unfold maxLen; omega) (by omega) hbase ?_; intro A3 c3 wb hown3 hg3 _) | fail)
    go_ret
    exact ⟨A3, c3, rfl, hown3, hg3⟩
  · simp only [Value.slice.injEq] at he
    obtain ⟨rfl, _, rfl⟩ := he
    have hvg : vb ≠ g := fun e => hvb (by rw [e]; rfl)
    by_cases hend : i = n
    · -- at the end
      subst hend
      have HL : Hid (l.take i ++ x :: l.drop i = l ++ [x]) := hide (by rw [List.take_of_length_le (by omega), List.drop_of_length_le (by omega)])
      have ht1 : c = i ∨ c ≠ i := by omega
      go_enter Tryd.func52, Tryd.ntmps52
      go_wp2_with (first | (at_builtin; refine wpList_append_rd rfl _ _ _ rfl nmTy (base := base) rfl hown rfl hthree (by simp [nmc, Value.oneCell']) (by unfold maxLen; omega) (by omega) hbase ?_; intro A3 c3 wb hown3 hg3 _) | fail)
      all_goals (go_ret; exact ⟨A3, c3, rfl, by rw [HL.out]; rw [← nmv_snoc]; exact hown3, hg3⟩)
    · have hlt : i < n := by omega
      have hlt' : (i : Int) < (n : Int) := by omega
      have hne : ¬ (i : Int) = (n : Int) := by omega
      have hneb : ((i : Int) == (n : Int)) = false := by simp; omega
      have hsz : (Tryd.prog.info? 51).map (·.size) = some 3 := nmSize
      have hdl : (nmv (l.drop i)).length = (n - i) * 3 := by rw [nmv_length, List.length_drop, hl]
      have hx3 : (nmc x).length = 3 := rfl
      have hx1 : ∀ v ∈ nmc x, v.oneCell' = true := by simp [nmc, Value.oneCell']
      have hd1 : ∀ v ∈ nmv (l.drop i), v.oneCell' = true := nmv_one _
      have hcell : ∀ j v, (nmv (l.drop i))[j]? = some v → w.cell? ⟨g, i * 3 + j, none⟩ = some v := fun j v hj => by
        rw [← nmv_drop l (by omega), List.getElem?_drop, ← hct, List.getElem?_take] at hj
        split at hj
        · simp only [World.cell?, hg]
          rw [← Array.getElem?_toList, hj]; rfl
        · cases hj
      have hvcell : ∀ j v, (nmc x)[j]? = some v → w.cell? ⟨vb, 0 + j, none⟩ = some v := fun j v hj => by
        rw [Nat.zero_add]
        simp only [World.cell?, hv]
        rw [show (nc x)[j]? = (nmc x)[j]? from by simp [nc, nmc], hj]
        rfl
      by_cases hroom : n + 1 ≤ c
      · have hov : ∀ lb cb, (callFunc 81 #[.slice (some ⟨vb, 0, none⟩) 1 1, .slice (some ⟨g, (i + 1) * 3, none⟩) lb cb]).run Tryd.prog w = .ok (.value (.bool false)) w := fun lb cb => by
          rw [run_callFunc_extern Tryd.func81 (by kernel_rfl) (by kernel_rfl) (by kernel_rfl) (e := Extern.SlicesOverlaps.overlaps #[39, 39] #[4]) (by kernel_rfl),
            Lib.run_overlaps_apart w 39 4 51 Tryd.underlying39 3 Tryd.sizeOf51 ⟨vb, 0, none⟩ ⟨g, (i + 1) * 3, none⟩ 1 1 lb cb hvg 51 51 3 cur.size (by simp [World.shape?, hv, nc]) (by simp [World.shape?, hg]) (by omega) (by simp [World.frozen?, hv]) (by simp [World.frozen?, hv])]
          rfl
        obtain ⟨R1, hR1⟩ : ∃ R1, (over cur.toList ((i + 1) * 3) (nmv (l.drop i))).toArray = R1 := ⟨_, rfl⟩
        have hcp1 : ∀ ty dc sc, (Builtin.copy_ #[39, 39] ty #[.slice (some ⟨g, (i + 1) * 3, none⟩) (n - i) dc, .slice (some ⟨g, i * 3, none⟩) (n + 1 - i) sc]).run Tryd.prog w.drew = .ok (goInt (n - i : Nat)) (w.drew.setRow g R1) := fun ty dc sc => by
          rw [← hR1]
          exact run_copy3 w.drew _ _ ty 51 g ((i + 1) * 3) (n - i) dc ⟨g, i * 3, none⟩ (n + 1 - i) sc cur 51 (nmv (l.drop i)) (n - i) Tryd.underlying39 hsz hg (by simp only [Nat.min_def]; split <;> omega) hdl
            (fun j v hj => by rw [Addr.add_lit]; exact hcell j v hj) (by rw [hdl]; omega) hd1
        have hR1l : R1.toList = over cur.toList ((i + 1) * 3) (nmv (l.drop i)) := by rw [← hR1]
        have hR1s : R1.size = c * 3 := by
          rw [← Array.length_toList, hR1l, over_length (by rw [hdl, Array.length_toList, hcs]; omega), Array.length_toList, hcs]
        obtain ⟨w2, hw2⟩ : ∃ w2, w.drew.setRow g R1 = w2 := ⟨_, rfl⟩
        have hg2 : w2.heap[g]? = some (.cells R1 51 (0, 0)) := by rw [← hw2]; exact Go.setRow_heap w.drew g cur R1 _ _ hg
        have hv2 : w2.heap[vb]? = some (.cells (nc x) 51 (0, 0)) := by rw [← hw2]; exact (Go.setRow_other w.drew g vb R1 hvg).trans hv
        have hgb2 : w.grownBy w2 (some g) := by rw [← hw2]; exact ⟨rfl, rfl, rfl, by simp [World.setRow], fun k _ hk => Go.setRow_other w.drew g k R1 (fun e => hk (by rw [e]))⟩
        rw [hw2] at hcp1
        obtain ⟨R2, hR2⟩ : ∃ R2, (over R1.toList (i * 3) (nmc x)).toArray = R2 := ⟨_, rfl⟩
        have hcp2 : ∀ ty dc, (Builtin.copy_ #[39, 39] ty #[.slice (some ⟨g, i * 3, none⟩) (n + 1 - i) dc, .slice (some ⟨vb, 0, none⟩) 1 1]).run Tryd.prog w2 = .ok (goInt (1 : Nat)) (w2.setRow g R2) := fun ty dc => by
          rw [← hR2]
          exact run_copy3 w2 _ _ ty 51 g (i * 3) (n + 1 - i) dc ⟨vb, 0, none⟩ 1 1 R1 51 (nmc x) 1 Tryd.underlying39 hsz hg2 (by simp only [Nat.min_def]; split <;> omega) hx3
            (fun j v hj => by rw [Addr.add_lit]; exact (World.cell?_of_block (w := w) (w' := w2) (a := ⟨vb, 0 + j, none⟩) (hv2.trans hv.symm)).trans (hvcell j v hj)) (by rw [hx3, hR1s]; omega) hx1
        have hR2l : R2.toList = over R1.toList (i * 3) (nmc x) := by rw [← hR2]
        have HOWN : Hid ((w2.setRow g R2).ownsRow base 51 3 (.slice (some ⟨g, 0, none⟩) (n + 1) c) (n + 1) (nmv (l.take i ++ x :: l.drop i))) := hide ⟨by
            rw [nmv_length, List.length_append, List.length_take, List.length_cons, List.length_drop, hl]; omega, .inr ⟨g, c, R2, rfl, hbg, Go.setRow_heap w2 g R1 R2 _ _ hg2, hroom, hcm, by
            rw [← Array.length_toList, hR2l, over_length (by rw [hx3, Array.length_toList, hR1s]; omega), Array.length_toList, hR1s], by
            rw [hR2l, hR1l]
            exact shift_row hl hct hlt (by rw [Array.length_toList, hcs]; omega)⟩⟩
        have HGB : Hid (w.grownBy (w2.setRow g R2) (some g)) := hide (hgb2.trans ⟨rfl, rfl, rfl, by simp [World.setRow], fun k _ hk => Go.setRow_other w2 g k R2 (fun e => hk (by rw [e]))⟩)
        have hc63 : (c : Int) ≤ 9223372036854775807 := by unfold maxLen at hcm; omega
        have hb2 : ¬ (c = i + 1) := by omega
        have hb1 : (0 : Int) ≤ (i : Int) + 1 := by omega
        have hb5 : (i : Int) + 1 ≤ (n : Int) + 1 := by omega
        have hb4 : ¬ (c = i) := by omega
        have hroom' : ¬ ((c : Int) < (n : Int) + 1) := by omega
        have hw1 : IntKind.i64.wrap ((i : Int) + 1) = (i : Int) + 1 := by rw [IntKind.wrap_i64]; omega
        have hw4 : IntKind.i64.wrap ((n : Int) + 1) = (n : Int) + 1 := by rw [IntKind.wrap_i64]; omega
        have hw3 : ((i : Int) + 1).toNat = i + 1 := by omega
        have hw5 : ((n : Int) + 1).toNat = n + 1 := by omega
        have hb3 : (i : Int) ≤ (n : Int) + 1 := by omega
        clear hR1 hR2 hR1l hR1s hg2 hv2 hgb2 hR2l hw2 hcell hvcell hdl hct hcs hd1 hx1
        go_enter Tryd.func52, Tryd.ntmps52
        go_wp2_with (first | (simp only [hov]) | fail)
        go_region_law (refine step_copy_runI rfl _ _ 39 39 rfl _ _ (by simp [Act.eval, Act.put]) (by simp [Act.eval, Act.put]) (hcp1 _ _ _) ?_)
        go_wp2_with (first | (at_builtin; refine wpList_copy_runI _ rfl _ _ 39 39 rfl _ _ rfl rfl (hcp2 _ _) ?_) | fail)
        go_ret
        exact ⟨_, c, rfl, HOWN.out, HGB.out⟩
      · obtain rfl : c = n := by omega
        obtain ⟨i0, hi0, hz0, hzs, hzb⟩ := info_parts (show (Tryd.prog.info? 51).map (fun i => (i.zero, i.size, i.bytes)) = some (some (.agg #[.string ⟨#[]⟩, .int .i64 0, .slice none 0 0]), 3, 48) by kernel_rfl)
        have hold : (Builtin.firstCells i0.size i (.slice (some ⟨g, 0, none⟩) i c)).run Tryd.prog w.drew = .ok (nmv (l.take i)).toArray w.drew := by
          rw [hzs]
          exact run_firstCells_some w.drew 3 i ⟨g, 0, none⟩ i c (nmv (l.take i)) (by rw [nmv_length, List.length_take]; omega) (fun j v hj => by
            rw [Addr.add_lit, Nat.zero_add]
            rw [← nmv_take l (by omega), ← hct, List.take_take, List.getElem?_take] at hj
            split at hj
            · show w.cell? _ = _
              simp only [World.cell?, hg]
              rw [← Array.getElem?_toList, hj]; rfl
            · cases hj)
        obtain ⟨G, hG⟩ : ∃ G, grownCap w (c + 1) c 51 = G := ⟨_, rfl⟩
        have hGn : c + 1 ≤ G := by rw [← hG]; exact grownCap_ge w _ _ _
        have hGm : G ≤ maxLen := by rw [← hG]; exact grownCap_le_maxLen w _ _ _ (by unfold maxLen; omega)
        obtain ⟨Z, hZ⟩ : ∃ Z, (Builtin.zeroCells (Value.agg #[.string ⟨#[]⟩, .int .i64 0, .slice none 0 0]).cells (c + 1 - i) ++ Builtin.zeroCells (Value.agg #[.string ⟨#[]⟩, .int .i64 0, .slice none 0 0]).cells (G - (c + 1))).toList = Z := ⟨_, rfl⟩
        have hZl : Z.length = (G - i) * 3 := by
          rw [← hZ]
          simp [Builtin.zeroCells, Value.cells]
          omega
        have ht : (nmv (l.take i)).length = i * 3 := by rw [nmv_length, List.length_take]; omega
        have hrz : ∀ ty, (Builtin.append_ #[39, 3] ty #[.slice (some ⟨g, 0, none⟩) i c, .int .i64 ((c : Int) + 1 - (i : Int))]).run Tryd.prog w = .ok (.slice (some ⟨w.heap.size, 0, none⟩) (c + 1) G) (w.drew.alloc (.cells (nmv (l.take i) ++ Z).toArray 51)) := fun ty => by
          have h := Lib.run_append_grow_zeros w 39 3 ty 51 i0 _ .i64 .i64 Tryd.underlying39 Tryd.underlying3 hi0 hz0 (some ⟨g, 0, none⟩) i c (nmv (l.take i)) hold (c + 1 - i) (by omega) (by omega) (by omega) (by omega) (by rw [hzb]; omega) (by rw [hzb, show i + (c + 1 - i) = c + 1 by omega]; exact growslice_fits (by omega) (by omega))
          rw [show i + (c + 1 - i) = c + 1 by omega, hG] at h
          rw [show (c : Int) + 1 - (i : Int) = ((c + 1 - i : Nat) : Int) by omega, h, ← hZ]
          refine congrArg (fun r : Array Value => Result.ok _ (w.drew.alloc (.cells r 51))) ?_
          apply Array.ext'
          simp
        obtain ⟨W1, hW1⟩ : ∃ W1, w.drew.alloc (.cells (nmv (l.take i) ++ Z).toArray 51) = W1 := ⟨_, rfl⟩
        have hN1 : W1.heap[w.heap.size]? = some (.cells (nmv (l.take i) ++ Z).toArray 51 (0, 0)) := by rw [← hW1]; exact Go.heap_alloc_new w.drew _
        have hgb1 : w.grownBy W1 (some g) := by rw [← hW1]; exact ⟨rfl, rfl, rfl, by rw [World.size_alloc]; exact Nat.le_succ _, fun k hk _ => Go.heap_alloc_old w.drew _ hk⟩
        have hsz1 : W1.heap.size = w.heap.size + 1 := by rw [← hW1, World.size_alloc]; rfl
        have hgw : g < w.heap.size := (Array.getElem?_eq_some_iff.1 hg).1
        have hvw : vb < w.heap.size := (Array.getElem?_eq_some_iff.1 hv).1
        have hg1 : W1.heap[g]? = some (.cells cur 51 (0, 0)) := by rw [← hW1]; exact (Go.heap_alloc_old w.drew _ hgw).trans hg
        have hv1 : W1.heap[vb]? = w.heap[vb]? := by rw [← hW1]; exact Go.heap_alloc_old w.drew _ hvw
        rw [hW1] at hrz
        obtain ⟨N, hN⟩ : ∃ N, w.heap.size = N := ⟨_, rfl⟩
        rw [hN] at hrz hN1 hsz1 hgw hvw
        obtain ⟨R1, hR1⟩ : ∃ R1, (over (nmv (l.take i) ++ Z) (i * 3) (nmc x)).toArray = R1 := ⟨_, rfl⟩
        have hcp1 : ∀ ty dc, (Builtin.copy_ #[39, 39] ty #[.slice (some ⟨N, i * 3, none⟩) (c + 1 - i) dc, .slice (some ⟨vb, 0, none⟩) 1 1]).run Tryd.prog W1 = .ok (goInt (1 : Nat)) (W1.setRow N R1) := fun ty dc => by
          rw [← hR1]
          exact run_copy3 W1 _ _ ty 51 N (i * 3) (c + 1 - i) dc ⟨vb, 0, none⟩ 1 1 (nmv (l.take i) ++ Z).toArray 51 (nmc x) 1 Tryd.underlying39 hsz hN1 (by simp only [Nat.min_def]; split <;> omega) hx3
            (fun j v hj => by rw [Addr.add_lit]; exact (World.cell?_of_block (w := w) (w' := W1) (a := ⟨vb, 0 + j, none⟩) hv1).trans (hvcell j v hj)) (by rw [hx3]; simp [ht, hZl]; omega) hx1
        have hR1l : R1.toList = over (nmv (l.take i) ++ Z) (i * 3) (nmc x) := by rw [← hR1]
        have hR1s : R1.size = G * 3 := by
          rw [← Array.length_toList, hR1l, over_length (by rw [hx3]; simp [ht, hZl]; omega)]; simp [ht, hZl]; omega
        obtain ⟨W2, hW2⟩ : ∃ W2, W1.setRow N R1 = W2 := ⟨_, rfl⟩
        have hN2 : W2.heap[N]? = some (.cells R1 51 (0, 0)) := by rw [← hW2]; exact Go.setRow_heap W1 N _ R1 _ _ hN1
        have hg2 : W2.heap[g]? = w.heap[g]? := by rw [← hW2]; exact (Go.setRow_other W1 N g R1 (by omega)).trans (hg1.trans hg.symm)
        have hgb2 : w.grownBy W2 (some g) := by rw [← hW2]; exact ⟨hgb1.os, hgb1.tape, hgb1.output, by simpa [World.setRow] using hgb1.size, fun k hk hkg => (Go.setRow_other W1 N k R1 (by omega)).trans (hgb1.block k hk hkg)⟩
        rw [hW2] at hcp1
        obtain ⟨R2, hR2⟩ : ∃ R2, (over R1.toList ((i + 1) * 3) (nmv (l.drop i))).toArray = R2 := ⟨_, rfl⟩
        have hcp2 : ∀ ty dc sc, (Builtin.copy_ #[39, 39] ty #[.slice (some ⟨N, (i + 1) * 3, none⟩) (c - i) dc, .slice (some ⟨g, i * 3, none⟩) (c - i) sc]).run Tryd.prog W2.drew = .ok (goInt (c - i : Nat)) (W2.drew.setRow N R2) := fun ty dc sc => by
          rw [← hR2]
          exact run_copy3 W2.drew _ _ ty 51 N ((i + 1) * 3) (c - i) dc ⟨g, i * 3, none⟩ (c - i) sc R1 51 (nmv (l.drop i)) (c - i) Tryd.underlying39 hsz hN2 (by simp only [Nat.min_def]; split <;> omega) hdl
            (fun j v hj => by rw [Addr.add_lit]; exact (World.cell?_of_block (w := w) (w' := W2.drew) (a := ⟨g, i * 3 + j, none⟩) hg2).trans (hcell j v hj)) (by rw [hdl, hR1s]; omega) hd1
        have hR2l : R2.toList = over R1.toList ((i + 1) * 3) (nmv (l.drop i)) := by rw [← hR2]
        have HOWN : Hid ((W2.drew.setRow N R2).ownsRow base 51 3 (.slice (some ⟨N, 0, none⟩) (c + 1) G) (c + 1) (nmv (l.take i ++ x :: l.drop i))) := hide ⟨by
            rw [nmv_length, List.length_append, List.length_take, List.length_cons, List.length_drop, hl]; omega, .inr ⟨N, G, R2, rfl, by omega, Go.setRow_heap W2.drew N R1 R2 _ _ hN2, hGn, hGm, by
            rw [← Array.length_toList, hR2l, over_length (by rw [hdl, Array.length_toList, hR1s]; omega), Array.length_toList, hR1s], by
            rw [hR2l, hR1l]
            exact grow_row hl hlt⟩⟩
        have HGB : Hid (w.grownBy (W2.drew.setRow N R2) (some g)) := hide ⟨hgb2.os, hgb2.tape, hgb2.output, by simpa [World.setRow] using hgb2.size, fun k hk hkg => (Go.setRow_other W2.drew N k R2 (by omega)).trans (hgb2.block k hk hkg)⟩
        have hroom' : (c : Int) < (c : Int) + 1 := by omega
        have hw1 : IntKind.i64.wrap ((i : Int) + 1) = (i : Int) + 1 := by rw [IntKind.wrap_i64]; omega
        have hw4 : IntKind.i64.wrap ((c : Int) + 1) = (c : Int) + 1 := by rw [IntKind.wrap_i64]; omega
        have hw6 : IntKind.i64.wrap ((c : Int) + 1 - (i : Int)) = (c : Int) + 1 - (i : Int) := by rw [IntKind.wrap_i64]; omega
        have hw3 : ((i : Int) + 1).toNat = i + 1 := by omega
        have hb1 : (0 : Int) ≤ (i : Int) + 1 := by omega
        have hb5 : (i : Int) + 1 ≤ (c : Int) + 1 := by omega
        have hb3 : (i : Int) ≤ (c : Int) + 1 := by omega
        have hb6 : ¬ (G = i) := by omega
        have hb7 : ¬ (G = i + 1) := by omega
        have hb8 : ¬ (c = i) := by omega
        have hGI : (G : Int) ≤ 9223372036854775807 := by unfold maxLen at hGm; omega
        clear hR1 hR2 hR1l hR1s hN1 hN2 hg1 hg2 hgb1 hgb2 hv1 hR2l hW1 hW2 hcell hvcell hdl hct hcs hd1 hx1 hG hZ hZl hold hi0 hz0 hzs hzb
        go_enter Tryd.func52, Tryd.ntmps52
        go_wp2_with (first | (at_builtin; refine Lib.wpList_append_run _ rfl _ _ _ _ rfl _ _ rfl rfl _ _ (hrz _) ?_) | (at_builtin; refine wpList_copy_runI _ rfl _ _ 39 39 rfl _ _ rfl rfl (hcp1 _ _) ?_) | fail)
        go_region_law (refine step_copy_runI rfl _ _ 39 39 rfl _ _ (by simp [Act.eval, Act.put]) (by simp [Act.eval, Act.put]) (hcp2 _ _ _) ?_)
        go_wp2_with fail
        go_ret
        exact ⟨_, G, rfl, HOWN.out, HGB.out⟩
end Go.Proofs.YtejhnfeligifgaaDoor
