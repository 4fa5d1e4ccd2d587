/- ProcessMany: so many children, reaped in any order: the walk. (Written by tools/mkpvmany2.py.) -/
import Derived.Test.YtdglcpepgodcpaaDoorPvSane
import Derived.Test.YtdglcpepgodcpaaDoorProcessManyM
import Derived.Test.YtdglcpepgodcpaaDoorRegionD
namespace Go.Proofs.YtdglcpepgodcpaaDoor
open Go.RowKit

def idsTo (k : Nat) : List Int := (List.range k).map fun (i : Nat) => 10 + (i : Int)
theorem idsTo_succ (k : Nat) : idsTo (k + 1) = idsTo k ++ [(10 + (k : Int))] := by unfold idsTo; rw [List.range_succ, List.map_append]; rfl
theorem idsTo_length (k : Nat) : (idsTo k).length = k := by simp [idsTo]
theorem idsTo_okF : ∀ k : Fin 33, KidsOk (idsTo k) ∧ (10 + (k.val : Int)) ∉ idsTo k := by unfold KidsOk; decide +kernel
theorem idsTo_ok {k : Nat} (h : k ≤ 32) : KidsOk (idsTo k) := (idsTo_okF ⟨k, by omega⟩).1
theorem idsTo_new {k : Nat} (h : k ≤ 32) : (10 + (k : Int)) ∉ idsTo k := (idsTo_okF ⟨k, by omega⟩).2
/-- What is left of the children. -/
def Zeds (Zs : List Ob) (I : List Int) : Prop := Zs.length = I.length ∧ ∀ i (h1 : i < Zs.length) (h2 : i < I.length), ZedIs Zs[i] I[i] ((I[i] - 10) * (I[i] - 10))
theorem Zeds.nil : Zeds [] [] := ⟨rfl, fun i h => absurd h (Nat.not_lt_zero i)⟩
theorem Zeds.snoc {Zs : List Ob} {I : List Int} {z : Ob} {id : Int} (h : Zeds Zs I) (hz : ZedIs z id ((id - 10) * (id - 10))) : Zeds (Zs ++ [z]) (I ++ [id]) := by
  refine ⟨by simp [h.1], fun i h1 h2 => ?_⟩
  rw [List.length_append, List.length_singleton] at h1 h2
  by_cases hi : i < Zs.length
  · rw [List.getElem_append_left hi, List.getElem_append_left (h.1 ▸ hi)]
    exact h.2 i hi _
  · have e : i = Zs.length := by omega
    subst e
    simp only [List.getElem_append_right (Nat.le_refl _), Nat.sub_self]
    rw [List.getElem_append_right (by rw [h.1]; exact Nat.le_refl _)]
    simp only [h.1, Nat.sub_self, List.getElem_cons_zero]
    exact hz
theorem Zeds.erase {Zs : List Ob} {I : List Int} (h : Zeds Zs I) (k : Nat) : Zeds (Zs.eraseIdx k) (I.eraseIdx k) := by
  refine ⟨by rw [List.length_eraseIdx, List.length_eraseIdx, h.1], fun i h1 h2 => ?_⟩
  rw [List.getElem_eraseIdx, List.getElem_eraseIdx]
  split
  · exact h.2 i _ _
  · exact h.2 (i + 1) _ _
/-- The parent at block g, what is left of its children in a slice of the call's own. -/
structure ManyAt (W w : World) (g : Nat) (o : Ob) (L : List Int) (A : Option Addr) (n c : Nat) (Zs : List Ob) (I : List Int) : Prop where
  at_ : Obl w g 42 (oc o)
  par : ParAt w (g + 1) o L
  row : w.ownsRow (g + 1) 42 36 (.slice A n c) n (ocs Zs)
  zeds : Zeds Zs I
  below : Below W.heap.size W w
  laid : LaidO w
  low : W.heap.size ≤ g
theorem ManyAt.later {W w w' : World} {g n c : Nat} {o : Ob} {L I : List Int} {A : Option Addr} {Zs : List Ob} (h : ManyAt W w g o L A n c Zs I) (hb : Below w.heap.size w w') : ManyAt W w' g o L A n c Zs I :=
  ⟨h.at_.below hb h.at_.lt, h.par.later hb, own_later h.row hb, h.zeds, h.below.trans (hb.mono h.below.size), h.laid.below hb, h.low⟩
theorem row_len {w : World} {base n c : Nat} {A : Option Addr} {Zs : List Ob} (h : w.ownsRow base 42 36 (.slice A n c) n (ocs Zs)) : Zs.length = n := by have := h.1; rw [ocs_length] at this; omega
/-- A block that is the row's, or the parent's. -/
theorem row_block {w : World} {base n c g : Nat} {A : Option Addr} {xs : List Value} (h : w.ownsRow base 42 36 (.slice A n c) n xs) (hg : g < w.heap.size) : ∃ bx, bx < w.heap.size ∧ ∀ b, blk A = some b → b = bx := by
  rcases h.2 with ⟨hv, _⟩ | ⟨b, cap, cur, hv, _, hh, _⟩
  · cases hv; exact ⟨g, hg, fun b hb => by cases hb⟩
  · cases hv; exact ⟨b, lt_of_block hh, fun b' hb => by cases hb; rfl⟩
theorem ParAt.grown_new {w w' : World} {lo base : Nat} {o : Ob} {L : List Int} {n c : Nat} {A : Option Addr} {xs : List Value} (h : ParAt w lo o L) (hr : w.ownsRow base 42 36 (.slice A n c) n xs) (hg : w.grownBy w' (blk A)) : ParAt w' lo o L :=
  { h with own := h.own.imp id fun h => h.kept hg (own_apart (own_weaken h (Nat.zero_le _)) (own_weaken hr (Nat.zero_le _)) (by decide)) }
theorem exec_slice_from2 {o : Oper} {act : Act} {w : World} {x lo : Operand} (ho : o.op = .slice 46 x (some lo) none none) {A : Option Addr} {n c i : Nat} {m : Int} (hx : act.eval x = .slice A n c) (hl : act.eval lo = .int .i64 m) (hm : m = (i : Int)) (hi : i ≤ n) :
    (execOp act.eval o).run Tryd.prog w = .ok (.value (.slice (if c = i then A else A.map (fun x => x.add (i * 36))) (n - i) (c - i))) w := by
  subst hm
  exact exec_slice_from ho hx hl hi
theorem row_low {w : World} {base n c : Nat} {A : Option Addr} {xs : List Value} {size : Nat} {e : TypeId} (h : w.ownsRow base e size (.slice A n c) n xs) {b : Nat} (hb : blk A = some b) : base ≤ b := (h.lt b (by rw [ownBlock_slice]; exact hb)).1
theorem ManyAt.core {W w : World} {g m c : Nat} {o b : Ob} {L I : List Int} {A : Option Addr} {Zs : List Ob} (O : Obl w g 42 (oc o)) (hp : ParAt w (g + 1) b L) (hown : w.ownsRow (g + 1) 42 36 (.slice A m c) m (ocs Zs)) (hz : Zeds Zs I) (hb : Below W.heap.size W w) (hL : LaidO W) (hlow : W.heap.size ≤ g) :
    ManyAt W (w.setRow g (oc b)) g b L A m c Zs I := by
  have hb2 := below_row hb hlow (oc b)
  refine ⟨O.row_same _, hp.row O, own_keep_ne hown (g := g) ?_ fun k hk => setRow_other w g _ hk, hz, hb2, hL.below hb2, hlow⟩
  rw [ownBlock_slice]
  exact fun h => absurd (row_low hown h) (Nat.not_succ_le_self g)
theorem ManyAt.grown {W w w' : World} {g n c : Nat} {o : Ob} {L I : List Int} {A : Option Addr} {Zs : List Ob} (h : ManyAt W w g o L A n c Zs I) (hg : w.grownBy w' (blk A)) : Obl w' g 42 (oc o) ∧ Below W.heap.size W w' :=
  ⟨h.at_.grown hg fun e => absurd (row_low h.row e.symm) (Nat.not_succ_le_self g), below_own h.below (own_weaken h.row (Nat.le_succ_of_le h.low)) hg h.below.size⟩
theorem wrap_sq : ∀ k : Fin 33, wrap64 ((k.val : Int) * (k.val : Int)) = (10 + (k.val : Int) - 10) * (10 + (k.val : Int) - 10) := by decide +kernel
theorem bel_grown {w w' : World} {B bx : Nat} {A : Option Addr} (hg : w.grownBy w' (blk A)) (hB : B ≤ w.heap.size) (hb : ∀ b, blk A = some b → b = bx) : Bel B bx w w' := ⟨hg.os, hg.tape, hg.output, hg.size, fun k hk hne => hg.block k (by omega) fun e => hne (hb k e.symm)⟩
/-- The two lists hold the same. -/
def LeftOk (L I : List Int) : Prop := I.Nodup ∧ (∀ x, x ∈ L ↔ x ∈ I) ∧ ∀ x ∈ I, 10 ≤ x ∧ x < 42
theorem leftOk_all : LeftOk (idsTo 32) (idsTo 32) := ⟨(idsTo_ok (Nat.le_refl 32)).2.2, fun _ => Iff.rfl, by decide +kernel⟩
theorem LeftOk.erase {L I : List Int} (h : LeftOk L I) {k : Nat} (hk : k < I.length) : LeftOk (L.filter fun c => c != I[k]) (I.eraseIdx k) := by
  rw [erase_filter h.1 hk rfl]
  refine ⟨h.1.filter _, fun x => ?_, fun x hx => h.2.2 x (List.mem_filter.1 hx).1⟩
  rw [List.mem_filter, List.mem_filter, h.2.1]
theorem LeftOk.none {L : List Int} (h : LeftOk L []) : L = [] := List.eq_nil_iff_forall_not_mem.2 fun x hx => by simpa using (h.2.1 x).1 hx
def lenOf : Value → Nat
  | .slice _ n _ => n
  | _ => 0
set_option maxRecDepth 100000 in
set_option maxHeartbeats 64000000 in
theorem processMany_any (S : Option Addr) (q r : Nat) (l : List UInt8) (W : World) (h : Bytes W W.heap.size S q l) (hq : q ≤ r ∧ r ≤ 9223372036854775807) (hL : LaidO W) :
    Calls Tryd.prog 3 #[.slice S q r] W (BoolPost true W) := by
  have HBY := hide h
  have hq' : (q : Int) ≤ 9223372036854775807 := by omega
  have HLW := hide hL
  clear h hL
  go_enter Tryd.func3, Tryd.ntmps3
  go_wp2_with fail
  refine (pvSane_any _ HLW.out).mono ?_
  rintro e w0 ⟨rfl, hb⟩
  have HB := hide hb
  have HL := hide (HLW.out.below hb)
  clear hb
  go_wp2_with (first | (refine wpList_val (by rfl) (exec_build (t := 29) (vs := []) rfl (by rfl) built_prc0) ?_) | fail)
  refine (many_new _ HL.out).mono ?_
  rintro e w1 ⟨a, rfl, hA, hb⟩
  replace HL := hide (HL.out.below hb)
  replace HB := hide (HB.out.trans (hb.mono HB.out.size))
  have HA := hide hA
  have hW1 := HB.out.size
  clear hb hA
  obtain ⟨x1, hx1, g1, hg1, y1, hy1, OZ1, OA, hb, hs1⟩ := laid_ob a w1
  replace HL := hide (HL.out.below hb)
  replace HB := hide (HB.out.trans (hb.mono HB.out.size))
  replace HA := hide (HA.out.later hb)
  clear hb
  have hWg : W.heap.size ≤ g1 := by omega
  have hg1y : g1 < y1.heap.size := OA.lt
  have HM : Hid (ManyAt W y1 g1 a (idsTo 0) none 0 0 [] (idsTo 0)) := hide ⟨OA, { HA.out with own := .inl rfl }, own_none, Zeds.nil, HB.out, HL.out, hWg⟩
  clear OA HA HB HL hs1 hW1
  go_wp2_with (first | (refine store_ob rfl _ _ rfl rfl (c := a) rfl OZ1 rfl ?_; rw [hy1]) | fail)
  clear OZ1 hx1 hy1 hg1 hWg hg1y
  go_loopw [5, 6] (fun s5 s6 wr => ∃ (k c : Nat) (X : Option Addr) (o : Ob) (Zs : List Ob), s5 = .slice X k c ∧ s6 = .int .i64 (k : Int) ∧ k ≤ 32 ∧ Hid (ManyAt W wr g1 o (idsTo k) X k c Zs (idsTo k))) (fun _ s6 _ => 32 - (intOf s6).toNat)
  case atStart => exact ⟨0, 0, none, a, [], rfl, rfl, by omega, HM⟩
  case round =>
    clear HM
    obtain ⟨k, c, X, o, Zs, rfl, rfl, hk, HM⟩ := hrel
    by_cases hlt : k < 32
    case pos =>
      have hlt' : (k : Int) < 32 := by omega
      have O := HM.out.at_
      have HL := hide HM.out.laid
      have HP := hide HM.out.par
      have hkl := idsTo_length k
      obtain ⟨bx, hbx, hbx2⟩ := row_block HM.out.row O.lt
      have HBX := hide hbx2
      clear hbx2
      have HN := hide (idsTo_new hk)
      go_wp2_with (first | (refine wpList_val (by rfl) (exec_load_ob rfl rfl O) ?_) | fail)
      refine (many_fork (id := 10 + (k : Int)) _ HP.out (idsTo_ok hk) (by omega) (by omega) (by omega) HN.out HL.out).mono ?_
      rintro e w2 ⟨b, d, rfl, hB, hC, hb⟩
      replace HM := hide (HM.out.later hb)
      have HC := hide hC
      have HPB := hide (hB.weaken (Nat.succ_le_of_lt O.lt))
      have hbw := hb.size
      clear hb hB hC O HL HP
      obtain ⟨x3, hx3, g3, hg3, y3, hy3, z3, hz3, OZ3, OZ4, OP, OC, hb, hs3⟩ := laid_obob b d w2
      replace HM := hide (HM.out.later hb)
      replace HC := hide (HC.out.later hb)
      replace HPB := hide (HPB.out.later hb)
      clear hb
      go_wp2_with (first | (refine store_ob rfl _ _ rfl rfl (c := b) rfl OZ3 rfl ?_; rw [hy3]) | (refine store_ob rfl _ _ rfl rfl (c := d) rfl OZ4 rfl ?_; rw [hz3]) | (refine wpList_val (by rfl) (exec_load_ob rfl rfl OC) ?_) | fail)
      have hbx3 : bx < g3 := by omega
      clear OZ3 OZ4 hx3 hy3 hz3 hs3 hg3 hbw hbx
      refine (many_end _ (wrap64 ((k : Int) * (k : Int))) HC.out (by omega) (by omega) HM.out.laid).mono ?_
      rintro e w4 ⟨d2, rfl, hD, hb⟩
      replace HM := hide (HM.out.later hb)
      replace HC := hide (HC.out.later hb)
      replace HPB := hide (HPB.out.later hb)
      replace OP := OP.below hb OP.lt
      replace OC := OC.below hb OC.lt
      have HD := hide hD
      have hPw := OP.lt
      clear hb hD HC
      obtain ⟨x5, hx5, g5, hg5, y5, hy5, OZ5, OD, hb, hs5⟩ := laid_ob d2 w4
      replace HM := hide (HM.out.later hb)
      replace HPB := hide (HPB.out.later hb)
      replace OP := OP.below hb OP.lt
      replace OC := OC.below hb OC.lt
      clear hb
      have hbx5 : bx < g5 := by omega
      go_upto_region 14 with (first | (refine store_ob rfl _ _ rfl rfl (c := d2) rfl OZ5 rfl ?_; rw [hy5]) | fail)
      clear OZ5 hx5 hy5 hg5
      clear hs5 hPw
      obtain ⟨s, hs⟩ : ∃ s, y5.drew.heap.size = s := ⟨_, rfl⟩
      refine region_D (by kernel_rfl) s bx [5, 6] ?_
      have hd1 : Below y5.heap.size y5 y5.drew := below_drewN (Below.refl _ _) 1
      replace HM := hide (HM.out.later hd1)
      replace HPB := hide (HPB.out.later hd1)
      replace OP := OP.below hd1 OP.lt
      replace OD := OD.below hd1 OD.lt
      clear hd1
      have hg3z := OP.lt
      have hg5z := OD.lt
      rw [hs] at hg3z hg5z
      have HS := hide hs
      clear hs OC
      generalize y5.drew = u at *
      refine takeD 0 [0, 5, 6] rfl (by kernel_rfl) (fun _ _ _ h => h) (by rfl) (by intro w' hg; exact exec_load_ob rfl rfl (show Obl w' g3 42 (oc b) from (hg.block g3 hg3z (by omega)).trans OP)) ?_
      refine takeDX 1 rfl (by kernel_rfl) (fun _ _ _ h => h) (by rfl) (by intro w'; go_simp; try with_reducible rfl) ?_
      refine takeD 2 [2, 3, 4, 5, 6] rfl (by kernel_rfl) (fun _ _ _ h => h) (by rfl) (by intro w' hg; exact exec_load_ob rfl rfl (show Obl w' g5 42 (oc d2) from (hg.block g5 hg5z (by omega)).trans OD)) ?_
      go_simp
      obtain ⟨u1, hu1, gn, hgn, hrow, hb, _⟩ := start_one u d2
      refine onlyD 3 rfl (by kernel_rfl) (by rfl) ?_
      intro K hK
      refine wp_yield (exec_slice1o rfl rfl) ?_
      refine hK _ _ (fun _ => Bel.of ((Below.refl s u).alloc (Nat.le_of_eq HS.out.symm) _)) ?_
      clear hK K
      rw [hu1, hgn]
      go_simp
      replace HM := hide (HM.out.later hb)
      replace HPB := hide (HPB.out.later hb)
      have HROW := hide hrow
      have hsu : s ≤ u1.heap.size := HS.out ▸ hb.size
      have hu1g : g1 + 1 ≤ u1.heap.size := Nat.succ_le_of_lt HM.out.at_.lt
      clear hb hrow hu1 OP OD HS hgn
      refine onlyD 4 rfl (by kernel_rfl) (by rfl) ?_
      intro K hK
      refine wp_append_rd (.tmp 60) (.tmp 62) _ rfl objTy (A := X) (n := k) (c := c) (xs := ocs Zs) (base := g1 + 1) (B := gn + 1) (S := some ⟨gn, 0, none⟩) (m := 1) (d := 1) (news := ocl d2) rfl HM.out.row rfl HROW.out (ocl_one d2) (by unfold maxLen; omega) (by omega) hu1g ?_
      intro A3 c3 w3 hown3 hg3 _
      refine hK _ _ (fun _ => bel_grown hg3 hsu HBX.out) ?_
      clear hK K
      rw [ocs_snoc] at hown3
      obtain ⟨O1, hB1⟩ := HM.out.grown hg3
      have HPB2 := hide (HPB.out.grown HM.out.row hg3)
      have HZS := hide ((HM.out.zeds.snoc (z := d2) (id := 10 + (k : Int)) (by have h := HD.out; rwa [wrap_sq ⟨k, by omega⟩] at h)))
      rw [← idsTo_succ] at HPB2 HZS
      have HM2 := hide (ManyAt.core O1 HPB2.out hown3 HZS.out hB1 HLW.out HM.out.low)
      clear hown3 hg3 hB1 HM HPB HPB2 HZS HROW HD
      refine onlyD 5 rfl (by kernel_rfl) (by rfl) ?_
      intro K hK
      refine pv_store rfl rfl (c := b) rfl O1 rfl ?_
      refine hK _ _ (fun h => absurd h (by decide)) ?_
      clear hK K O1
      generalize w3.setRow g1 (oc b) = w6 at *
      refine takeDX 6 rfl (by kernel_rfl) (fun _ _ _ h => h) (by rfl) (by intro w'; go_simp; try with_reducible rfl) ?_
      refine doneD (by kernel_rfl) ?_
      go_simp
      go_wp2_with fail
      go_roundw
      case rel => exact ⟨k + 1, c3, A3, b, Zs ++ [d2], rfl, by go_num, by omega, HM2⟩
      case measure => simp [intOf]; omega
    case neg =>
      obtain rfl : k = 32 := by omega
      have O := HM.out.at_
      have HL := hide HM.out.laid
      have HP := hide HM.out.par
      have hg1w := O.lt
      go_wp2_with (first | (refine wpList_val (by rfl) (exec_load_ob rfl rfl O) ?_) | fail)
      refine (many_full (id := 99) _ HP.out (idsTo_ok (Nat.le_refl 32)) (idsTo_length 32) HL.out).mono ?_
      rintro e w2 ⟨b, d, rfl, hb⟩
      replace HM := hide (HM.out.later hb)
      clear hb O HL HP hg1w
      obtain ⟨x3, hx3, g3, hg3, y3, hy3, z3, hz3, OZ3, OZ4, OP, OC, hb, hs3⟩ := laid_obob b d w2
      replace HM := hide (HM.out.later hb)
      have hg1z := HM.out.at_.lt
      clear hb hs3 OP OC
      go_wp2_with (first | (refine store_ob rfl _ _ rfl rfl (c := b) rfl OZ3 rfl ?_; rw [hy3]) | (refine store_ob rfl _ _ rfl rfl (c := d) rfl OZ4 rfl ?_; rw [hz3]) | fail)
      clear OZ3 OZ4 hx3 hy3 hz3 hg3 hg1z
      go_loopw [5, 16] (fun s5 s16 wr => ∃ (i n c : Nat) (X : Option Addr) (o : Ob) (L I : List Int) (Zs : List Ob), s5 = .slice X n c ∧ s16 = .int .i64 (i : Int) ∧ i + n ≤ 32 ∧ Hid (ManyAt W wr g1 o L X n c Zs I) ∧ Hid (KidsOk L) ∧ Hid (LeftOk L I)) (fun s5 _ _ => lenOf s5)
      case atStart => exact ⟨0, 32, c, X, o, _, _, Zs, rfl, rfl, by omega, HM, hide (idsTo_ok (Nat.le_refl 32)), hide leftOk_all⟩
      case round =>
        clear HM
        obtain ⟨i, n, c, X, o, L, I, Zs, rfl, rfl, hin, HM, HKO, HLO⟩ := hrel
        have hzl := row_len HM.out.row
        have hil : I.length = n := by rw [← HM.out.zeds.1]; exact hzl
        by_cases hn : n = 0
        case pos =>
          subst hn
          obtain rfl : I = [] := List.eq_nil_of_length_eq_zero hil
          obtain rfl := HLO.out.none
          have k5 : wr.cell? ⟨g1, 5, none⟩ = some (.slice o.children.A 0 o.children.c) := by have h1 := HM.out.at_.cell 5; have h2 : o.children.n = 0 := HM.out.par.len; rw [h1, ← h2]; rfl
          clear hil hzl
          go_wp2_with fail
          go_ret
          exact ⟨rfl, HM.out.below⟩
        have hn0 : 0 < n := by omega
        have hn0' : (0 : Int) < (n : Int) := by omega
        have hnz : ¬ (n : Int) = 0 := by omega
        clear hn
        obtain ⟨bb, hbb⟩ : ∃ b, decide (i < q) = b := ⟨_, rfl⟩
        go_upto_if 80 with fail
        have HBB := hide hbb
        clear hbb
        go_cut [17] from 81 to 88 (fun s17 wx => ∃ kk : Nat, s17 = .int .i64 (kk : Int) ∧ kk < n ∧ wx = wr)
        case first =>
          cases bb with
          | true =>
            have hiq : i < q := of_decide_eq_true HBB.out
            have hiq' : (i : Int) < (q : Int) := by omega
            obtain ⟨b0, o0, hl0, rfl, _, c0⟩ := (HBY.out.below HM.out.below).at_ hiq
            obtain ⟨x, hx⟩ : ∃ x : Nat, l[i].toNat = x := ⟨_, rfl⟩
            rw [hx] at c0
            obtain ⟨kk, hkk, hkn⟩ : ∃ kk : Nat, (x : Int) % (n : Int) = (kk : Int) ∧ kk < n := ⟨x % n, by omega, Nat.mod_lt _ hn0⟩
            have hx256 : x < 256 := by rw [← hx]; exact l[i].toNat_lt
            clear hx
            go_wp2_with fail
            go_meet
            case rel => exact ⟨kk, by rw [hkk], hkn, rfl⟩
          | false =>
            go_wp2_with fail
            go_meet
            case rel => exact ⟨0, rfl, hn0, rfl⟩
        case rest =>
          obtain ⟨kk, rfl, hkn, rfl⟩ := hcut
          refine ‹∀ (a : Act) (w : World), Code.wp Tryd.prog _ _ a w → _› _ _ ?_
          clear HBB
          obtain ⟨b0, o0, hkl, rfl, hb0, hcell⟩ := (Obs.of_own HM.out.row).at_ hkn
          have hki : kk < I.length := by omega
          have hz := HM.out.zeds.2 kk hkl hki
          have hxI : I[kk] ∈ I := List.getElem_mem hki
          have HLE := hide (HLO.out.erase hki)
          obtain ⟨zo, hzo⟩ : ∃ z, Zs[kk] = z := ⟨_, rfl⟩
          obtain ⟨x, hx⟩ : ∃ x, I[kk] = x := ⟨_, rfl⟩
          rw [hzo] at hcell hz
          rw [hx] at hz hxI HLE
          have HXI := hide hxI
          have HXL := hide ((HLO.out.2.1 x).2 hxI)
          have hx10 := (HLO.out.2.2 x hxI).1
          have hx42 := (HLO.out.2.2 x hxI).2
          obtain ⟨y, hy⟩ : ∃ y : Fin 33, x = 10 + (y.val : Int) := ⟨⟨(x - 10).toNat, by omega⟩, by simp only; omega⟩
          have HSQ := hide (show wrap64 ((x - 10) * (x - 10)) = (x - 10) * (x - 10) by have h := wrap_sq y; rw [hy]; rw [show 10 + (y.val : Int) - 10 = (y.val : Int) by omega] at h ⊢; exact h)
          have hkk' : (kk : Int) < (n : Int) := by omega
          have HZ := hide hz
          have HKF := hide (HKO.out.filter fun c => c != x)
          have hcap := own_cap HM.out.row
          clear hz hxI hy hx hzo
          go_step
          obtain ⟨s, hs⟩ : ∃ s, wc.drew.heap.size = s := ⟨_, rfl⟩
          refine region_B (by kernel_rfl) s ?_
          have hd1 : Below wc.heap.size wc wc.drew := below_drewN (Below.refl _ _) 1
          replace HM := hide (HM.out.later hd1)
          replace hb0 : b0 < wc.drew.heap.size := hb0
          have HC : Hid (∀ w', Below s wc.drew w' → ∀ j v, (ocl zo)[j]? = some v → w'.cell? ⟨b0, o0 + kk * 36 + j, none⟩ = some v) := hide fun w' hg j v hv => (hg.cell (p := ⟨b0, o0 + kk * 36 + j, none⟩) (by rw [← hs]; exact hb0)).trans (hcell j v hv)
          have OM := HM.out.at_
          have hgs := OM.lt
          rw [hs] at hgs hb0
          have HS := hide hs
          have HX : Hid (Below s wc.drew wc.drew) := hide (Below.refl _ _)
          clear hd1 hcell hs
          generalize wc.drew = u at *
          refine takeB 0 rfl (by kernel_rfl) (fun _ _ _ h => h) (by rfl) (by intro w' hg; exact exec_load_ob rfl rfl (OM.below hg hgs)) ?_
          refine takeB 1 rfl (by kernel_rfl) (fun _ _ _ h => h) (by rfl) (by intro w' hg; go_simp; try with_reducible rfl) ?_
          refine takeB 2 rfl (by kernel_rfl) (fun _ _ _ h => h) (by rfl) (by intro w' hg; go_simp; try with_reducible rfl) ?_
          refine takeB 3 rfl (by kernel_rfl) (fun _ _ _ h => h) (by rfl) (by intro w' hg; go_simp; try with_reducible rfl) ?_
          refine takeB 4 rfl (by kernel_rfl) (fun _ _ _ h => h) (by rfl) (by intro w' hg; exact exec_load_obn rfl rfl (HC.out _ hg)) ?_
          go_simp
          refine twoB 5 10 rfl rfl (by kernel_rfl) (by rfl) (by rfl) ?_ ?_
          · intro K hK
            go_simp
            refine (many_reap u (HM.out.later (HS.out.symm ▸ HX.out)).par HZ.out HKO.out HXL.out (HLW.out.below (HM.out.below.trans (HX.out.mono (by have h1 := HM.out.below.size; have h2 := HS.out; omega))))).mono ?_
            rintro e v1 ⟨qo, rfl, hQ, hb⟩
            refine hK _ _ (hb.mono (HS.out ▸ HX.out.size)) ?_
            clear hK K
            have HQ := hide (hQ.weaken (show g1 + 1 ≤ u.heap.size from Nat.le_trans hgs (HS.out ▸ HX.out.size)))
            replace HX := hide (HX.out.trans (hb.mono (HS.out ▸ HX.out.size)))
            clear hb hQ
            go_simp
            refine takeB 6 rfl (by kernel_rfl) (fun _ _ _ h => h) (by rfl) (by intro w' hg; go_simp; try with_reducible rfl) ?_
            refine takeB 7 rfl (by kernel_rfl) (fun _ _ _ h => h) (by rfl) (by intro w' hg; go_simp; try with_reducible rfl) ?_
            refine takeB 8 rfl (by kernel_rfl) (fun _ _ _ h => h) (by rfl) (by intro w' hg; go_simp; try with_reducible rfl) ?_
            refine takeB 9 rfl (by kernel_rfl) (fun _ _ _ h => h) (by rfl) (by intro w' hg; go_simp; try with_reducible rfl) ?_
            refine onlyB 10 rfl (by kernel_rfl) (by rfl) ?_
            intro K hK
            go_simp
            generalize hnw : World.alloc v1 _ = v2
            have OZ : Obl v2 v1.heap.size 42 (oc Ob.zero) := hnw ▸ (Obl.make v1 42 (oc Ob.zero))
            have hb : Below v1.heap.size v1 v2 := hnw ▸ ((Below.refl _ _).alloc (Nat.le_refl _) _)
            have hgz : s ≤ v1.heap.size := HS.out ▸ HX.out.size
            refine hK _ _ (hb.mono (HS.out ▸ HX.out.size)) ?_
            clear hK K
            replace HQ := hide (HQ.out.later hb)
            replace HX := hide (HX.out.trans (hb.mono (HS.out ▸ HX.out.size)))
            clear hb hnw
            obtain ⟨z, hzz⟩ : ∃ z, v1.heap.size = z := ⟨_, rfl⟩
            rw [hzz] at OZ hgz ⊢
            clear hzz
            go_simp
            refine onlyB 11 rfl (by kernel_rfl) (by rfl) ?_
            intro K hK
            refine pv_store rfl rfl (c := qo) rfl OZ rfl ?_
            have hb := below_row (Below.refl s v2) hgz (oc qo)
            replace HQ := hide (HQ.out.row (cs' := oc qo) OZ)
            replace OZ := OZ.row_same (oc qo)
            refine hK _ _ hb ?_
            clear hK K
            replace HX := hide (HX.out.trans hb)
            clear hb
            generalize v2.setRow z (oc qo) = v3 at *
            refine takeB 12 rfl (by kernel_rfl) (fun _ _ _ h => h) (by rfl) (by intro w' hg; go_simp; try with_reducible rfl) ?_
            refine takeB 13 rfl (by kernel_rfl) (fun _ _ _ h => h) (by rfl) (by intro w' hg; go_simp; try with_reducible rfl) ?_
            refine doneB (by kernel_rfl) ?_
            go_simp
            replace HM := hide (HM.out.later (HS.out.symm ▸ HX.out))
            have kid : v3.cell? ⟨b0, o0 + kk * 36, none⟩ = some (.int .u64 x) := by have h := HC.out v3 HX.out 0 (.int .u64 zo.id) rfl; rwa [HZ.out.id] at h
            have HSV : Hid (s ≤ v3.heap.size) := hide (HS.out ▸ HX.out.size)
            have hsq := HSQ.out
            clear HX HS HC OM
            go_wp2_with (first | (refine wpList_val (by rfl) (exec_load_ob rfl rfl OZ) ?_) | fail)
            refine (many_valid _ HQ.out HKF.out (HLW.out.below HM.out.below)).mono ?_
            rintro e w8 ⟨rfl, hb⟩
            replace HM := hide (HM.out.later hb)
            replace HQ := hide (HQ.out.later hb)
            replace OZ := OZ.below hb OZ.lt
            clear hb kid hsq
            go_upto_region 28 with (fail)
            obtain ⟨s2, hs2⟩ : ∃ s, w8.drew.heap.size = s := ⟨_, rfl⟩
            refine region_C (by kernel_rfl) s2 [10, 11] ?_
            have hd1 : Below w8.heap.size w8 w8.drew := below_drewN (Below.refl _ _) 1
            replace HM := hide (HM.out.later hd1)
            replace HQ := hide (HQ.out.later hd1)
            replace OZ := OZ.below hd1 OZ.lt
            clear hd1
            have hzs := OZ.lt
            have hg1s := HM.out.at_.lt
            rw [hs2] at hzs hg1s
            have HS2 := hide hs2
            clear hs2
            generalize w8.drew = v at *
            have HOB := hide (Obs.of_own HM.out.row)
            refine takeC 0 [0, 10, 11] rfl (by kernel_rfl) (fun _ _ _ h => h) (by rfl) (by intro w' hg; exact exec_load_ob rfl rfl (OZ.below hg hzs)) ?_
            refine takeX 1 rfl (by kernel_rfl) (fun _ _ _ h => h) (by rfl) (by intro w'; go_simp; try with_reducible rfl) ?_
            refine takeX 2 rfl (by kernel_rfl) (fun _ _ _ h => h) (by rfl) (by intro w'; go_simp; try with_reducible rfl) ?_
            refine takeX 3 rfl (by kernel_rfl) (fun _ _ _ h => h) (by rfl) (by intro w'; exact exec_slice_to (i := kk) rfl rfl rfl (by omega)) ?_
            go_simp
            refine takeX 5 rfl (by kernel_rfl) (fun _ _ _ h => h) (by rfl) (by intro w'; go_simp; try with_reducible rfl) ?_
            refine takeX 6 rfl (by kernel_rfl) (fun _ _ _ h => h) (by rfl) (by intro w'; go_simp; try with_reducible rfl) ?_
            refine takeX 7 rfl (by kernel_rfl) (fun _ _ _ h => h) (by rfl) (by intro w'; go_simp; try with_reducible rfl) ?_
            go_simp
            refine takeX 8 rfl (by kernel_rfl) (fun _ _ _ h => h) (by rfl) (by intro w'; exact exec_slice_from2 (i := kk + 1) rfl rfl rfl (by first | omega | (rw [IntKind.wrap_i64]; omega)) (by omega)) ?_
            go_simp
            refine onlyC 4 rfl (by kernel_rfl) (by rfl) ?_
            intro K hK
            refine wp_append_rd (.const (.slice none 0 0)) (.tmp 123) _ rfl objTy (A := none) (n := 0) (c := 0) (xs := []) (base := s2) (B := v.heap.size) (S := some ⟨b0, o0, none⟩) (m := kk) (d := c) (news := ocs (Zs.take kk)) rfl own_none rfl (HOB.out.take_ (Nat.le_of_lt hkn)).2 (ocs_one _) (by unfold maxLen; omega) (by omega) (Nat.le_of_eq HS2.out.symm) ?_
            intro A1 c1 w1' hown1 hgr _
            have hb := below_none hgr
            refine hK _ _ (fun _ => HS2.out ▸ hb) ?_
            clear hK K
            replace HM := hide (HM.out.later hb)
            replace HQ := hide (HQ.out.later hb)
            replace HOB := hide (HOB.out.later hb)
            have hsv : s2 ≤ w1'.heap.size := HS2.out ▸ hb.size
            rw [List.nil_append, Nat.zero_add] at hown1
            clear hgr hb
            go_simp
            refine onlyC 9 rfl (by kernel_rfl) (by rfl) ?_
            intro K hK
            have HDR := hide (HOB.out.from_ (i := kk + 1) (c := c) (by omega) (by omega))
            refine wp_append_rd (.tmp 124) (.tmp 128) _ rfl objTy (A := A1) (n := kk) (c := c1) (xs := ocs (Zs.take kk)) (base := s2) (B := w1'.heap.size) (S := if c = kk + 1 then some ⟨b0, o0, none⟩ else (some ⟨b0, o0, none⟩ : Option Addr).map (fun x => x.add ((kk + 1) * 36))) (m := n - (kk + 1)) (d := c - (kk + 1)) (news := ocs (Zs.drop (kk + 1))) rfl hown1 rfl HDR.out.2 (ocs_one _) (by unfold maxLen; omega) (by omega) hsv ?_
            intro A2 c2 w2' hown2 hgr _
            have hb := below_own (Below.refl s2 w1') hown1 hgr hsv
            refine hK _ _ (fun _ => hb) ?_
            clear hK K
            rw [← ocs_append, ← List.eraseIdx_eq_take_drop_succ] at hown2
            have hgs2 : g1 < s2 := hg1s
            have OM := HM.out.at_.below hb hgs2
            have HB2 := hide (HM.out.below.trans (hb.mono (Nat.le_of_lt (Nat.lt_of_le_of_lt HM.out.low hgs2))))
            have HQ2 := hide (HQ.out.grown_new hown1 hgr)
            have HZS := hide (HM.out.zeds.erase kk)
            have HM2 := hide (ManyAt.core OM HQ2.out (own_weaken hown2 hgs2) HZS.out HB2.out HLW.out HM.out.low)
            clear hown2 hgr hb HM HQ HQ2 HZS HB2 HOB HDR hown1
            go_simp
            refine onlyC 10 rfl (by kernel_rfl) (by rfl) ?_
            intro K hK
            refine pv_store rfl rfl (c := qo) rfl OM rfl ?_
            refine hK _ _ (fun h => absurd h (by decide)) ?_
            clear hK K OM
            generalize w2'.setRow g1 (oc qo) = w9 at *
            refine takeX 11 rfl (by kernel_rfl) (fun _ _ _ h => h) (by rfl) (by intro w'; go_simp; try with_reducible rfl) ?_
            refine doneC (by kernel_rfl) ?_
            go_simp
            go_wp2_with fail
            go_roundw
            case rel => exact ⟨i + 1, kk + (n - (kk + 1)), c2, A2, qo, _, _, _, rfl, by go_num, by omega, HM2, HKF, HLE⟩
            case measure => simp [lenOf]; omega
          · intro K hK
            go_simp
            generalize hnw : World.alloc u _ = v1
            have OZ : Obl v1 u.heap.size 42 (oc Ob.zero) := hnw ▸ (Obl.make u 42 (oc Ob.zero))
            have hb : Below u.heap.size u v1 := hnw ▸ ((Below.refl _ _).alloc (Nat.le_refl _) _)
            have hgz : s ≤ u.heap.size := HS.out ▸ HX.out.size
            refine hK _ _ (hb.mono (HS.out ▸ HX.out.size)) ?_
            clear hK K
            replace HX := hide (HX.out.trans (hb.mono (HS.out ▸ HX.out.size)))
            clear hb hnw
            obtain ⟨z, hzz⟩ : ∃ z, u.heap.size = z := ⟨_, rfl⟩
            rw [hzz] at OZ hgz ⊢
            clear hzz
            go_simp
            refine onlyB 5 rfl (by kernel_rfl) (by rfl) ?_
            intro K hK
            go_simp
            refine (many_reap v1 (HM.out.later (HS.out.symm ▸ HX.out)).par HZ.out HKO.out HXL.out (HLW.out.below (HM.out.below.trans (HX.out.mono (by have h1 := HM.out.below.size; have h2 := HS.out; omega))))).mono ?_
            rintro e v2 ⟨qo, rfl, hQ, hb⟩
            refine hK _ _ (hb.mono (HS.out ▸ HX.out.size)) ?_
            clear hK K
            have HQ := hide (hQ.weaken (show g1 + 1 ≤ v1.heap.size from Nat.le_trans hgs (HS.out ▸ HX.out.size)))
            replace HX := hide (HX.out.trans (hb.mono (HS.out ▸ HX.out.size)))
            replace OZ := OZ.below hb OZ.lt
            clear hb hQ
            go_simp
            refine takeB 6 rfl (by kernel_rfl) (fun _ _ _ h => h) (by rfl) (by intro w' hg; go_simp; try with_reducible rfl) ?_
            refine takeB 7 rfl (by kernel_rfl) (fun _ _ _ h => h) (by rfl) (by intro w' hg; go_simp; try with_reducible rfl) ?_
            refine takeB 8 rfl (by kernel_rfl) (fun _ _ _ h => h) (by rfl) (by intro w' hg; go_simp; try with_reducible rfl) ?_
            refine takeB 9 rfl (by kernel_rfl) (fun _ _ _ h => h) (by rfl) (by intro w' hg; go_simp; try with_reducible rfl) ?_
            go_simp
            refine onlyB 11 rfl (by kernel_rfl) (by rfl) ?_
            intro K hK
            refine pv_store rfl rfl (c := qo) rfl OZ rfl ?_
            have hb := below_row (Below.refl s v2) hgz (oc qo)
            replace HQ := hide (HQ.out.row (cs' := oc qo) OZ)
            replace OZ := OZ.row_same (oc qo)
            refine hK _ _ hb ?_
            clear hK K
            replace HX := hide (HX.out.trans hb)
            clear hb
            generalize v2.setRow z (oc qo) = v3 at *
            refine takeB 12 rfl (by kernel_rfl) (fun _ _ _ h => h) (by rfl) (by intro w' hg; go_simp; try with_reducible rfl) ?_
            refine takeB 13 rfl (by kernel_rfl) (fun _ _ _ h => h) (by rfl) (by intro w' hg; go_simp; try with_reducible rfl) ?_
            refine doneB (by kernel_rfl) ?_
            go_simp
            replace HM := hide (HM.out.later (HS.out.symm ▸ HX.out))
            have kid : v3.cell? ⟨b0, o0 + kk * 36, none⟩ = some (.int .u64 x) := by have h := HC.out v3 HX.out 0 (.int .u64 zo.id) rfl; rwa [HZ.out.id] at h
            have HSV : Hid (s ≤ v3.heap.size) := hide (HS.out ▸ HX.out.size)
            have hsq := HSQ.out
            clear HX HS HC OM
            go_wp2_with (first | (refine wpList_val (by rfl) (exec_load_ob rfl rfl OZ) ?_) | fail)
            refine (many_valid _ HQ.out HKF.out (HLW.out.below HM.out.below)).mono ?_
            rintro e w8 ⟨rfl, hb⟩
            replace HM := hide (HM.out.later hb)
            replace HQ := hide (HQ.out.later hb)
            replace OZ := OZ.below hb OZ.lt
            clear hb kid hsq
            go_upto_region 28 with (fail)
            obtain ⟨s2, hs2⟩ : ∃ s, w8.drew.heap.size = s := ⟨_, rfl⟩
            refine region_C (by kernel_rfl) s2 [10, 11] ?_
            have hd1 : Below w8.heap.size w8 w8.drew := below_drewN (Below.refl _ _) 1
            replace HM := hide (HM.out.later hd1)
            replace HQ := hide (HQ.out.later hd1)
            replace OZ := OZ.below hd1 OZ.lt
            clear hd1
            have hzs := OZ.lt
            have hg1s := HM.out.at_.lt
            rw [hs2] at hzs hg1s
            have HS2 := hide hs2
            clear hs2
            generalize w8.drew = v at *
            have HOB := hide (Obs.of_own HM.out.row)
            refine takeC 0 [0, 10, 11] rfl (by kernel_rfl) (fun _ _ _ h => h) (by rfl) (by intro w' hg; exact exec_load_ob rfl rfl (OZ.below hg hzs)) ?_
            refine takeX 1 rfl (by kernel_rfl) (fun _ _ _ h => h) (by rfl) (by intro w'; go_simp; try with_reducible rfl) ?_
            refine takeX 2 rfl (by kernel_rfl) (fun _ _ _ h => h) (by rfl) (by intro w'; go_simp; try with_reducible rfl) ?_
            refine takeX 3 rfl (by kernel_rfl) (fun _ _ _ h => h) (by rfl) (by intro w'; exact exec_slice_to (i := kk) rfl rfl rfl (by omega)) ?_
            go_simp
            refine takeX 5 rfl (by kernel_rfl) (fun _ _ _ h => h) (by rfl) (by intro w'; go_simp; try with_reducible rfl) ?_
            refine takeX 6 rfl (by kernel_rfl) (fun _ _ _ h => h) (by rfl) (by intro w'; go_simp; try with_reducible rfl) ?_
            refine takeX 7 rfl (by kernel_rfl) (fun _ _ _ h => h) (by rfl) (by intro w'; go_simp; try with_reducible rfl) ?_
            go_simp
            refine takeX 8 rfl (by kernel_rfl) (fun _ _ _ h => h) (by rfl) (by intro w'; exact exec_slice_from2 (i := kk + 1) rfl rfl rfl (by first | omega | (rw [IntKind.wrap_i64]; omega)) (by omega)) ?_
            go_simp
            refine onlyC 4 rfl (by kernel_rfl) (by rfl) ?_
            intro K hK
            refine wp_append_rd (.const (.slice none 0 0)) (.tmp 123) _ rfl objTy (A := none) (n := 0) (c := 0) (xs := []) (base := s2) (B := v.heap.size) (S := some ⟨b0, o0, none⟩) (m := kk) (d := c) (news := ocs (Zs.take kk)) rfl own_none rfl (HOB.out.take_ (Nat.le_of_lt hkn)).2 (ocs_one _) (by unfold maxLen; omega) (by omega) (Nat.le_of_eq HS2.out.symm) ?_
            intro A1 c1 w1' hown1 hgr _
            have hb := below_none hgr
            refine hK _ _ (fun _ => HS2.out ▸ hb) ?_
            clear hK K
            replace HM := hide (HM.out.later hb)
            replace HQ := hide (HQ.out.later hb)
            replace HOB := hide (HOB.out.later hb)
            have hsv : s2 ≤ w1'.heap.size := HS2.out ▸ hb.size
            rw [List.nil_append, Nat.zero_add] at hown1
            clear hgr hb
            go_simp
            refine onlyC 9 rfl (by kernel_rfl) (by rfl) ?_
            intro K hK
            have HDR := hide (HOB.out.from_ (i := kk + 1) (c := c) (by omega) (by omega))
            refine wp_append_rd (.tmp 124) (.tmp 128) _ rfl objTy (A := A1) (n := kk) (c := c1) (xs := ocs (Zs.take kk)) (base := s2) (B := w1'.heap.size) (S := if c = kk + 1 then some ⟨b0, o0, none⟩ else (some ⟨b0, o0, none⟩ : Option Addr).map (fun x => x.add ((kk + 1) * 36))) (m := n - (kk + 1)) (d := c - (kk + 1)) (news := ocs (Zs.drop (kk + 1))) rfl hown1 rfl HDR.out.2 (ocs_one _) (by unfold maxLen; omega) (by omega) hsv ?_
            intro A2 c2 w2' hown2 hgr _
            have hb := below_own (Below.refl s2 w1') hown1 hgr hsv
            refine hK _ _ (fun _ => hb) ?_
            clear hK K
            rw [← ocs_append, ← List.eraseIdx_eq_take_drop_succ] at hown2
            have hgs2 : g1 < s2 := hg1s
            have OM := HM.out.at_.below hb hgs2
            have HB2 := hide (HM.out.below.trans (hb.mono (Nat.le_of_lt (Nat.lt_of_le_of_lt HM.out.low hgs2))))
            have HQ2 := hide (HQ.out.grown_new hown1 hgr)
            have HZS := hide (HM.out.zeds.erase kk)
            have HM2 := hide (ManyAt.core OM HQ2.out (own_weaken hown2 hgs2) HZS.out HB2.out HLW.out HM.out.low)
            clear hown2 hgr hb HM HQ HQ2 HZS HB2 HOB HDR hown1
            go_simp
            refine onlyC 10 rfl (by kernel_rfl) (by rfl) ?_
            intro K hK
            refine pv_store rfl rfl (c := qo) rfl OM rfl ?_
            refine hK _ _ (fun h => absurd h (by decide)) ?_
            clear hK K OM
            generalize w2'.setRow g1 (oc qo) = w9 at *
            refine takeX 11 rfl (by kernel_rfl) (fun _ _ _ h => h) (by rfl) (by intro w'; go_simp; try with_reducible rfl) ?_
            refine doneC (by kernel_rfl) ?_
            go_simp
            go_wp2_with fail
            go_roundw
            case rel => exact ⟨i + 1, kk + (n - (kk + 1)), c2, A2, qo, _, _, _, rfl, by go_num, by omega, HM2, HKF, HLE⟩
            case measure => simp [lenOf]; omega
end Go.Proofs.YtdglcpepgodcpaaDoor
