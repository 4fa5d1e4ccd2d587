/- Layer 14, package signal and the reference: contracts. -/
import Derived.Test.YthaolmcppfjedaaSgMath
import Derived.Test.YthaolmcppfjedaaSgCopy
namespace Go.Proofs.Ythaolmcppfjedaa
open Go.RowKit

/-- A process, and what was there is there. -/
def ProcIs (b : Ob) (w : World) (e : Ending) (w' : World) : Prop := e = .returned (.agg (pcell b)) ∧ Below w.heap.size w w'
theorem ProcIs.of {b c : Ob} {w w' : World} {e : Ending} (h : c = b) (he : e = .returned (.agg (pcell c))) (hb : Below w.heap.size w w') : ProcIs b w e w' := by subst h; exact ⟨he, hb⟩
theorem Owns.reproc {u : World} {lo : Nat} {o c : Ob} {X : Cont} (h : Owns u lo c X) : HoldsP u u.heap.size (o.reproc c) X := have k := h.p; ⟨k.children, k.code, k.strs, k.pages, k.table⟩
theorem reproc_alike (o c : Ob) : AlikeP (o.reproc c) o := ⟨rfl, rfl, rfl, rfl, rfl, rfl, rfl⟩
set_option maxRecDepth 100000 in
set_option maxHeartbeats 4000000 in
theorem sgRaised_any (o : Ob) (s : Int) (hs : 1 ≤ s ∧ s ≤ 31) (W : World) : Calls Try.prog 25 #[.agg (pcell o), .int .i64 s] W (ProcIs (o.raise s) W) := by
  obtain ⟨w0, hw0, P0, Q0, hb0, hs0⟩ := start_pp W o
  have HB0 := hide hb0
  have k0 : w0.cell? ⟨W.heap.size, 0, none⟩ = some (.int .i64 o.state) := P0.cell 0
  have k17 : w0.cell? ⟨W.heap.size, 17, none⟩ = some (.int .i64 o.pending) := P0.cell 17
  have z0 := P0.free 0
  have z17 := P0.free 17
  have z19 := P0.free 19
  clear hb0 hs0
  by_cases h9 : s = 9
  · subst h9
    by_cases h1 : o.state = 1
    · have HE : Hid ({ o with state := 2, status := -9 } = o.raise 9) := hide (by unfold Ob.raise; rw [if_pos rfl, if_pos h1])
      rw [h1] at k0
      obtain ⟨y, hy⟩ : ∃ y, ({ o with state := 2, status := -9 } : Ob) = y := ⟨_, rfl⟩
      have P2 : Obl ((w0.setCell ⟨W.heap.size, 0, none⟩ (.int .i64 2)).setCell ⟨W.heap.size, 19, none⟩ (.int .i64 (-9))) W.heap.size 34 (pcell y) := by
        have h := (P0.put 0 (.int .i64 2)).put 19 (.int .i64 (-9)); rw [← hy]; simpa [pcell, pcs] using h
      have Q2 := (Q0.put_other (b' := W.heap.size) (by omega) 0 (.int .i64 2)).put_other (b' := W.heap.size) (by omega) 19 (.int .i64 (-9))
      have HB2 := hide ((HB0.out.setCell (p := ⟨W.heap.size, 0, none⟩) (Nat.le_refl _) (.int .i64 2)).setCell (p := ⟨W.heap.size, 19, none⟩) (Nat.le_refl _) (.int .i64 (-9)))
      obtain ⟨w1, hw1⟩ : ∃ w1, w0.setCell ⟨W.heap.size, 0, none⟩ (.int .i64 2) = w1 := ⟨_, rfl⟩
      have y19 := (P0.put 0 (.int .i64 2)).free 19
      have c19 : (w0.setCell ⟨W.heap.size, 0, none⟩ (.int .i64 2)).cell? ⟨W.heap.size, 19, none⟩ = some (.int .i64 o.status) := (P0.put 0 (.int .i64 2)).cell 19
      rw [hw1] at P2 Q2 HB2 y19 c19
      obtain ⟨w2, hw2⟩ : ∃ w2, w1.setCell ⟨W.heap.size, 19, none⟩ (.int .i64 (-9)) = w2 := ⟨_, rfl⟩
      rw [hw2] at P2 Q2 HB2
      rw [hy] at HE
      clear hy h1 HB0 P0 Q0 z19
      go_enter Try.func25, Try.ntmps25
      go_wp2_with (first | (refine load_proc0 rfl _ rfl rfl P2 ?_) | (refine store_proc rfl _ _ rfl rfl (c := y) rfl Q2 rfl ?_) | fail)
      refine bodyPost_ret (ret_proc rfl _ rfl (Q2.row_same _)) rfl ?_
      exact ProcIs.of HE.out rfl (below_row HB2.out (by omega) _)
    · have HE : Hid (o = o.raise 9) := hide (by unfold Ob.raise; rw [if_pos rfl, if_neg h1])
      have b1 : (o.state == 1) = false := by simpa using h1
      clear h1
      go_enter Try.func25, Try.ntmps25
      go_wp2_with (first | (refine load_proc0 rfl _ rfl rfl P0 ?_) | (refine store_proc rfl _ _ rfl rfl (c := o) rfl Q0 rfl ?_) | fail)
      refine bodyPost_ret (ret_proc rfl _ rfl (Q0.row_same _)) rfl ?_
      exact ProcIs.of HE.out rfl (below_row HB0.out (by omega) _)
  · have b9 : (s != 9) = true := by simpa using h9
    have HE : Hid ({ o with pending := sgOr o.pending s } = o.raise s) := hide (by unfold Ob.raise; rw [if_neg h9])
    obtain ⟨y, hy⟩ : ∃ y, ({ o with pending := sgOr o.pending s } : Ob) = y := ⟨_, rfl⟩
    obtain ⟨p, hp⟩ : ∃ p, sgOr o.pending s = p := ⟨_, rfl⟩
    have P2 : Obl (w0.setCell ⟨W.heap.size, 17, none⟩ (.int .i64 p)) W.heap.size 34 (pcell y) := by
      have h := P0.put 17 (.int .i64 p); rw [← hy, hp]; simpa [pcell, pcs] using h
    have Q2 := Q0.put_other (b' := W.heap.size) (by omega) 17 (.int .i64 p)
    have HB2 := hide (HB0.out.setCell (p := ⟨W.heap.size, 17, none⟩) (Nat.le_refl _) (.int .i64 p))
    obtain ⟨w1, hw1⟩ : ∃ w1, w0.setCell ⟨W.heap.size, 17, none⟩ (.int .i64 p) = w1 := ⟨_, rfl⟩
    rw [hw1] at P2 Q2 HB2
    rw [hy] at HE
    unfold sgOr sgBit at hp
    obtain ⟨h1, h31⟩ := hs
    clear hy h9 HB0 P0 Q0
    go_enter Try.func25, Try.ntmps25
    go_wp2_with fail
    go_region
    go_wp2_with (first | (refine load_proc0 rfl _ rfl rfl P2.drew ?_) | (refine store_proc rfl _ _ rfl rfl (c := y) rfl Q2.drew rfl ?_) | fail)
    refine bodyPost_ret (ret_proc rfl _ rfl (Q2.drew.row_same _)) rfl ?_
    exact ProcIs.of HE.out rfl (below_row HB2.out.drew (by omega) _)
/-- A process with rows of its own (whatever happens to elder blocks), or nothing and an error. -/
def RaiseOwn (o : Ob) (s : Int) (X : Cont) (w : World) (e : Ending) (w' : World) : Prop := ∃ a, e = .returned (.tuple #[.agg (pcell a), .int .i64 (o.raiseErr s)]) ∧ ((o.raiseErr s ≠ 0 ∧ a = Ob.zero) ∨ (o.raiseErr s = 0 ∧ ∃ c, (o.reproc c).raise s = a ∧ Stays w.heap.size w' (fun u => Owns u w.heap.size c X))) ∧ Below w.heap.size w w'
set_option maxRecDepth 100000 in
set_option maxHeartbeats 4000000 in
theorem sgRaise_own (o : Ob) (s : Int) (X : Cont) (W : World) (h : HoldsP W W.heap.size o X) (hX : X.ShortP) : Calls Try.prog 16 #[.agg (pcell o), .int .i64 s] W (RaiseOwn o s X W) := by
  obtain ⟨w0, hw0, P0, Q0, hb0, hs0⟩ := start_pp W o
  have HB0 := hide hb0
  have H0 := hide h
  have HX := hide hX
  have k0 : w0.cell? ⟨W.heap.size, 0, none⟩ = some (.int .i64 o.state) := P0.cell 0
  clear hb0 h hX
  by_cases h1 : s < 1
  · have HE : Hid (o.raiseErr s = 2) := hide (by unfold Ob.raiseErr; rw [if_neg (by omega)])
    go_enter Try.func16, Try.ntmps16
    go_wp2_with (first | (refine store_proc rfl _ _ rfl rfl (c := Ob.zero) rfl Q0 rfl ?_) | fail)
    refine bodyPost_ret (ret_proc2 rfl _ rfl (Q0.row_same _)) rfl ?_
    exact ⟨Ob.zero, by rw [HE.out]; rfl, .inl ⟨by rw [HE.out]; decide, rfl⟩, below_row HB0.out (by omega) _⟩
  by_cases h31 : 31 < s
  · have HE : Hid (o.raiseErr s = 2) := hide (by unfold Ob.raiseErr; rw [if_neg (by omega)])
    go_enter Try.func16, Try.ntmps16
    go_wp2_with (first | (refine store_proc rfl _ _ rfl rfl (c := Ob.zero) rfl Q0 rfl ?_) | fail)
    refine bodyPost_ret (ret_proc2 rfl _ rfl (Q0.row_same _)) rfl ?_
    exact ⟨Ob.zero, by rw [HE.out]; rfl, .inl ⟨by rw [HE.out]; decide, rfl⟩, below_row HB0.out (by omega) _⟩
  have hs : 1 ≤ s ∧ s ≤ 31 := by omega
  have HS := hide hs
  by_cases hst : o.state = 1 ∨ o.state = 2
  case neg =>
    have HE : Hid (o.raiseErr s = 6) := hide (by unfold Ob.raiseErr; rw [if_pos hs, if_neg hst])
    have b1 : (o.state != 1) = true := by simp; omega
    have b2 : (o.state != 2) = true := by simp; omega
    clear hst
    go_enter Try.func16, Try.ntmps16
    go_wp2_with (first | (refine store_proc rfl _ _ rfl rfl (c := Ob.zero) rfl Q0 rfl ?_) | fail)
    refine bodyPost_ret (ret_proc2 rfl _ rfl (Q0.row_same _)) rfl ?_
    exact ⟨Ob.zero, by rw [HE.out]; rfl, .inl ⟨by rw [HE.out]; decide, rfl⟩, below_row HB0.out (by omega) _⟩
  have HE : Hid (o.raiseErr s = 0) := hide (by unfold Ob.raiseErr; rw [if_pos hs, if_pos hst])
  have hl0 : W.heap.size + 2 = w0.heap.size := hs0.symm
  have HL := hide hl0
  clear hs hl0 hs0
  rcases hst with hst | hst
  all_goals
    rw [hst] at k0
    clear hst
    go_enter Try.func16, Try.ntmps16
    go_wp2_with (first | (refine load_proc0 rfl _ rfl rfl P0 ?_) | fail)
    refine (sgCopied_any o X w0 ((H0.out.below HB0.out).mono HB0.out.size) HX.out).mono ?_
    rintro e w1 ⟨c, rfl, hst1, hb1⟩
    have HT1 := hide hst1
    have HB1 := hide (HB0.out.trans (hb1.mono HB0.out.size))
    replace Q0 := Q0.below hb1 Q0.lt
    clear hb1 hst1
    go_wp2_with fail
    refine (sgRaised_any (o.reproc c) s HS.out w1).mono ?_
    rintro e w2 ⟨rfl, hb2⟩
    have HT2 := hide (HT1.out.next (Fr.below hb2))
    have HB2 := hide (HB1.out.trans (hb2.mono HB1.out.size))
    replace Q0 := Q0.below hb2 Q0.lt
    clear hb2
    obtain ⟨y, hy⟩ : ∃ y, (o.reproc c).raise s = y := ⟨_, rfl⟩
    have HY := hide hy
    rw [hy]
    clear hy
    go_wp2_with (first | (refine store_proc rfl _ _ rfl rfl (c := y) rfl Q0 rfl ?_) | fail)
    refine bodyPost_ret (ret_proc2 rfl _ rfl (Q0.row_same _)) rfl ?_
    have hh := ((HT2.out.next (Fr.row (g := W.heap.size + 1) (by have := HL.out; omega) (pcell y))).imp fun u hu => hu.weaken (lo' := W.heap.size) (by have := HL.out; omega)).lower (lo' := W.heap.size) (by have := HL.out; omega)
    exact ⟨y, by rw [HE.out]; rfl, .inr ⟨HE.out, c, HY.out, hh⟩, below_row HB2.out (by omega) _⟩
theorem sgRaise_any (o : Ob) (s : Int) (X : Cont) (W : World) (h : HoldsP W W.heap.size o X) (hX : X.ShortP) : Calls Try.prog 16 #[.agg (pcell o), .int .i64 s] W (ProcErr (o.raise s) (o.raiseErr s) X W) := by
  refine (sgRaise_own o s X W h hX).mono ?_
  rintro e w' ⟨a, he, ha, hb⟩
  refine ⟨a, he, ha.imp id ?_, hb⟩
  rintro ⟨h0, c, rfl, hs⟩
  exact ⟨h0, (reproc_alike o c).raise s, hs.now.reproc.raise s⟩
/-- A process laid in a new block, whatever the block's number. -/
theorem laid_pp (o : Ob) (w : World) : ∃ w1, w.alloc (.cells #[.int .i64 0, .int .u64 0, .slice none 0 0, .slice none 0 0, .slice none 0 0, .int .i64 0, .int .i64 0, .int .i64 0, .int .i64 0, .int .i64 0, .int .i64 0, .int .i64 0, .int .i64 0, .int .i64 0, .int .i64 0,
    .slice none 0 0, .slice none 0 0, .int .i64 0, .int .i64 0, .int .i64 0] 34) = w1 ∧ ∃ g, w.heap.size = g ∧ ∃ w2, w1.setRow g (pcell o) = w2 ∧ Obl w1 g 34 (pcell Ob.zero) ∧ Obl w2 g 34 (pcell o) ∧ Below w.heap.size w w2 ∧ w2.heap.size = g + 1 := by
  obtain ⟨w1, h1, g, hg, w2, h2, O1, O2, hb, hs⟩ := laid_proc o w
  exact ⟨w1, h1, g, hg, w2, h2, O1, O2, by rw [hg]; exact hb, hs⟩
end Go.Proofs.Ythaolmcppfjedaa
