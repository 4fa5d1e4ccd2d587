/- Layer 14, the reference: contracts. -/
import Derived.Test.YthaolmcppfjedaaSgMath
import Derived.Test.YthaolmcppfjedaaRegionD
namespace Go.Proofs.Ythaolmcppfjedaa
open Go.RowKit

/-- The end of a call that gives back a process with the lists that came in. -/
theorem proc_kept {W w' : World} {b y : Ob} {X : Cont} {r : Int} (hr : r = 0) (h : HoldsP W W.heap.size y X) (e : AlikeP y b) (hb : Below W.heap.size W w') : PAns w' y b r X := .inr ⟨hr, e, h.later hb⟩
/-- This very process, or nothing and the error. -/
def ProcAt (b : Ob) (r : Int) (w : World) (e : Ending) (w' : World) : Prop := ∃ a, e = .returned (.tuple #[.agg (pcell a), .int .i64 r]) ∧ ((r ≠ 0 ∧ a = Ob.zero) ∨ (r = 0 ∧ a = b)) ∧ Below w.heap.size w w'
theorem ProcAt.err {b : Ob} {r : Int} {X : Cont} {w w' : World} {e : Ending} (h : ProcAt b r w e w') (hH : HoldsP w w.heap.size b X) : ProcErr b r X w e w' := by
  obtain ⟨a, he, ha, hb⟩ := h
  refine ⟨a, he, ha.imp id fun h => ⟨h.1, ?_, ?_⟩, hb⟩
  · rw [h.2]; exact AlikeP.refl _
  · rw [h.2]; exact hH.later hb
set_option maxRecDepth 100000 in
set_option maxHeartbeats 8000000 in
theorem refSgRaise_at (o : Ob) (s : Int) (W : World) : Calls Try.prog 17 #[.agg (pcell o), .int .i64 s] W (ProcAt (o.raise s) (o.raiseErr s) W) := by
  obtain ⟨w0, hw0, P0, Q0, hb0, hs0⟩ := start_pp W o
  have HB0 := hide hb0
  have k0 : w0.cell? ⟨W.heap.size, 0, none⟩ = some (.int .i64 o.state) := P0.cell 0
  have k17 : w0.cell? ⟨W.heap.size, 17, none⟩ = some (.int .i64 o.pending) := P0.cell 17
  have z0 := P0.free 0
  have z17 := P0.free 17
  clear hb0 hs0
  by_cases h1 : s < 1
  · have HE : Hid (o.raiseErr s = 2) := hide (by unfold Ob.raiseErr; rw [if_neg (by omega)])
    go_enter Try.func17, Try.ntmps17
    go_wp2_with (first | (refine store_proc rfl _ _ rfl rfl (c := Ob.zero) rfl Q0 rfl ?_) | fail)
    refine bodyPost_ret (ret_proc2 rfl _ rfl (Q0.row_same _)) rfl ?_
    exact ⟨Ob.zero, by rw [HE.out]; rfl, .inl ⟨by rw [HE.out]; decide, rfl⟩, below_row HB0.out (by omega) _⟩
  by_cases h31 : 31 < s
  · have HE : Hid (o.raiseErr s = 2) := hide (by unfold Ob.raiseErr; rw [if_neg (by omega)])
    go_enter Try.func17, Try.ntmps17
    go_wp2_with (first | (refine store_proc rfl _ _ rfl rfl (c := Ob.zero) rfl Q0 rfl ?_) | fail)
    refine bodyPost_ret (ret_proc2 rfl _ rfl (Q0.row_same _)) rfl ?_
    exact ⟨Ob.zero, by rw [HE.out]; rfl, .inl ⟨by rw [HE.out]; decide, rfl⟩, below_row HB0.out (by omega) _⟩
  have hs : 1 ≤ s ∧ s ≤ 31 := by omega
  by_cases hst : o.state = 1 ∨ o.state = 2
  case neg =>
    have HE : Hid (o.raiseErr s = 6) := hide (by unfold Ob.raiseErr; rw [if_pos hs, if_neg hst])
    have b1 : (o.state != 1) = true := by simp; omega
    have b2 : (o.state != 2) = true := by simp; omega
    clear hst
    go_enter Try.func17, Try.ntmps17
    go_wp2_with (first | (refine store_proc rfl _ _ rfl rfl (c := Ob.zero) rfl Q0 rfl ?_) | fail)
    refine bodyPost_ret (ret_proc2 rfl _ rfl (Q0.row_same _)) rfl ?_
    exact ⟨Ob.zero, by rw [HE.out]; rfl, .inl ⟨by rw [HE.out]; decide, rfl⟩, below_row HB0.out (by omega) _⟩
  have HE : Hid (o.raiseErr s = 0) := hide (by unfold Ob.raiseErr; rw [if_pos hs, if_pos hst])
  by_cases h9 : s = 9
  · subst h9
    by_cases hs1 : o.state = 1
    · have HY : Hid (({ o with state := 2, status := -9 } : Ob) = o.raise 9) := hide (by unfold Ob.raise; rw [if_pos rfl, if_pos hs1])
      obtain ⟨y, hy⟩ : ∃ y, ({ o with state := 2, status := -9 } : Ob) = y := ⟨_, rfl⟩
      rw [hs1] at k0
      have P2 : Obl ((w0.setCell ⟨W.heap.size, 0, none⟩ (.int .i64 2)).setCell ⟨W.heap.size, 19, none⟩ (.int .i64 (-9))) W.heap.size 34 (pcell y) := by
        have h := (P0.put 0 (.int .i64 2)).put 19 (.int .i64 (-9)); rw [← hy]; simpa [pcell, pcs] using h
      have Q2 := (Q0.put_other (b' := W.heap.size) (by omega) 0 (.int .i64 2)).put_other (b' := W.heap.size) (by omega) 19 (.int .i64 (-9))
      have HB2 := hide ((HB0.out.setCell (p := ⟨W.heap.size, 0, none⟩) (Nat.le_refl _) (.int .i64 2)).setCell (p := ⟨W.heap.size, 19, none⟩) (Nat.le_refl _) (.int .i64 (-9)))
      obtain ⟨w1, hw1⟩ : ∃ w1, w0.setCell ⟨W.heap.size, 0, none⟩ (.int .i64 2) = w1 := ⟨_, rfl⟩
      have y19 := (P0.put 0 (.int .i64 2)).free 19
      have c19 : (w0.setCell ⟨W.heap.size, 0, none⟩ (.int .i64 2)).cell? ⟨W.heap.size, 19, none⟩ = some (.int .i64 o.status) := (P0.put 0 (.int .i64 2)).cell 19
      rw [hw1] at P2 Q2 HB2 y19 c19
      obtain ⟨w2, hw2⟩ : ∃ w2, w1.setCell ⟨W.heap.size, 19, none⟩ (.int .i64 (-9)) = w2 := ⟨_, rfl⟩
      rw [hw2] at P2 Q2 HB2
      rw [hy] at HY
      clear hy hs1 HB0 P0 Q0 hst k17
      go_enter Try.func17, Try.ntmps17
      go_wp2_with (first | (refine load_proc0 rfl _ rfl rfl P2 ?_) | (refine store_proc rfl _ _ rfl rfl (c := y) rfl Q2 rfl ?_) | fail)
      refine bodyPost_ret (ret_proc2 rfl _ rfl (Q2.row_same _)) rfl ?_
      have hb := below_row HB2.out (g := W.heap.size + 1) (by omega) (pcell y)
      exact ⟨y, by rw [HE.out]; rfl, .inr ⟨HE.out, HY.out⟩, hb⟩
    · have HY : Hid (o = o.raise 9) := hide (by unfold Ob.raise; rw [if_pos rfl, if_neg hs1])
      have hs2 : o.state = 2 := by omega
      rw [hs2] at k0
      clear hs1 hs2 hst k17
      go_enter Try.func17, Try.ntmps17
      go_wp2_with (first | (refine load_proc0 rfl _ rfl rfl P0 ?_) | (refine store_proc rfl _ _ rfl rfl (c := o) rfl Q0 rfl ?_) | fail)
      refine bodyPost_ret (ret_proc2 rfl _ rfl (Q0.row_same _)) rfl ?_
      have hb := below_row HB0.out (g := W.heap.size + 1) (by omega) (pcell o)
      exact ⟨o, by rw [HE.out]; rfl, .inr ⟨HE.out, HY.out⟩, hb⟩
  · have b9 : (s != 9) = true := by simpa using h9
    have HY : Hid (({ o with pending := sgOr o.pending s } : Ob) = o.raise s) := hide (by unfold Ob.raise; rw [if_neg h9])
    obtain ⟨y, hy⟩ : ∃ y, ({ o with pending := sgOr o.pending s } : Ob) = y := ⟨_, rfl⟩
    obtain ⟨p, hp⟩ : ∃ p, sgOr o.pending s = p := ⟨_, rfl⟩
    have P2 : Obl (w0.setCell ⟨W.heap.size, 17, none⟩ (.int .i64 p)) W.heap.size 34 (pcell y) := by
      have h := P0.put 17 (.int .i64 p); rw [← hy, hp]; simpa [pcell, pcs] using h
    have Q2 := Q0.put_other (b' := W.heap.size) (by omega) 17 (.int .i64 p)
    have HB2 := hide (HB0.out.setCell (p := ⟨W.heap.size, 17, none⟩) (Nat.le_refl _) (.int .i64 p))
    obtain ⟨w1, hw1⟩ : ∃ w1, w0.setCell ⟨W.heap.size, 17, none⟩ (.int .i64 p) = w1 := ⟨_, rfl⟩
    rw [hw1] at P2 Q2 HB2
    rw [hy] at HY
    unfold sgOr sgBit at hp
    obtain ⟨hs1, hs31⟩ := hs
    clear hy h9 HB0 P0 Q0
    rcases hst with hst | hst
    all_goals
      rw [hst] at k0
      clear hst
      go_enter Try.func17, Try.ntmps17
      go_wp2_with fail
      go_region
      go_wp2_with (first | (refine load_proc0 rfl _ rfl rfl P2.drew ?_) | (refine store_proc rfl _ _ rfl rfl (c := y) rfl Q2.drew rfl ?_) | fail)
      refine bodyPost_ret (ret_proc2 rfl _ rfl (Q2.drew.row_same _)) rfl ?_
      have hb := below_row HB2.out.drew (g := W.heap.size + 1) (by omega) (pcell y)
      exact ⟨y, by rw [HE.out]; rfl, .inr ⟨HE.out, HY.out⟩, hb⟩
theorem refSgRaise_any (o : Ob) (s : Int) (X : Cont) (W : World) (h : HoldsP W W.heap.size o X) : Calls Try.prog 17 #[.agg (pcell o), .int .i64 s] W (ProcErr (o.raise s) (o.raiseErr s) X W) :=
  (refSgRaise_at o s W).mono fun _ _ h' => h'.err (h.raise s)
/-- The signals, and this very process. -/
def TakeAt (o : Ob) (w : World) (e : Ending) (w' : World) : Prop := e = .returned (.tuple #[.int .i64 o.pending, .agg (pcell o.taken)]) ∧ Below w.heap.size w w'
theorem TakeAt.of {o y : Ob} {w w' : World} {e : Ending} (h : o.taken = y) (he : e = .returned (.tuple #[.int .i64 o.pending, .agg (pcell y)])) (hb : Below w.heap.size w w') : TakeAt o w e w' := by subst h; exact ⟨he, hb⟩
end Go.Proofs.Ythaolmcppfjedaa
