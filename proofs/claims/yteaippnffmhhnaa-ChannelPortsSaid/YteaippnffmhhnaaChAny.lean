/- Layer 12: channels and ports, whatever the object is: the package and the reference answer alike. -/
import Derived.Test.YteaippnffmhhnaaChRef
import Derived.Test.YteaippnffmhhnaaChRefPort
import Derived.Test.YteaippnffmhhnaaSameFull
namespace Go.Proofs.Yteaippnffmhhnaa
open Go.RowKit

/-- An object that has nothing but identifier, kind, ends, and queues. -/
structure ChLike (y : Ob) (id k a b : Int) : Prop where
  num : y.id = id ∧ y.kind = k ∧ y.e0 = a ∧ y.e1 = b ∧ y.refs = 0 ∧ y.offset = 0 ∧ y.target = 0 ∧ y.readers = 0 ∧ y.writers = 0 ∧ y.count = 0
  lists : y.words.n = 0 ∧ y.data.n = 0 ∧ y.backlog.n = 0 ∧ y.names.n = 0
  proc : y.NoProc
/-- An object that has nothing but identifier, kind, references, and a backlog. -/
structure PoLike (y : Ob) (id k r : Int) : Prop where
  num : y.id = id ∧ y.kind = k ∧ y.refs = r ∧ y.e0 = 0 ∧ y.e1 = 0 ∧ y.offset = 0 ∧ y.target = 0 ∧ y.readers = 0 ∧ y.writers = 0 ∧ y.count = 0
  lists : y.words.n = 0 ∧ y.data.n = 0 ∧ y.q0.n = 0 ∧ y.q1.n = 0 ∧ y.names.n = 0
  proc : y.NoProc
theorem noProc0 : Ob.zero.NoProc := Ob.zero_bare.2.2
theorem chLike_zero : ChLike Ob.zero 0 0 0 0 := ⟨⟨rfl, rfl, rfl, rfl, rfl, rfl, rfl, rfl, rfl, rfl⟩, ⟨rfl, rfl, rfl, rfl⟩, noProc0⟩
theorem poLike_zero : PoLike Ob.zero 0 0 0 := ⟨⟨rfl, rfl, rfl, rfl, rfl, rfl, rfl, rfl, rfl, rfl⟩, ⟨rfl, rfl, rfl, rfl, rfl⟩, noProc0⟩
theorem like_chan (id a b : Int) (s t : Sl) : ChLike (Ob.chan id a b s t) id 7 a b := ⟨⟨rfl, rfl, rfl, rfl, rfl, rfl, rfl, rfl, rfl, rfl⟩, ⟨rfl, rfl, rfl, rfl⟩, noProc0⟩
theorem like_port (id r : Int) (s : Sl) : PoLike (Ob.port id r s) id 6 r := ⟨⟨rfl, rfl, rfl, rfl, rfl, rfl, rfl, rfl, rfl, rfl⟩, ⟨rfl, rfl, rfl, rfl, rfl⟩, noProc0⟩
theorem like_qs {o : Ob} (h : o.Chan) (s t : Sl) : ChLike { o with q0 := s, q1 := t } o.id 7 o.e0 o.e1 := by
  obtain ⟨h1, _, _, _, _, ⟨c1, c2, c3, c4, c5, c6⟩, hl, hp⟩ := h
  exact ⟨⟨rfl, h1, rfl, rfl, c1, c2, c3, c4, c5, c6⟩, hl, hp⟩
theorem like_back {o : Ob} {I : List Int} (h : o.Port I) (s : Sl) : PoLike { o with backlog := s } o.id 6 o.refs := by
  obtain ⟨h1, _, _, _, _, ⟨c1, c2, c3, c4, c5, c6⟩, hl, hp⟩ := h
  simp only [List.cons.injEq, and_true] at c5
  exact ⟨⟨rfl, h1, rfl, c5.1, c5.2, c1, c2, c3, c4, c6⟩, hl, hp⟩
theorem same_chan {y z : Ob} {i k a b : Int} (hy : ChLike y i k a b) (hz : ChLike z i k a b) {w : World} {P Q : List UInt8} (hP : Bytes w w.heap.size y.q0.A y.q0.n P) (hP' : Bytes w w.heap.size z.q0.A z.q0.n P) (hQ : Bytes w w.heap.size y.q1.A y.q1.n Q) (hQ' : Bytes w w.heap.size z.q1.A z.q1.n Q) :
    Calls Try.prog 15 #[.agg (oc y), .agg (oc z)] w (BoolPost true w) := by
  obtain ⟨⟨p1, p2, p3, p4, p5, p6, p7, p8, p9, p10⟩, ⟨q1, q2, q3, q4⟩, hp⟩ := hy
  obtain ⟨⟨r1, r2, r3, r4, r5, r6, r7, r8, r9, r10⟩, ⟨s1, s2, s3, s4⟩, hq⟩ := hz
  refine same_ob y z [] [] P Q [] w ⟨p1.trans r1.symm, p2.trans r2.symm, p5.trans r5.symm, p6.trans r6.symm, p7.trans r7.symm, p8.trans r8.symm, p9.trans r9.symm, p10.trans r10.symm, p3.trans r3.symm, p4.trans r4.symm⟩ q4 s4 ⟨?_, ?_, ?_, ?_, hP, hP', hQ, hQ', ?_, ?_, by simp⟩ fun u _ => sameProc_none _ _ hp hq u
  · rw [q1]; exact Nums.nil
  · rw [s1]; exact Nums.nil
  · rw [q2]; exact Bytes.nil
  · rw [s2]; exact Bytes.nil
  · rw [q3]; exact Nums.nil
  · rw [s3]; exact Nums.nil
theorem same_port {y z : Ob} {i k a : Int} (hy : PoLike y i k a) (hz : PoLike z i k a) {w : World} {I : List Int} (hI : Nums .u64 w w.heap.size y.backlog.A y.backlog.n I) (hI' : Nums .u64 w w.heap.size z.backlog.A z.backlog.n I) (hl : I.length ≤ 1000000) :
    Calls Try.prog 15 #[.agg (oc y), .agg (oc z)] w (BoolPost true w) := by
  obtain ⟨⟨p1, p2, p3, p4, p5, p6, p7, p8, p9, p10⟩, ⟨q1, q2, q3, q4, q5⟩, hp⟩ := hy
  obtain ⟨⟨r1, r2, r3, r4, r5, r6, r7, r8, r9, r10⟩, ⟨s1, s2, s3, s4, s5⟩, hq⟩ := hz
  refine same_ob y z [] [] [] [] I w ⟨p1.trans r1.symm, p2.trans r2.symm, p3.trans r3.symm, p6.trans r6.symm, p7.trans r7.symm, p8.trans r8.symm, p9.trans r9.symm, p10.trans r10.symm, p4.trans r4.symm, p5.trans r5.symm⟩ q5 s5 ⟨?_, ?_, ?_, ?_, ?_, ?_, ?_, ?_, hI, hI', by simp, hl⟩ fun u _ => sameProc_none _ _ hp hq u
  · rw [q1]; exact Nums.nil
  · rw [s1]; exact Nums.nil
  · rw [q2]; exact Bytes.nil
  · rw [s2]; exact Bytes.nil
  · rw [q3]; exact Bytes.nil
  · rw [s3]; exact Bytes.nil
  · rw [q4]; exact Bytes.nil
  · rw [s4]; exact Bytes.nil

/-- A number that is there if there is no error. -/
def ifOk (e v : Int) : Int := if e = 0 then v else 0
theorem ifOk_0 (v : Int) : ifOk 0 v = v := rfl
/-- What is read: the first byte, or the end. -/
def firstOf (D : List UInt8) : Int := match D with
  | [] => -1
  | x :: _ => (x.toNat : Int)
def Ob.rVal (o : Ob) (k : Int) (P Q : List UInt8) : Int := if o.chRd k = 0 then firstOf (if k = 0 then Q else P) else 0
def Ob.rP (o : Ob) (k : Int) (P : List UInt8) : List UInt8 := if o.chRd k = 0 then (if k = 0 then P else P.drop 1) else []
def Ob.rQ (o : Ob) (k : Int) (Q : List UInt8) : List UInt8 := if o.chRd k = 0 then (if k = 0 then Q.drop 1 else Q) else []
def Ob.wP (o : Ob) (k : Int) (P : List UInt8) (c : UInt8) : List UInt8 := if o.chWr k = 0 then (if k = 0 then P ++ [c] else P) else []
def Ob.wQ (o : Ob) (k : Int) (Q : List UInt8) (c : UInt8) : List UInt8 := if o.chWr k = 0 then (if k = 0 then Q else Q ++ [c]) else []
def Ob.cI (o : Ob) (I : List Int) (c : Int) : List Int := if o.callErr I c = 0 then I ++ [c] else []
def Ob.aV (o : Ob) (I : List Int) : Int := if o.accErr I = 0 then I.headD 0 else 0
def Ob.aI (o : Ob) (I : List Int) : List Int := if o.accErr I = 0 then I.drop 1 else []
theorem Ob.cI_short {o : Ob} {I : List Int} {c : Int} (hI : o.backlog.n = I.length) : (o.cI I c).length ≤ 1000000 := by
  unfold Ob.cI
  split
  · rename_i h
    have := (Ob.callErr_0 h).2.2.2.2
    rw [List.length_append]
    simp only [List.length_cons, List.length_nil]
    omega
  · simp
theorem Ob.aI_short {o : Ob} {I : List Int} (hI : o.backlog.n = I.length) : (o.aI I).length ≤ 1000000 := by
  unfold Ob.aI
  split
  · rename_i h
    have := (Ob.accErr_0 h).1.2.2.2.1
    rw [List.length_drop]
    omega
  · simp
def RdAny (o : Ob) (k : Int) (P Q : List UInt8) (w : World) (e : Ending) (w' : World) : Prop := ∃ y, e = .returned (.tuple #[.int .i64 (o.rVal k P Q), .agg (oc y), .int .i64 (o.chRd k)]) ∧ ChLike y (ifOk (o.chRd k) o.id) (ifOk (o.chRd k) 7) (ifOk (o.chRd k) o.e0) (ifOk (o.chRd k) o.e1) ∧ Bytes w' w'.heap.size y.q0.A y.q0.n (o.rP k P) ∧ Bytes w' w'.heap.size y.q1.A y.q1.n (o.rQ k Q) ∧ Below w.heap.size w w'
def WrAny (o : Ob) (k : Int) (P Q : List UInt8) (c : UInt8) (w : World) (e : Ending) (w' : World) : Prop := ∃ y, e = .returned (.tuple #[.agg (oc y), .int .i64 (o.chWr k)]) ∧ ChLike y (ifOk (o.chWr k) o.id) (ifOk (o.chWr k) 7) (ifOk (o.chWr k) o.e0) (ifOk (o.chWr k) o.e1) ∧ Bytes w' w'.heap.size y.q0.A y.q0.n (o.wP k P c) ∧ Bytes w' w'.heap.size y.q1.A y.q1.n (o.wQ k Q c) ∧ Below w.heap.size w w'
def CallAny (o : Ob) (I : List Int) (c : Int) (w : World) (e : Ending) (w' : World) : Prop := ∃ y, e = .returned (.tuple #[.agg (oc y), .int .i64 (o.callErr I c)]) ∧ PoLike y (ifOk (o.callErr I c) o.id) (ifOk (o.callErr I c) 6) (ifOk (o.callErr I c) o.refs) ∧ Nums .u64 w' w'.heap.size y.backlog.A y.backlog.n (o.cI I c) ∧ Below w.heap.size w w'
def AccAny (o : Ob) (I : List Int) (w : World) (e : Ending) (w' : World) : Prop := ∃ y, e = .returned (.tuple #[.int .u64 (o.aV I), .agg (oc y), .int .i64 (o.accErr I)]) ∧ PoLike y (ifOk (o.accErr I) o.id) (ifOk (o.accErr I) 6) (ifOk (o.accErr I) o.refs) ∧ Nums .u64 w' w'.heap.size y.backlog.A y.backlog.n (o.aI I) ∧ Below w.heap.size w w'
theorem rdNo_any {o : Ob} {k r : Int} {P Q : List UInt8} {w w' : World} {e : Ending} (hr : o.chRd k = r) (h : r ≠ 0) (hn : ReadNo r w e w') : RdAny o k P Q w e w' := by
  subst hr
  obtain ⟨rfl, hb⟩ := hn
  refine ⟨Ob.zero, ?_, ?_, ?_, ?_, hb⟩
  · unfold Ob.rVal; rw [if_neg h]
  · unfold ifOk; rw [if_neg h, if_neg h, if_neg h, if_neg h]; exact chLike_zero
  · unfold Ob.rP; rw [if_neg h]; exact Bytes.nil
  · unfold Ob.rQ; rw [if_neg h]; exact Bytes.nil
theorem wrNo_any {o : Ob} {k r : Int} {P Q : List UInt8} {c : UInt8} {w w' : World} {e : Ending} (hr : o.chWr k = r) (h : r ≠ 0) (hn : PageNo r w e w') : WrAny o k P Q c w e w' := by
  subst hr
  obtain ⟨rfl, hb⟩ := hn
  refine ⟨Ob.zero, rfl, ?_, ?_, ?_, hb⟩
  · unfold ifOk; rw [if_neg h, if_neg h, if_neg h, if_neg h]; exact chLike_zero
  · unfold Ob.wP; rw [if_neg h]; exact Bytes.nil
  · unfold Ob.wQ; rw [if_neg h]; exact Bytes.nil
theorem rd_any {o y : Ob} {k v : Int} {P Q P' Q' : List UInt8} {w w' : World} (h : o.chRd k = 0) (hv : v = firstOf (if k = 0 then Q else P)) (hy : ChLike y o.id 7 o.e0 o.e1) (hP : P' = if k = 0 then P else P.drop 1) (hQ : Q' = if k = 0 then Q.drop 1 else Q)
    (h0 : Bytes w' w'.heap.size y.q0.A y.q0.n P') (h1 : Bytes w' w'.heap.size y.q1.A y.q1.n Q') (hb : Below w.heap.size w w') : RdAny o k P Q w (.returned (.tuple #[.int .i64 v, .agg (oc y), .int .i64 0])) w' := by
  refine ⟨y, ?_, ?_, ?_, ?_, hb⟩
  · unfold Ob.rVal; rw [if_pos h, hv, h]
  · unfold ifOk; rw [if_pos h, if_pos h, if_pos h, if_pos h]; exact hy
  · unfold Ob.rP; rw [if_pos h, ← hP]; exact h0
  · unfold Ob.rQ; rw [if_pos h, ← hQ]; exact h1
theorem wr_any {o y : Ob} {k : Int} {P Q P' Q' : List UInt8} {c : UInt8} {w w' : World} (h : o.chWr k = 0) (hy : ChLike y o.id 7 o.e0 o.e1) (hP : P' = if k = 0 then P ++ [c] else P) (hQ : Q' = if k = 0 then Q else Q ++ [c])
    (h0 : Bytes w' w'.heap.size y.q0.A y.q0.n P') (h1 : Bytes w' w'.heap.size y.q1.A y.q1.n Q') (hb : Below w.heap.size w w') : WrAny o k P Q c w (.returned (.tuple #[.agg (oc y), .int .i64 0])) w' := by
  refine ⟨y, ?_, ?_, ?_, ?_, hb⟩
  · rw [h]
  · unfold ifOk; rw [if_pos h, if_pos h, if_pos h, if_pos h]; exact hy
  · unfold Ob.wP; rw [if_pos h, ← hP]; exact h0
  · unfold Ob.wQ; rw [if_pos h, ← hQ]; exact h1
theorem Ob.chRd_ok {o : Ob} {k : Int} (h : o.ChOk k) : o.chRd k = if (o.qAt (1 - k)).n = 0 ∧ 0 < o.eAt (1 - k) then 12 else 0 := if_pos h
theorem Ob.chRd_bad {o : Ob} {k : Int} (h : ¬ o.ChOk k) : o.chRd k = 1 := if_neg h
theorem Ob.chWr_bad {o : Ob} {k : Int} (h : ¬ o.ChOk k) : o.chWr k = 1 := if_neg h
theorem chRead_any (o : Ob) (k : Int) (P Q : List UInt8) (W : World) (hP : Bytes W W.heap.size o.q0.A o.q0.n P) (hQ : Bytes W W.heap.size o.q1.A o.q1.n Q) : Calls Try.prog 23 #[.agg (oc o), .int .i64 k] W (RdAny o k P Q W) := by
  by_cases hc : o.ChOk k
  · have he := Ob.chRd_ok hc
    rcases hc.2 with rfl | rfl
    · by_cases hn : o.q1.n = 0
      · obtain rfl : Q = [] := List.eq_nil_of_length_eq_zero (by rw [hQ.len, hn])
        by_cases h1 : 0 < o.e1
        · exact (chRead_wait0 o P [] W hc hn h1 hP hQ).mono fun _ _ h => rdNo_any (he.trans (if_pos ⟨hn, h1⟩)) (by decide) h
        · refine (chRead_end0 o P [] W hc hn (by omega) hP hQ).mono ?_
          rintro e w' ⟨s, t, rfl, h2, h3, hb⟩
          exact rd_any (he.trans (if_neg fun h => h1 h.2)) rfl (like_chan _ _ _ _ _) rfl rfl h2.1 h3.1 hb
      · cases Q with
        | nil => exact absurd hQ.len.symm hn
        | cons x D =>
          refine (chRead_ok0 o x P D W hc hP hQ).mono ?_
          rintro e w' ⟨s, t, rfl, h2, h3, hb⟩
          exact rd_any (he.trans (if_neg fun h => hn h.1)) rfl (like_chan _ _ _ _ _) rfl rfl h2.1 h3.1 hb
    · by_cases hn : o.q0.n = 0
      · obtain rfl : P = [] := List.eq_nil_of_length_eq_zero (by rw [hP.len, hn])
        by_cases h1 : 0 < o.e0
        · exact (chRead_wait1 o [] Q W hc hn h1 hP hQ).mono fun _ _ h => rdNo_any (he.trans (if_pos ⟨hn, h1⟩)) (by decide) h
        · refine (chRead_end1 o [] Q W hc hn (by omega) hP hQ).mono ?_
          rintro e w' ⟨s, t, rfl, h2, h3, hb⟩
          exact rd_any (he.trans (if_neg fun h => h1 h.2)) rfl (like_chan _ _ _ _ _) rfl rfl h2.1 h3.1 hb
      · cases P with
        | nil => exact absurd hP.len.symm hn
        | cons x D =>
          refine (chRead_ok1 o x Q D W hc hP hQ).mono ?_
          rintro e w' ⟨s, t, rfl, h2, h3, hb⟩
          exact rd_any (he.trans (if_neg fun h => hn h.1)) rfl (like_chan _ _ _ _ _) rfl rfl h2.1 h3.1 hb
  · exact (chRead_bad o k P Q W hc hP hQ).mono fun _ _ h => rdNo_any (Ob.chRd_bad hc) (by decide) h
theorem refChRead_any (o : Ob) (k : Int) (P Q : List UInt8) (W : World) (hP : Bytes W W.heap.size o.q0.A o.q0.n P) (hQ : Bytes W W.heap.size o.q1.A o.q1.n Q) (h0 : o.q0.n ≤ o.q0.c) (h1 : o.q1.n ≤ o.q1.c) : Calls Try.prog 24 #[.agg (oc o), .int .i64 k] W (RdAny o k P Q W) := by
  by_cases hc : o.ChOk k
  · have he := Ob.chRd_ok hc
    rcases hc.2 with rfl | rfl
    · by_cases hn : o.q1.n = 0
      · obtain rfl : Q = [] := List.eq_nil_of_length_eq_zero (by rw [hQ.len, hn])
        by_cases h1 : 0 < o.e1
        · exact (refChRead_wait0 o W hc hn h1).mono fun _ _ h => rdNo_any (he.trans (if_pos ⟨hn, h1⟩)) (by decide) h
        · refine (refChRead_end0 o W hc hn (by omega)).mono ?_
          rintro e w' ⟨rfl, hb⟩
          exact rd_any (he.trans (if_neg fun h => h1 h.2)) rfl (like_qs hc.1 o.q0 o.q1) rfl rfl ((hP.below hb).mono hb.size) ((hQ.below hb).mono hb.size) hb
      · cases Q with
        | nil => exact absurd hQ.len.symm hn
        | cons x D =>
          refine (refChRead_ok0 o x P D W hc hP hQ h1).mono ?_
          rintro e w' ⟨s, t, rfl, h2, h3, hb⟩
          exact rd_any (he.trans (if_neg fun h => hn h.1)) rfl (like_qs hc.1 _ _) rfl rfl h2.1 h3.1 hb
    · by_cases hn : o.q0.n = 0
      · obtain rfl : P = [] := List.eq_nil_of_length_eq_zero (by rw [hP.len, hn])
        by_cases h1 : 0 < o.e0
        · exact (refChRead_wait1 o W hc hn h1).mono fun _ _ h => rdNo_any (he.trans (if_pos ⟨hn, h1⟩)) (by decide) h
        · refine (refChRead_end1 o W hc hn (by omega)).mono ?_
          rintro e w' ⟨rfl, hb⟩
          exact rd_any (he.trans (if_neg fun h => h1 h.2)) rfl (like_qs hc.1 o.q0 o.q1) rfl rfl ((hP.below hb).mono hb.size) ((hQ.below hb).mono hb.size) hb
      · cases P with
        | nil => exact absurd hP.len.symm hn
        | cons x D =>
          refine (refChRead_ok1 o x Q D W hc hQ hP h0).mono ?_
          rintro e w' ⟨s, t, rfl, h2, h3, hb⟩
          exact rd_any (he.trans (if_neg fun h => hn h.1)) rfl (like_qs hc.1 _ _) rfl rfl h2.1 h3.1 hb
  · exact (refChRead_bad o k W hc).mono fun _ _ h => rdNo_any (Ob.chRd_bad hc) (by decide) h
theorem chWrite_any (o : Ob) (k : Int) (P Q : List UInt8) (W : World) (hP : Bytes W W.heap.size o.q0.A o.q0.n P) (hQ : Bytes W W.heap.size o.q1.A o.q1.n Q) (c : UInt8) : Calls Try.prog 25 #[.agg (oc o), .int .i64 k, .int .u8 (c.toNat : Int)] W (WrAny o k P Q c W) := by
  by_cases hc : o.ChOk k
  · by_cases he : o.chWr k = 0
    · obtain ⟨_, _, h1, h2⟩ := Ob.chWr_0 he
      rcases hc.2 with rfl | rfl
      · refine (chWrite_ok0 o c P Q W hc h1 h2 hP hQ).mono ?_
        rintro e w' ⟨s, t, rfl, h3, h4, hb⟩
        exact wr_any he (like_chan _ _ _ _ _) rfl rfl h3.1 h4.1 hb
      · refine (chWrite_ok1 o c P Q W hc h1 h2 hP hQ).mono ?_
        rintro e w' ⟨s, t, rfl, h3, h4, hb⟩
        exact wr_any he (like_chan _ _ _ _ _) rfl rfl h3.1 h4.1 hb
    · rcases hc.2 with rfl | rfl
      · exact (chWrite_no0 o c P Q W hc he hP hQ).mono fun _ _ h => wrNo_any rfl he h
      · exact (chWrite_no1 o c P Q W hc he hP hQ).mono fun _ _ h => wrNo_any rfl he h
  · exact (chWrite_bad o k c P Q W hc hP hQ).mono fun _ _ h => wrNo_any (Ob.chWr_bad hc) (by decide) h
theorem refChWrite_any (o : Ob) (k : Int) (P Q : List UInt8) (W : World) (hP : Bytes W W.heap.size o.q0.A o.q0.n P) (hQ : Bytes W W.heap.size o.q1.A o.q1.n Q) (c : UInt8) : Calls Try.prog 26 #[.agg (oc o), .int .i64 k, .int .u8 (c.toNat : Int)] W (WrAny o k P Q c W) := by
  by_cases hc : o.ChOk k
  · by_cases he : o.chWr k = 0
    · obtain ⟨_, _, h1, h2⟩ := Ob.chWr_0 he
      rcases hc.2 with rfl | rfl
      · refine (refChWrite_ok0 o c P Q W hc h1 h2 hP hQ).mono ?_
        rintro e w' ⟨s, t, rfl, h3, h4, hb⟩
        exact wr_any he (like_qs hc.1 _ _) rfl rfl h3.1 h4.1 hb
      · refine (refChWrite_ok1 o c P Q W hc h1 h2 hP hQ).mono ?_
        rintro e w' ⟨s, t, rfl, h3, h4, hb⟩
        exact wr_any he (like_qs hc.1 _ _) rfl rfl h3.1 h4.1 hb
    · rcases hc.2 with rfl | rfl
      · exact (refChWrite_no0 o c W hc he).mono fun _ _ h => wrNo_any rfl he h
      · exact (refChWrite_no1 o c W hc he).mono fun _ _ h => wrNo_any rfl he h
  · exact (refChWrite_bad o k c W hc).mono fun _ _ h => wrNo_any (Ob.chWr_bad hc) (by decide) h
theorem callNo_any {o : Ob} {c : Int} {I : List Int} {w w' : World} {e : Ending} (h : o.callErr I c ≠ 0) (hn : PageNo (o.callErr I c) w e w') : CallAny o I c w e w' := by
  obtain ⟨rfl, hb⟩ := hn
  refine ⟨Ob.zero, rfl, ?_, ?_, hb⟩
  · unfold ifOk; rw [if_neg h, if_neg h, if_neg h]; exact poLike_zero
  · unfold Ob.cI; rw [if_neg h]; exact Nums.nil
theorem call_any {o y : Ob} {c : Int} {I : List Int} {w w' : World} (h : o.callErr I c = 0) (hy : PoLike y o.id 6 o.refs) (h0 : Nums .u64 w' w'.heap.size y.backlog.A y.backlog.n (I ++ [c])) (hb : Below w.heap.size w w') : CallAny o I c w (.returned (.tuple #[.agg (oc y), .int .i64 0])) w' := by
  refine ⟨y, ?_, ?_, ?_, hb⟩
  · rw [h]
  · unfold ifOk; rw [if_pos h, if_pos h, if_pos h]; exact hy
  · unfold Ob.cI; rw [if_pos h]; exact h0
theorem accNo_any {o : Ob} {I : List Int} {w w' : World} {e : Ending} (h : o.accErr I ≠ 0) (hn : AccNo (o.accErr I) w e w') : AccAny o I w e w' := by
  obtain ⟨rfl, hb⟩ := hn
  refine ⟨Ob.zero, ?_, ?_, ?_, hb⟩
  · unfold Ob.aV; rw [if_neg h]
  · unfold ifOk; rw [if_neg h, if_neg h, if_neg h]; exact poLike_zero
  · unfold Ob.aI; rw [if_neg h]; exact Nums.nil
theorem acc_any {o y : Ob} {x : Int} {I : List Int} {w w' : World} (h : o.accErr (x :: I) = 0) (hy : PoLike y o.id 6 o.refs) (h0 : Nums .u64 w' w'.heap.size y.backlog.A y.backlog.n I) (hb : Below w.heap.size w w') : AccAny o (x :: I) w (.returned (.tuple #[.int .u64 x, .agg (oc y), .int .i64 0])) w' := by
  refine ⟨y, ?_, ?_, ?_, hb⟩
  · unfold Ob.aV; rw [if_pos h, h]; rfl
  · unfold ifOk; rw [if_pos h, if_pos h, if_pos h]; exact hy
  · unfold Ob.aI; rw [if_pos h]; exact h0
theorem chCall_any (o : Ob) (I : List Int) (W : World) (hI : Nums .u64 W W.heap.size o.backlog.A o.backlog.n I) (hc : o.backlog.n ≤ o.backlog.c) (hm : o.backlog.n ≤ 9223372036854775807) (c : Int) : Calls Try.prog 13 #[.agg (oc o), .int .u64 c] W (CallAny o I c W) := by
  by_cases h : o.callErr I c = 0
  · obtain ⟨h1, h2, h3, h4, h5⟩ := Ob.callErr_0 h
    refine (chCall_ok o c I W h1 h2 h3 h4 h5 hI hc hm).mono ?_
    rintro e w' ⟨s, rfl, h6, hb⟩
    exact call_any h (like_port _ _ _) h6.1 hb
  · exact (chCall_no o c I W h hI hc hm).mono fun _ _ hn => callNo_any h hn
theorem refCall_any (o : Ob) (I : List Int) (W : World) (hI : Nums .u64 W W.heap.size o.backlog.A o.backlog.n I) (hc : o.backlog.n ≤ o.backlog.c) (hm : o.backlog.n ≤ 9223372036854775807) (c : Int) : Calls Try.prog 14 #[.agg (oc o), .int .u64 c] W (CallAny o I c W) := by
  by_cases h : o.callErr I c = 0
  · obtain ⟨h1, h2, h3, h4, h5⟩ := Ob.callErr_0 h
    refine (refCall_ok o c I W h1 h2 h3 h4 h5 hI hc hm).mono ?_
    rintro e w' ⟨s, rfl, h6, hb⟩
    exact call_any h (like_back h1 _) h6.1 hb
  · exact (refCall_no o c I W h hI hc hm).mono fun _ _ hn => callNo_any h hn
theorem refAccept_any (o : Ob) (I : List Int) (W : World) (hI : Nums .u64 W W.heap.size o.backlog.A o.backlog.n I) (hc : o.backlog.n ≤ o.backlog.c) (hm : o.backlog.n ≤ 9223372036854775807) : Calls Try.prog 17 #[.agg (oc o)] W (AccAny o I W) := by
  by_cases h : o.accErr I = 0
  · obtain ⟨h1, h2⟩ := Ob.accErr_0 h
    cases I with
    | nil => exact absurd hI.len.symm h2
    | cons x I =>
      refine (refAccept_ok o x I W h1 hI hc hm).mono ?_
      rintro e w' ⟨s, rfl, h6, hb⟩
      exact acc_any h (like_back h1 _) h6.1 hb
  · exact (refAccept_no o I W h hI hc hm).mono fun _ _ hn => accNo_any h hn
theorem chAccept_any (o : Ob) (I : List Int) (W : World) (hI : Nums .u64 W W.heap.size o.backlog.A o.backlog.n I) (hc : o.backlog.n ≤ o.backlog.c) : Calls Try.prog 16 #[.agg (oc o)] W (AccAny o I W) := by
  by_cases h : o.accErr I = 0
  · obtain ⟨h1, h2⟩ := Ob.accErr_0 h
    cases I with
    | nil => exact absurd hI.len.symm h2
    | cons x I =>
      refine (chAccept_ok o x I W h1 hI hc).mono ?_
      rintro e w' ⟨s, rfl, h6, hb⟩
      exact acc_any h (like_port _ _ _) h6.1 hb
  · exact (chAccept_no o I W h hI hc).mono fun _ _ hn => accNo_any h hn
end Go.Proofs.Yteaippnffmhhnaa
