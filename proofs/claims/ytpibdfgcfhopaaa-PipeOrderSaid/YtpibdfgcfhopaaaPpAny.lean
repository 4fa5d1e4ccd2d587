/- Layer 11: reading and writing, whatever the object is: the package and the reference answer alike. -/
import Derived.Test.YtpibdfgcfhopaaaPpRef
import Derived.Test.YtpibdfgcfhopaaaSameFull
namespace Go.Proofs.Ytpibdfgcfhopaaa
open Go.RowKit

/-- An object that has nothing but identifier, kind, readers, writers, and bytes. -/
structure PpLike (y : Ob) (id k r u : Int) : Prop where
  num : y.id = id ∧ y.kind = k ∧ y.readers = r ∧ y.writers = u ∧ y.refs = 0 ∧ y.offset = 0 ∧ y.target = 0 ∧ y.count = 0 ∧ y.e0 = 0 ∧ y.e1 = 0
  lists : y.words.n = 0 ∧ y.backlog.n = 0 ∧ y.q0.n = 0 ∧ y.q1.n = 0 ∧ y.names.n = 0
  proc : y.NoProc
theorem noProc0 : Ob.zero.NoProc := Ob.zero_bare.2.2
theorem like_zero : PpLike Ob.zero 0 0 0 0 := ⟨⟨rfl, rfl, rfl, rfl, rfl, rfl, rfl, rfl, rfl, rfl⟩, ⟨rfl, rfl, rfl, rfl, rfl⟩, noProc0⟩
theorem like_pipe (id r u : Int) (s : Sl) : PpLike (Ob.pipe id r u s) id 5 r u := ⟨⟨rfl, rfl, rfl, rfl, rfl, rfl, rfl, rfl, rfl, rfl⟩, ⟨rfl, rfl, rfl, rfl, rfl⟩, noProc0⟩
theorem like_data {o : Ob} (h : o.Pipe) (s : Sl) : PpLike { o with data := s } o.id 5 o.readers o.writers := by
  obtain ⟨h1, _, _, _, ⟨c1, c2, c3, c4, c5⟩, hl, hp⟩ := h
  simp only [List.cons.injEq, and_true] at c4
  exact ⟨⟨rfl, h1, rfl, rfl, c1, c2, c3, c5, c4.1, c4.2⟩, hl, hp⟩
theorem same_like {y z : Ob} {a b c d : Int} (hy : PpLike y a b c d) (hz : PpLike z a b c d) {w : World} {D : List UInt8} (hD : Bytes w w.heap.size y.data.A y.data.n D) (hE : Bytes w w.heap.size z.data.A z.data.n D) :
    Calls Try.prog 16 #[.agg (oc y), .agg (oc z)] w (BoolPost true w) := by
  obtain ⟨⟨p1, p2, p3, p4, p5, p6, p7, p8, p9, p10⟩, ⟨q1, q2, q3, q4, q5⟩, hp⟩ := hy
  obtain ⟨⟨r1, r2, r3, r4, r5, r6, r7, r8, r9, r10⟩, ⟨s1, s2, s3, s4, s5⟩, hq⟩ := hz
  refine same_ob y z [] D [] [] [] w ⟨p1.trans r1.symm, p2.trans r2.symm, p5.trans r5.symm, p6.trans r6.symm, p7.trans r7.symm, p3.trans r3.symm, p4.trans r4.symm, p8.trans r8.symm, p9.trans r9.symm, p10.trans r10.symm⟩ q5 s5 ⟨?_, ?_, hD, hE, ?_, ?_, ?_, ?_, ?_, ?_, by simp⟩ fun u _ => sameProc_none _ _ hp hq u
  · rw [q1]; exact Nums.nil
  · rw [s1]; exact Nums.nil
  · rw [q3]; exact Bytes.nil
  · rw [s3]; exact Bytes.nil
  · rw [q4]; exact Bytes.nil
  · rw [s4]; exact Bytes.nil
  · rw [q2]; exact Nums.nil
  · rw [s2]; exact Nums.nil

/-- A word that is there if there is no error. -/
def Ob.ifOk (e v : Int) : Int := if e = 0 then v else 0
def Ob.rdVal (o : Ob) (D : List UInt8) : Int := if o.rdErr = 0 then Pp.val D else 0
def Ob.rdBytes (o : Ob) (D : List UInt8) : List UInt8 := if o.rdErr = 0 then D.drop 1 else []
def Ob.wrBytes (o : Ob) (D : List UInt8) (c : UInt8) : List UInt8 := if o.wrErr = 0 then D ++ [c] else []
def ReadAny (o : Ob) (D : List UInt8) (w : World) (e : Ending) (w' : World) : Prop := ∃ y, e = .returned (.tuple #[.int .i64 (o.rdVal D), .agg (oc y), .int .i64 o.rdErr]) ∧ PpLike y (Ob.ifOk o.rdErr o.id) (Ob.ifOk o.rdErr 5) (Ob.ifOk o.rdErr o.readers) (Ob.ifOk o.rdErr o.writers) ∧ Bytes w' w'.heap.size y.data.A y.data.n (o.rdBytes D) ∧ Below w.heap.size w w'
def WriteAny (o : Ob) (D : List UInt8) (c : UInt8) (w : World) (e : Ending) (w' : World) : Prop := ∃ y, e = .returned (.tuple #[.agg (oc y), .int .i64 o.wrErr]) ∧ PpLike y (Ob.ifOk o.wrErr o.id) (Ob.ifOk o.wrErr 5) (Ob.ifOk o.wrErr o.readers) (Ob.ifOk o.wrErr o.writers) ∧ Bytes w' w'.heap.size y.data.A y.data.n (o.wrBytes D c) ∧ Below w.heap.size w w'
theorem readNo_any {o : Ob} {D : List UInt8} {w w' : World} {e : Ending} (h : o.rdErr ≠ 0) (hr : ReadNo o.rdErr w e w') : ReadAny o D w e w' := by
  obtain ⟨rfl, hb⟩ := hr
  refine ⟨Ob.zero, ?_, ?_, ?_, hb⟩
  · unfold Ob.rdVal; rw [if_neg h]
  · unfold Ob.ifOk; rw [if_neg h, if_neg h, if_neg h, if_neg h]; exact like_zero
  · unfold Ob.rdBytes; rw [if_neg h]; exact Bytes.nil
theorem writeNo_any {o : Ob} {D : List UInt8} {c : UInt8} {w w' : World} {e : Ending} (h : o.wrErr ≠ 0) (hr : PageNo o.wrErr w e w') : WriteAny o D c w e w' := by
  obtain ⟨rfl, hb⟩ := hr
  refine ⟨Ob.zero, rfl, ?_, ?_, hb⟩
  · unfold Ob.ifOk; rw [if_neg h, if_neg h, if_neg h, if_neg h]; exact like_zero
  · unfold Ob.wrBytes; rw [if_neg h]; exact Bytes.nil
theorem read_any {o y : Ob} {D : List UInt8} {w w' : World} {v : Int} (h : o.rdErr = 0) (hv : v = Pp.val D) (hy : PpLike y o.id 5 o.readers o.writers) (hB : Bytes w' w'.heap.size y.data.A y.data.n (D.drop 1)) (hb : Below w.heap.size w w') : ReadAny o D w (.returned (.tuple #[.int .i64 v, .agg (oc y), .int .i64 0])) w' := by
  refine ⟨y, ?_, ?_, ?_, hb⟩
  · unfold Ob.rdVal; rw [if_pos h, hv, h]
  · unfold Ob.ifOk; rw [if_pos h, if_pos h, if_pos h, if_pos h]; exact hy
  · unfold Ob.rdBytes; rw [if_pos h]; exact hB
theorem write_any {o y : Ob} {D : List UInt8} {c : UInt8} {w w' : World} (h : o.wrErr = 0) (hy : PpLike y o.id 5 o.readers o.writers) (hB : Bytes w' w'.heap.size y.data.A y.data.n (D ++ [c])) (hb : Below w.heap.size w w') : WriteAny o D c w (.returned (.tuple #[.agg (oc y), .int .i64 0])) w' := by
  refine ⟨y, ?_, ?_, ?_, hb⟩
  · rw [h]
  · unfold Ob.ifOk; rw [if_pos h, if_pos h, if_pos h, if_pos h]; exact hy
  · unfold Ob.wrBytes; rw [if_pos h]; exact hB
theorem ppRead_any (o : Ob) (D : List UInt8) (W : World) (hD : Bytes W W.heap.size o.data.A o.data.n D) (hcap : o.data.n ≤ o.data.c) : Calls Try.prog 12 #[.agg (oc o)] W (ReadAny o D W) := by
  by_cases h : o.rdErr = 0
  · obtain ⟨hp, hn⟩ := Ob.rdErr_0 h
    cases D with
    | nil =>
      have h0 : o.data.n = 0 := hD.len.symm
      refine (ppRead_end o W hp h0 (by omega)).mono ?_
      rintro e w' ⟨rfl, hb⟩
      exact read_any h rfl (like_pipe _ _ _ _) Bytes.nil hb
    | cons x D =>
      refine (ppRead_ok o x D W hp hD hcap).mono ?_
      rintro e w' ⟨A, n, c, rfl, hown, hb⟩
      exact read_any h rfl (like_pipe _ _ _ _) (Bytes.of_own hown) hb
  · exact (ppRead_no o W h).mono fun _ _ hr => readNo_any h hr
theorem refPpRead_any (o : Ob) (D : List UInt8) (W : World) (hD : Bytes W W.heap.size o.data.A o.data.n D) (hcap : o.data.n ≤ o.data.c) : Calls Try.prog 13 #[.agg (oc o)] W (ReadAny o D W) := by
  by_cases h : o.rdErr = 0
  · obtain ⟨hp, hn⟩ := Ob.rdErr_0 h
    cases D with
    | nil =>
      have h0 : o.data.n = 0 := hD.len.symm
      refine (refPpRead_end o W hp h0 (by omega)).mono ?_
      rintro e w' ⟨rfl, hb⟩
      exact read_any h rfl (like_data hp o.data) ((hD.below hb).mono hb.size) hb
    | cons x D =>
      refine (refPpRead_ok o x D W hp hD hcap).mono ?_
      rintro e w' ⟨A, n, c, rfl, hown, hb⟩
      exact read_any h rfl (like_data hp _) (Bytes.of_own hown) hb
  · exact (refPpRead_no o W h).mono fun _ _ hr => readNo_any h hr
theorem ppWrite_any (o : Ob) (c : UInt8) (D : List UInt8) (W : World) (hD : Bytes W W.heap.size o.data.A o.data.n D) (hcap : o.data.n ≤ o.data.c) : Calls Try.prog 14 #[.agg (oc o), .int .u8 (c.toNat : Int)] W (WriteAny o D c W) := by
  by_cases h : o.wrErr = 0
  · obtain ⟨hp, hr, hn⟩ := Ob.wrErr_0 h
    refine (ppWrite_ok o c D W hp hr hn hD hcap).mono ?_
    rintro e w' ⟨A, n, k, rfl, hown, hb⟩
    exact write_any h (like_pipe _ _ _ _) (Bytes.of_own hown) hb
  · exact (ppWrite_no o c W h).mono fun _ _ hr => writeNo_any h hr
theorem refPpWrite_any (o : Ob) (c : UInt8) (D : List UInt8) (W : World) (hD : Bytes W W.heap.size o.data.A o.data.n D) : Calls Try.prog 15 #[.agg (oc o), .int .u8 (c.toNat : Int)] W (WriteAny o D c W) := by
  by_cases h : o.wrErr = 0
  · obtain ⟨hp, hr, hn⟩ := Ob.wrErr_0 h
    refine (refPpWrite_ok o c D W hp hr hn hD).mono ?_
    rintro e w' ⟨A, n, k, rfl, hown, hb⟩
    exact write_any h (like_data hp _) (Bytes.of_own hown) hb
  · exact (refPpWrite_no o c W h).mono fun _ _ hr => writeNo_any h hr
end Go.Proofs.Ytpibdfgcfhopaaa
