/- Objects that have nothing but identifier, kind and count are the same. -/
import Derived.Test.YtddbohnappogkaaSmMath
import Derived.Test.YtddbohnappogkaaSameFull
namespace Go.Proofs.Ytddbohnappogkaa
open Go.RowKit

theorem same_smlike {y z : Ob} {a b c : Int} (hy : SmLike y a b c) (hz : SmLike z a b c) (w : World) :
    Calls Try.prog 12 #[.agg (oc y), .agg (oc z)] w (BoolPost true w) := by
  obtain ⟨⟨n1, n2, n3⟩, ⟨p1, p2, p3, p4, p5, p6⟩, ⟨q1, q2, q3, q4, q5, q6⟩, hp⟩ := hy
  obtain ⟨⟨m1, m2, m3⟩, ⟨r1, r2, r3, r4, r5, r6⟩, ⟨s1, s2, s3, s4, s5, s6⟩, hq⟩ := hz
  simp only [List.cons.injEq, and_true] at p6 r6
  refine same_ob y z [] [] [] [] [] w ⟨n1.trans m1.symm, n2.trans m2.symm, p1.trans r1.symm, p2.trans r2.symm, p3.trans r3.symm, p4.trans r4.symm, p5.trans r5.symm, n3.trans m3.symm, p6.1.trans r6.1.symm, p6.2.trans r6.2.symm⟩ q4 s4 ⟨?_, ?_, ?_, ?_, ?_, ?_, ?_, ?_, ?_, ?_, by simp⟩ fun u _ => sameProc_none _ _ hp hq u
  · rw [q1]; exact Nums.nil
  · rw [s1]; exact Nums.nil
  · rw [q2]; exact Bytes.nil
  · rw [s2]; exact Bytes.nil
  · rw [q5]; exact Bytes.nil
  · rw [s5]; exact Bytes.nil
  · rw [q6]; exact Bytes.nil
  · rw [s6]; exact Bytes.nil
  · rw [q3]; exact Nums.nil
  · rw [s3]; exact Nums.nil
/-- A number that is there if there is no error. -/
def ifOk (r v : Int) : Int := if r = 0 then v else 0
theorem like_ok {y : Ob} {id n : Int} (r : Int) (h : r = 0 → SmLike y id 8 n) : SmLike (okOb r y) (ifOk r id) (ifOk r 8) (ifOk r n) := by
  unfold okOb ifOk
  by_cases h0 : r = 0
  · simp only [if_pos h0]; exact h h0
  · simp only [if_neg h0]; exact like_none
end Go.Proofs.Ytddbohnappogkaa
