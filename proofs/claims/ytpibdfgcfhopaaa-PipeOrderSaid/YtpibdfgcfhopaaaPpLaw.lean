/- Layer 11, what the laws share: pipes laid in blocks, the sanity check. -/
import Derived.Test.YtpibdfgcfhopaaaPpOps
namespace Go.Proofs.Ytpibdfgcfhopaaa
open Go.RowKit

/-- Block m is the pipe id with r readers and u writers, whose bytes are D. -/
structure PpAt (w : World) (m : Nat) (id r u : Int) (A : Option Addr) (n c : Nat) (D : List UInt8) : Prop where
  ob : Obl w m 41 (oc (Ob.pipe id r u ⟨A, n, c⟩))
  data : Bytes w w.heap.size A n D
  cap : n ≤ c
theorem PpAt.below {w w' : World} {m : Nat} {id r u : Int} {A : Option Addr} {n c : Nat} {D : List UInt8} (h : PpAt w m id r u A n c D) (hb : Below w.heap.size w w') : PpAt w' m id r u A n c D := ⟨h.ob.below hb h.ob.lt, (h.data.below hb).mono hb.size, h.cap⟩
theorem pipe_rdErr {id r u : Int} {s : Sl} (hp : (Ob.pipe id r u s).Pipe) : (Ob.pipe id r u s).rdErr = if s.n = 0 ∧ 0 < u then 12 else 0 := by unfold Ob.rdErr; rw [if_pos hp]; rfl
theorem pipe_wrErr {id r u : Int} {s : Sl} (hp : (Ob.pipe id r u s).Pipe) : (Ob.pipe id r u s).wrErr = if r = 0 then 13 else if 64 ≤ s.n then 12 else 0 := by unfold Ob.wrErr; rw [if_pos hp]; rfl

set_option maxRecDepth 100000 in
set_option maxHeartbeats 4000000 in
theorem ppSane_any (W : World) : Calls Try.prog 6 #[] W (BoolPost true W) := by
  have p0 : (Ob.pipe 3 1 1 ⟨none, 0, 0⟩).Pipe := pipe_pipe (by decide) (by decide) (by decide)
  have e0 : (Ob.pipe 3 1 1 ⟨none, 0, 0⟩).rdErr = 12 := by rw [pipe_rdErr p0]; rfl
  have HP0 := hide p0
  have HE0 := hide e0
  clear p0 e0
  go_enter Try.func6, Try.ntmps6
  try dsimp only [List.append]
  go_wp2_with fail
  refine (ppNew_any 3 _).mono ?_
  rintro e w1 ⟨rfl, hb1⟩
  obtain ⟨w2, hw2, m, hm, w3, hw3, OZ, OM, hb3, hs3⟩ := laid_ob (Ob.pipe 3 1 1 ⟨none, 0, 0⟩) w1
  have HB3 := hide (hb1.trans (hb3.mono hb1.size))
  clear hb1 hb3
  go_wp2_with (first | (refine store_ob rfl _ _ rfl rfl (c := Ob.pipe 3 1 1 ⟨none, 0, 0⟩) rfl OZ rfl ?_; rw [hw3]) | (refine load_ob rfl _ rfl rfl OM ?_) | fail)
  refine (ppRead_no (Ob.pipe 3 1 1 ⟨none, 0, 0⟩) _ (by rw [HE0.out]; decide)).mono ?_
  rintro e w4 ⟨rfl, hb4⟩
  rw [HE0.out]
  replace OM := OM.below hb4 OM.lt
  have HB4 := hide (HB3.out.trans (hb4.mono HB3.out.size))
  clear hb4 HB3 OZ hw2 hw3 hm hs3
  obtain ⟨w5, hw5, g5, hg5, w6, hw6, OZ5, _, hb6, hs6⟩ := laid_ob Ob.zero w4
  replace OM := OM.below hb6 OM.lt
  have HB6 := hide (HB4.out.trans (hb6.mono HB4.out.size))
  clear hb6 HB4
  go_wp2_with (first | (refine store_ob rfl _ _ rfl rfl (c := Ob.zero) rfl OZ5 rfl ?_; rw [hw6]) | (refine load_ob rfl _ rfl rfl OM ?_) | fail)
  refine (ppWrite_ok (Ob.pipe 3 1 1 ⟨none, 0, 0⟩) 7 [] _ HP0.out (by decide) (by decide) Bytes.nil (by decide)).mono ?_
  rintro e w7 ⟨A, n, c, rfl, hown, hb7⟩
  replace OM := OM.below hb7 OM.lt
  have hcap := own_cap hown
  have hD := Bytes.of_own hown
  obtain rfl : n = 1 := hD.len.symm
  obtain ⟨w8, hw8, g8, hg8, w9, hw9, OZ8, ON, hb9, hs9⟩ := laid_ob (Ob.pipe 3 1 1 ⟨A, 1, c⟩) w7
  replace OM := OM.below hb9 OM.lt
  have hD9 := hide ((hD.below hb9).mono hb9.size)
  have HB9 := hide (HB6.out.trans ((hb7.trans (hb9.mono hb7.size)).mono HB6.out.size))
  have p1 : (Ob.pipe 3 1 1 ⟨A, 1, c⟩).Pipe := pipe_pipe (by decide) (by decide) (by show 1 ≤ 64; omega)
  have HP1 := hide p1
  clear hb7 hb9 hown hD p1 HB6 OZ5 hw5 hw6 hg5 hs6
  go_wp2_with (first | (refine store_ob rfl _ _ rfl rfl (c := Ob.pipe 3 1 1 ⟨A, 1, c⟩) rfl OZ8 rfl ?_; rw [hw9]) | (refine load_ob rfl _ rfl rfl ON ?_) | fail)
  refine (ppRead_ok (Ob.pipe 3 1 1 ⟨A, 1, c⟩) 7 [] _ HP1.out hD9.out hcap).mono ?_
  rintro e w10 ⟨A2, n2, c2, rfl, hown2, hb10⟩
  replace OM := OM.below hb10 OM.lt
  obtain rfl : n2 = 0 := by have := (Bytes.of_own hown2).len; simpa using this.symm
  obtain ⟨w11, hw11, g11, hg11, w12, hw12, OZ11, OL, hb12, hs12⟩ := laid_ob (Ob.pipe 3 1 1 ⟨A2, 0, c2⟩) w10
  replace OM := OM.below hb12 OM.lt
  have HB12 := hide (HB9.out.trans ((hb10.trans (hb12.mono hb10.size)).mono HB9.out.size))
  have k24 : w12.cell? ⟨g11, 24, none⟩ = some (.slice A2 0 c2) := OL.cell 24
  clear hb10 hb12 hown2 HB9 OZ8 hw8 hw9 hg8 hs9 hD9 ON hcap
  go_wp2_with (first | (refine store_ob rfl _ _ rfl rfl (c := Ob.pipe 3 1 1 ⟨A2, 0, c2⟩) rfl OZ11 rfl ?_; rw [hw12]) | (refine wpList_val (by rfl) (exec_load_ob rfl rfl OM) ?_) | (go_at_call 17; refine (ppValid_any _ _).mono ?_; rintro e w13 ⟨rfl, hb13⟩; rw [decide_eq_true HP0.out]) | fail)
  go_ret
  exact ⟨rfl, HB12.out.trans (hb13.mono HB12.out.size)⟩
end Go.Proofs.Ytpibdfgcfhopaaa
