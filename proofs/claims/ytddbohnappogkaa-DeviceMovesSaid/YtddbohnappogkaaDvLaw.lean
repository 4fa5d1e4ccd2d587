/- Layer 17, what the laws share: the sanity check; numbers that came in. -/
import Derived.Test.YtddbohnappogkaaDvOps
import Derived.Test.YtddbohnappogkaaCameB
namespace Go.Proofs.Ytddbohnappogkaa
open Go.ChangeShapes Go.WideShapes Go.ChangeAt Go.RowKit

theorem dvI64Cells : Try.prog.cellsOf 2 = 1 := by kernel_rfl
/-- A slice of numbers that came in. -/
theorem ints_came {H : Type} {enc : TypeId × Value → H} {W : World} {base : Nat} {sp : Nat → Bool} {held : Bool} {fuel : Nat} {A : Option Addr} {n c : Nat} {x : DataW H × List MemPlace}
    (h : DataW.trod enc Try.prog W base sp held fuel 35 [.slice A n c] = some x) : ∃ l, Nums .i64 W W.heap.size A n l ∧ (∀ v ∈ l, (Lit.int .i64 v).wf = true) ∧ n ≤ c ∧ c ≤ 9223372036854775807 := slice_came Try.underlying35 Try.underlying2 dvI64Cells h

set_option maxRecDepth 100000 in
set_option maxHeartbeats 4000000 in
theorem dvSane_any (W : World) : Calls Try.prog 5 #[] W (BoolPost true W) := by
  have HP := hide (dev_dev (id := 3) (n := 5) (by decide))
  go_enter Try.func5, Try.ntmps5
  try dsimp only [List.append]
  go_wp2_with fail
  refine (dvNew_any 3 _).mono ?_
  rintro e w1 ⟨rfl, hb1⟩
  go_wp2_with fail
  refine (dvDo_ok (id := 3) (n := 0) (v := 5) (by decide) _).mono ?_
  rintro e w2 ⟨rfl, hb2⟩
  rw [show IntKind.i64.wrap (0 + 5) = 5 from rfl]
  obtain ⟨w3, hw3, m, hm, w4, hw4, OZ, OM, hb4, hs4⟩ := laid_ob (Ob.dev 3 5) w2
  have HB4 := hide (hb1.trans (((hb2.trans (hb4.mono hb2.size))).mono hb1.size))
  clear hb1 hb2 hb4
  go_wp2_with (first | (refine store_ob rfl _ _ rfl rfl (c := Ob.dev 3 5) rfl OZ rfl ?_; rw [hw4]) | (refine load_ob rfl _ rfl rfl OM ?_) | fail)
  refine (dvDo_ok (id := 3) (n := 5) (v := 5) (by decide) _).mono ?_
  rintro e w5 ⟨rfl, hb5⟩
  rw [show IntKind.i64.wrap (5 + 5) = 10 from rfl]
  replace OM := OM.below hb5 OM.lt
  clear OZ hw3 hw4 hm hs4
  obtain ⟨w6, hw6, m6, hm6, w7, hw7, OZ, _, hb7, hs7⟩ := laid_ob (Ob.dev 3 10) w5
  replace OM := OM.below hb7 OM.lt
  have HB7 := hide (HB4.out.trans ((hb5.trans (hb7.mono hb5.size)).mono HB4.out.size))
  clear hb5 hb7 HB4
  go_wp2_with (first | (refine store_ob rfl _ _ rfl rfl (c := Ob.dev 3 10) rfl OZ rfl ?_; rw [hw7]) | (refine wpList_val (by rfl) (exec_load_ob rfl rfl OM) ?_) | (go_at_call 13; refine (dvValid_any _ _).mono ?_; rintro e w13 ⟨rfl, hb13⟩; rw [decide_eq_true HP.out]) | fail)
  go_ret
  exact ⟨rfl, HB7.out.trans (hb13.mono HB7.out.size)⟩
end Go.Proofs.Ytddbohnappogkaa
