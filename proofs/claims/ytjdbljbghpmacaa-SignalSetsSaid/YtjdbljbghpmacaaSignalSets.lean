/- Layer 14: after any signals exactly those are pending that were raised (SignalSets): the walk. -/
import Derived.Test.YtjdbljbghpmacaaSgLaw
import Derived.Deep.CutBlock
namespace Go.Proofs.Ytjdbljbghpmacaa
open Go.RowKit

/-- What the process is after some signals. -/
def killed (b : Bool) (v : Int) : Ob := Ob.proc (if b then 2 else 1) v 0 (if b then -9 else 0)
theorem killed_nine (b : Bool) (v : Int) : Ob.proc (stSt (if b then 2 else 1) 9) (stPd v 9) 0 (stSu (if b then 2 else 1) (if b then -9 else 0) 9) = killed true v := by cases b <;> rfl
theorem killed_other (b : Bool) (v : Int) {s : Int} (h : s ≠ 9) : Ob.proc (stSt (if b then 2 else 1) s) (stPd v s) 0 (stSu (if b then 2 else 1) (if b then -9 else 0) s) = killed b (sgOr v s) := by
  cases b <;> simp [stSt, stPd, stSu, killed, h]
set_option maxRecDepth 100000 in
set_option maxHeartbeats 8000000 in
theorem signalSets_any (S : Option Addr) (q r : Nat) (l : List UInt8) (W : World) (hS : Bytes W W.heap.size S q l) (hq : q ≤ 9223372036854775807) :
    Calls Try.prog 5 #[.slice S q r] W (BoolPost true W) := by
  have HS := hide hS
  clear hS
  go_enter Try.func5, Try.ntmps5
  try dsimp only [List.append]
  go_wp2_with fail
  refine (sgSane_any _).mono ?_
  rintro e w1 ⟨rfl, hb1⟩
  have HB1 := hide hb1
  clear hb1
  obtain ⟨w3, hw3, m, hm, w4, hw4, OZ, OM, hb4, hs4⟩ := laid_pp (Ob.proc 1 0 0 0) w1
  have hmW : W.heap.size ≤ m := by have := HB1.out.size; omega
  have HB4 := hide (HB1.out.trans (hb4.mono HB1.out.size))
  clear hb4 HB1
  go_upto_block 0 with (first | (refine wpList_val (by rfl) (exec_build (t := 34) (vs := [(0, .int .i64 1)]) rfl rfl (built_proc 1)) ?_) | (refine store_proc rfl _ _ rfl rfl (c := Ob.proc 1 0 0 0) rfl OZ rfl ?_; rw [hw4]) | fail)
  clear OZ hw4 hw3 hm hs4
  go_cut [4, 5] from 6 to 72 (fun s4 s5 wx => ∃ (b : Bool) (v : Int) (a : Ob), s4 = .int .i64 v ∧ s5 = .bool b ∧ Obl wx m 34 (pcell a) ∧ Hid (Plain a (killed b v)) ∧ Hid (Below W.heap.size W wx))
  case first =>
    go_wp2_with fail
    go_loopw [18, 4, 5] (fun s18 s4 s5 wr => ∃ (k : Nat) (b : Bool) (v : Int) (a : Ob), s18 = .int .i64 (k : Int) ∧ s4 = .int .i64 v ∧ s5 = .bool b ∧ k ≤ q ∧ k ≤ 40 ∧ Obl wr m 34 (pcell a) ∧ Hid (Plain a (killed b v)) ∧ Hid (Below W.heap.size W wr)) (fun s18 _ _ _ => q - (intOf s18).toNat)
    case atStart => exact ⟨0, false, 0, _, rfl, rfl, rfl, by omega, by omega, OM, hide (Plain.proc 1 0 0 0), HB4⟩
    case round =>
      clear OM HB4
      obtain ⟨k, b, v, a, rfl, rfl, rfl, hk, hk2, OM, HP, HB⟩ := hrel
      by_cases hlt : k < q
      · have hlt' : (k : Int) < (q : Int) := by omega
        obtain ⟨bk, f, hl, rfl, hbb, hcc⟩ := HS.out.at_ hlt
        have hc' : wr.cell? ⟨bk, f + k, none⟩ = some (.int .u8 (l[k].toNat : Int)) := (HB.out.cell (p := ⟨bk, f + k, none⟩) hbb).trans hcc
        have ha : l[k].toNat < 256 := l[k].toNat_lt
        generalize l[k].toNat = x at *
        clear hcc
        by_cases h2 : k < 40
        · have h2' : ¬ (40 : Int) ≤ (k : Int) := by omega
          obtain ⟨s, hs⟩ : ∃ s, (1 : Int) + (x : Int) % 31 = s := ⟨_, rfl⟩
          have hs1 : 1 ≤ s ∧ s ≤ 31 := by omega
          have HS1 := hide hs1
          have hs2 := hs1.1
          have hs3 := hs1.2
          clear hs1
          go_wp2_with (first | (refine load_proc0 rfl _ rfl rfl OM ?_) | fail)
          refine (sgRaise_plain HP.out HS1.out (by cases b <;> simp)).mono ?_
          rintro e w6 ⟨y, rfl, LY, hb6⟩
          have HY := hide LY
          obtain ⟨w7, hw7, g, hg, w8, hw8, OG, ON, hb8, hs8⟩ := laid_pp y w6
          have OM8 := OM.below (hb6.trans (hb8.mono hb6.size)) OM.lt
          have HB8 := hide (below_row (HB.out.trans ((hb6.trans (hb8.mono hb6.size)).mono HB.out.size)) hmW (pcell y))
          have OM9 := OM8.row_same (pcell y)
          clear hb6 hb8 HB OM LY hs hs8 HP
          by_cases h9 : s = 9
          · subst h9
            rw [killed_nine] at HY
            go_wp2_with (first | (refine store_proc rfl _ _ rfl rfl (c := y) rfl OG rfl ?_; rw [hw8]) | (refine load_proc0 rfl _ rfl rfl ON ?_) | (refine store_proc rfl _ _ rfl rfl (c := y) rfl OM8 rfl ?_) | fail)
            go_roundw
            case rel => exact ⟨k + 1, true, v, y, by go_num, rfl, rfl, by omega, by omega, OM9, HY, HB8⟩
            case measure => simp [intOf]; omega
          · have b9 : (s == 9) = false := by simpa using h9
            rw [killed_other b v h9] at HY
            clear h9
            go_wp2_with (first | (refine store_proc rfl _ _ rfl rfl (c := y) rfl OG rfl ?_; rw [hw8]) | (refine load_proc0 rfl _ rfl rfl ON ?_) | (refine store_proc rfl _ _ rfl rfl (c := y) rfl OM8 rfl ?_) | fail)
            go_roundw
            case rel => exact ⟨k + 1, b, sgOr v s, y, by go_num, rfl, rfl, by omega, by omega, OM9, HY, HB8⟩
            case measure => simp [intOf]; omega
        · have h2' : (40 : Int) ≤ (k : Int) := by omega
          go_wp2_with fail
          go_meet
          case rel => exact ⟨b, v, a, rfl, rfl, OM, HP, HB⟩
      · have hlt' : ¬ (k : Int) < (q : Int) := by omega
        go_wp2_with fail
        go_meet
        case rel => exact ⟨b, v, a, rfl, rfl, OM, HP, HB⟩
  case rest =>
    clear OM HB4
    obtain ⟨b, v, a, rfl, rfl, OM, HP, HB⟩ := hcut
    go_wp2_with (first | (refine load_proc0 rfl _ rfl rfl OM ?_) | fail)
    refine (sgTake_plain HP.out).mono ?_
    rintro e w6 ⟨y, rfl, LY, hb6⟩
    obtain ⟨w7, hw7, g, hg, w8, hw8, OG, ON, hb8, hs8⟩ := laid_pp y w6
    have HB8 := hide (HB.out.trans ((hb6.trans (hb8.mono hb6.size)).mono HB.out.size))
    obtain ⟨ka, kb, _, kd⟩ := LY.cells ON
    clear hb6 hb8 LY hs8
    cases b
    all_goals
      go_wp2_with (first | (refine store_proc rfl _ _ rfl rfl (c := y) rfl OG rfl ?_; rw [hw8]) | fail)
      go_ret
      exact ⟨by simp, HB8.out⟩
end Go.Proofs.Ytjdbljbghpmacaa
