/- Layer 17: the answers of a device tell what it was asked before (DeviceTells): the walk. -/
import Derived.Test.YtddbohnappogkaaDvLaw
import Derived.Deep.CutBlock
namespace Go.Proofs.Ytddbohnappogkaa
open Go.RowKit

/-- Block m is the device 9 with the count s. -/
structure DevAt (W w : World) (m : Nat) (s : Int) : Prop where
  ob : Obl w m 41 (oc (Ob.dev 9 s))
  low : W.heap.size ≤ m
  below : Below W.heap.size W w
theorem DevAt.later {W w w' : World} {m : Nat} {s : Int} (h : DevAt W w m s) (hb : Below w.heap.size w w') : DevAt W w' m s := ⟨h.ob.below hb h.ob.lt, h.low, h.below.trans (hb.mono h.below.size)⟩
theorem DevAt.turn {W w : World} {m : Nat} {s : Int} (h : DevAt W w m s) (k : Int) : DevAt W (w.setRow m (oc (Ob.dev 9 k))) m k := ⟨h.ob.row_same _, h.low, below_row h.below h.low _⟩

set_option maxRecDepth 100000 in
set_option maxHeartbeats 8000000 in
theorem deviceTells_any (S : Option Addr) (q r : Nat) (l : List Int) (W : World) (hS : Nums .i64 W W.heap.size S q l) (hq : q ≤ 9223372036854775807) :
    Calls Try.prog 4 #[.slice S q r] W (BoolPost true W) := by
  have HS := hide hS
  clear hS
  go_enter Try.func4, Try.ntmps4
  try dsimp only [List.append]
  go_wp2_with fail
  refine (dvSane_any _).mono ?_
  rintro e w1 ⟨rfl, hb1⟩
  by_cases h50 : q ≤ 50
  · have h50' : ¬ (50 : Int) < (q : Int) := by omega
    go_wp2_with fail
    refine (dvNew_any 9 _).mono ?_
    rintro e w2 ⟨rfl, hb2⟩
    obtain ⟨w3, hw3, m, hm, w4, hw4, OZ, OM, hb4, hs4⟩ := laid_ob (Ob.dev 9 0) w2
    have hmW : W.heap.size ≤ m := by have := hb1.size; have := hb2.size; omega
    have HK : Hid (DevAt W w4 m 0) := hide ⟨OM, hmW, hb1.trans ((hb2.trans (hb4.mono hb2.size)).mono hb1.size)⟩
    clear hb1 hb2 hb4 OM
    go_wp2_with (first | (refine store_ob rfl _ _ rfl rfl (c := Ob.dev 9 0) rfl OZ rfl ?_; rw [hw4]) | fail)
    clear OZ hw4 hw3 hm hs4 hmW
    go_loopw [18, 4] (fun s18 s4 wr => ∃ (k : Nat) (s : Int), s18 = .int .i64 (k : Int) ∧ s4 = .int .i64 s ∧ k ≤ q ∧ Hid (DevAt W wr m s)) (fun s18 _ _ => q - (intOf s18).toNat)
    case atStart => exact ⟨0, 0, rfl, rfl, by omega, HK⟩
    case round =>
      clear HK
      obtain ⟨k, s, rfl, rfl, hk, HK⟩ := hrel
      by_cases hlt : k < q
      · have hlt' : (k : Int) < (q : Int) := by omega
        obtain ⟨b, f, hl, rfl, hbb, hcc⟩ := HS.out.at_ hlt
        have hc' : wr.cell? ⟨b, f + k, none⟩ = some (.int .i64 l[k]) := (HK.out.below.cell (p := ⟨b, f + k, none⟩) hbb).trans hcc
        generalize l[k] = a at *
        clear hcc
        have O := HK.out.ob
        obtain ⟨n2, hn2⟩ : ∃ n2, IntKind.i64.wrap (s + a) = n2 := ⟨_, rfl⟩
        go_wp2_with (first | (refine load_ob rfl _ rfl rfl O ?_) | fail)
        refine (dvDo_ok (id := 9) (n := s) (v := a) (by decide) _).mono ?_
        rintro e w6 ⟨rfl, hb6⟩
        rw [hn2]
        obtain ⟨w7, hw7, g, hg, w8, hw8, OZ, ON, hb8, hs8⟩ := laid_ob (Ob.dev 9 n2) w6
        have HK2 := hide ((HK.out.later (hb6.trans (hb8.mono hb6.size))).turn n2)
        have O8 := O.below (hb6.trans (hb8.mono hb6.size)) O.lt
        clear hb6 hb8 HK O
        go_wp2_with (first | (refine store_ob rfl _ _ rfl rfl (c := Ob.dev 9 n2) rfl OZ rfl ?_; rw [hw8]) | (refine load_ob rfl _ rfl rfl ON ?_) | (refine store_ob rfl _ _ rfl rfl (c := Ob.dev 9 n2) rfl O8 rfl ?_) | fail)
        go_roundw
        case rel => exact ⟨k + 1, n2, by go_num, rfl, by omega, HK2⟩
        case measure => simp [intOf]; omega
      · have hlt' : ¬ (k : Int) < (q : Int) := by omega
        have k34 : wr.cell? ⟨m, 34, none⟩ = some (.int .i64 s) := HK.out.ob.cell 34
        go_wp2_with fail
        go_ret
        exact ⟨by simp, HK.out.below⟩
  · have h50' : (50 : Int) < (q : Int) := by omega
    go_wp2_with fail
    go_ret
    exact ⟨rfl, hb1⟩
end Go.Proofs.Ytddbohnappogkaa
