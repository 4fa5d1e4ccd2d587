/- PackGets: for every input and every offset the program's numbers and bytes, or the error, are the document's. No condition. -/
import Derived.Test.YtgjomhcnncdfkaaPackGetB
import Derived.Test.YtgjomhcnncdfkaaPackPuts
namespace Go.Proofs.Ytgjomhcnncdfkaa
open Go.RowKit

set_option maxHeartbeats 1000000 in
theorem packGets_any (A : Option Addr) (n c : Nat) (l : List UInt8) (p : Int) (w : World) (hr : Bytes w w.heap.size A n l) (hc : n ≤ c) (hcm : c ≤ 9223372036854775807) (h1 : -9223372036854775808 ≤ p) (h2 : p ≤ 9223372036854775807) :
    Calls Try.prog 4 #[.slice A n c, .int .i64 p] w fun e w' => e = .returned (.bool true) ∧ Below w.heap.size w w' := by
  rcases (show 300 < n ∨ n ≤ 300 by omega) with h | h
  · have hd1 : decide ((300 : Int) < (n : Int)) = true := by simp; omega
    go_enter Try.func4, Try.ntmps4
    go_wp2_with fail
    refine (sane_any _).mono ?_
    rintro e w1 ⟨rfl, hb1⟩
    go_wp2_with fail
    go_ret
    exact ⟨rfl, hb1⟩
  · have hd1 : decide ((300 : Int) < (n : Int)) = false := by simp; omega
    go_enter Try.func4, Try.ntmps4
    go_wp2_with fail
    refine (sane_any _).mono ?_
    rintro e w1 ⟨rfl, hb1⟩
    have hr1 := (hr.below hb1).mono hb1.size
    go_wp2_with fail
    refine (getInt_any A n c l p _ w1.heap.size hr1 (by omega) h1 h2).mono ?_
    rintro e w' ⟨rfl, rfl⟩
    go_wp2_with fail
    refine (refGetInt_any A n c l p _ w1.heap.size hr1 (by omega) h1 h2).mono ?_
    rintro e w' ⟨rfl, rfl⟩
    go_wp2_with fail
    refine (getBytes_any A n c l p _ hr1 hc hcm (by omega) h1 h2).mono ?_
    rintro e w2 ⟨X, xn, xc, rfl, -, -, hx, hl2⟩
    go_wp2_with fail
    refine (refGetBytes_any A n c l p _ ((hr1.below hl2).mono hl2.size) hc hcm (by omega) h1 h2).mono ?_
    rintro e w3 ⟨Y, yn, yc, rfl, -, -, hy, hl3⟩
    have hcx := string_conv w3 (c := xc) (hx.below hl3)
    have hcy := string_conv w3 (c := yc) hy
    go_wp2_with fail
    go_ret
    exact ⟨rfl, hb1.trans (Below.mono (Later.trans hl2 hl3) hb1.size)⟩
end Go.Proofs.Ytgjomhcnncdfkaa
