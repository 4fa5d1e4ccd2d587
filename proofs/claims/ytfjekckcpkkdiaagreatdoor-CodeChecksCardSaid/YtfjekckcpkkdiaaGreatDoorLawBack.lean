/- Layer 4: a program comes back from its text, also among comments (CodeBack): the walk. -/
import Derived.Test.YtfjekckcpkkdiaaGreatDoorMadeNew
import Derived.Test.YtfjekckcpkkdiaaGreatDoorLawBase
namespace Go.Proofs.YtfjekckcpkkdiaaGreatDoor
open Go.RowKit

theorem MadePr.fine {p : Cd.Pr} (h : MadePr p) : Fine p := ⟨fun x hx => by have := path_le x (by rw [← h.2.2.1]; exact hx); omega, h.good.2⟩
theorem MadePr.strs_ascii {p : Cd.Pr} (h : MadePr p) : ∀ s ∈ p.strs, Cd.Ascii s := by
  rw [h.2.2.1]
  unfold Cd.Ascii
  decide
theorem pr_self (p : Cd.Pr) : decide (p = p) = true := by simp
/-- made's answer, opened. -/
theorem MadeP.got {w w' : World} {e : Ending} (h : MadeP w e w') : ∃ A n c D m d, ∃ p : Cd.Pr, e = .returned (.agg #[.slice A n c, .slice D m d, .int .i64 p.pages]) ∧ MadePr p ∧ Inss w' w'.heap.size A n p.code ∧ Strs w' w'.heap.size D m p.strs ∧ n ≤ 120 ∧ m ≤ 8 ∧ Below w.heap.size w w' := by
  obtain ⟨A, n, c, D, m, d, p, he, ⟨h1, h2⟩, hp, hb⟩ := h
  refine ⟨A, n, c, D, m, d, p, he, hp, h1, h2, ?_, ?_, hb⟩
  · have := h1.len; have := hp.2.1; omega
  · have := h2.len; rw [hp.2.2.1] at this; have e8 : pathL.length = 8 := rfl; omega

set_option maxRecDepth 100000 in
set_option maxHeartbeats 4000000 in
theorem codeBack_any (S : Option Addr) (q r : Nat) (l : List UInt8) (W : World) (h : Bytes W W.heap.size S q l) (hq : q ≤ r ∧ r ≤ 9223372036854775807) (hL : Laid W) (hO : LaidO W) :
    Calls Tryz.prog 5 #[.slice S q r] W fun e w' => e = .returned (.bool true) ∧ Below W.heap.size W w' := by
  have HE := hide (Env.start hL hO)
  have HS := hide h
  clear hL hO h
  go_enter Tryz.func5, Tryz.ntmps5
  go_wp2_with fail
  refine (sane_any _ HE.out.laid HE.out.ops HE.out.tab).mono ?_
  rintro e w1 ⟨rfl, hb⟩
  have HE1 := hide (HE.out.next hb)
  have HS1 := hide (HS.out.below hb)
  clear hb HE HS
  go_wp2_with fail
  refine (made_any S q r _ l w1 HS1.out HE1.out.bel.size hq).mono ?_
  rintro e w2 h
  obtain ⟨A, n, c, D, m, d, p, rfl, hp, hi, hs, hn, hm, hb⟩ := h.got
  have HG := hide hp.good
  have HF := hide hp.fine
  have HE2 := hide ((HE1.out.next hb).alloc (.cells #[.slice A n c, .slice D m d, .int .i64 p.pages] 25))
  have HP2 := hide (Held.make (c := c) (d := d) hi hs (by omega) (by omega))
  clear hb hi hs HE1 HS1 h hp
  go_wp2_with fail
  generalize w2.alloc (.cells #[.slice A n c, .slice D m d, .int .i64 p.pages] 25) = w3 at *
  generalize w2.heap.size = g at *
  refine (format_held HP2.out HF.out HE2.out.ops HE2.out.tab).mono ?_
  rintro e w4 h
  obtain ⟨rfl, hb⟩ := h.got (Cd.format_ok HG.out.1)
  have HE4 := hide (HE2.out.next hb)
  have HP4 := hide (HP2.out.below hb)
  clear h hb HE2 HP2
  have hTl := Cd.text_le HG.out
  obtain ⟨T, hT⟩ : ∃ T : ByteArray, T = ⟨(Cd.text p).toArray⟩ := ⟨_, rfl⟩
  rw [← hT]
  have hTs : T.size ≤ 60000 := by rw [hT, ba_size]; exact hTl
  have HT : Hid (T.data.toList = Cd.text p) := hide (by rw [hT])
  clear hT hTl
  go_wp2_with fail
  refine (parse4_any T w4 (by omega) HE4.out.laid HE4.out.ops).mono ?_
  rintro e w5 h
  obtain ⟨A', n', c', D', m', d', rfl, ⟨hi, hs⟩, ⟨hn', hm'⟩, hb⟩ := h.got (p := p) (i := 0) (er := 0) (by rw [HT.out]; exact Cd.parse_text HG.out)
  have HE5 := hide ((HE4.out.next hb).alloc (.cells #[.slice A' n' c', .slice D' m' d', .int .i64 p.pages] 25))
  have HQ5 := hide (Held.make (c := c') (d := d') hi hs hn' hm')
  have HP5 := hide ((HP4.out.below hb).alloc (.cells #[.slice A' n' c', .slice D' m' d', .int .i64 p.pages] 25))
  clear hb hi hs h HE4 HP4 hn' hm'
  go_wp2_with fail
  generalize w5.alloc (.cells #[.slice A' n' c', .slice D' m' d', .int .i64 p.pages] 25) = w6 at *
  generalize w5.heap.size = g' at *
  have hU : ((⟨#[35, 32, 97, 32, 112, 114, 111, 103, 114, 97, 109, 10, 10]⟩ ++ T ++ ⟨#[35, 32, 101, 110, 100]⟩ : ByteArray)).data.toList = (Cd.headC ++ [10, 10]) ++ Cd.text p ++ Cd.endC := by
    rw [← HT.out]
    simp [Cd.headC, Cd.endC]
  have hUs : ((⟨#[35, 32, 97, 32, 112, 114, 111, 103, 114, 97, 109, 10, 10]⟩ ++ T ++ ⟨#[35, 32, 101, 110, 100]⟩ : ByteArray)).size ≤ 61000 := by
    rw [Lib.size_eq] at hTs ⊢
    rw [hU, ← HT.out]
    simp only [List.length_append, Cd.headC, Cd.endC, List.length_cons, List.length_nil]
    omega
  have HU := hide hU
  clear hU
  generalize ((⟨#[35, 32, 97, 32, 112, 114, 111, 103, 114, 97, 109, 10, 10]⟩ ++ T ++ ⟨#[35, 32, 101, 110, 100]⟩ : ByteArray)) = U at *
  refine (parse4_any U w6 (by omega) HE5.out.laid HE5.out.ops).mono ?_
  rintro e w7 h
  obtain ⟨A9, n9, c9, D9, m9, d9, rfl, ⟨hi, hs⟩, ⟨hn9, hm9⟩, hb⟩ := h.got (p := p) (i := 0) (er := 0) (by rw [HU.out]; exact Cd.parse_around HG.out)
  have HE7 := hide ((HE5.out.next hb).alloc (.cells #[.slice A9 n9 c9, .slice D9 m9 d9, .int .i64 p.pages] 25))
  have HR7 := hide (Held.make (c := c9) (d := d9) hi hs hn9 hm9)
  have HQ7 := hide ((HQ5.out.below hb).alloc (.cells #[.slice A9 n9 c9, .slice D9 m9 d9, .int .i64 p.pages] 25))
  have HP7 := hide ((HP5.out.below hb).alloc (.cells #[.slice A9 n9 c9, .slice D9 m9 d9, .int .i64 p.pages] 25))
  have k0 := HP7.out.c0
  have k1 := HP7.out.c1
  have k2 := HP7.out.c2
  have q0 := HQ7.out.c0
  have q1 := HQ7.out.c1
  have q2 := HQ7.out.c2
  clear hb hi hs h HE5 HP5 HQ5 hn9 hm9
  go_wp2_with fail
  refine (same_held HP7.out HQ7.out).mono ?_
  rintro e w8 ⟨rfl, hb⟩
  rw [pr_self]
  have HE8 := hide (HE7.out.next hb)
  have HP8 := hide (HP7.out.below hb)
  have HR8 := hide (HR7.out.below hb)
  clear hb HE7 HP7 HQ7 HR7 k0 k1 k2 q0 q1 q2
  have k0 := HP8.out.c0
  have k1 := HP8.out.c1
  have k2 := HP8.out.c2
  have q0 := HR8.out.c0
  have q1 := HR8.out.c1
  have q2 := HR8.out.c2
  go_wp2_with fail
  refine (same_held HP8.out HR8.out).mono ?_
  rintro e w9 ⟨rfl, hb⟩
  rw [pr_self]
  have HE9 := hide (HE8.out.next hb)
  clear hb
  go_wp2
  go_ret
  exact ⟨rfl, HE9.out.bel⟩
end Go.Proofs.YtfjekckcpkkdiaaGreatDoor
