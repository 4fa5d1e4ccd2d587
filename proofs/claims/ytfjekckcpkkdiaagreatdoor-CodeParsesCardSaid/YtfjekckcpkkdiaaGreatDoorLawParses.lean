/- Layer 4: the program of every text, or the line and the error (CodeParses): the walk. -/
import Derived.Test.YtfjekckcpkkdiaaGreatDoorLawBack
import Derived.Test.YtfjekckcpkkdiaaGreatDoorCodeRefParse
namespace Go.Proofs.YtfjekckcpkkdiaaGreatDoor
open Go.RowKit

/-- A row of bytes made of a string: the block, and what is marked of it. -/
def Mrow (w : World) (b : Nat) (l : List UInt8) : Prop := ∃ (cs : Array Value) (k : Nat), w.heap[b]? = some (.cells cs 5 (cs.size, k)) ∧ l.length ≤ cs.size ∧ ∀ j, (hj : j < l.length) → cs[j]? = some (.int .u8 (l[j].toNat : Int))
section
variable {w w' : World} {b : Nat} {l : List UInt8}
theorem Mrow.lt (h : Mrow w b l) : b < w.heap.size := by obtain ⟨cs, k, h1, _⟩ := h; exact lt_of_block h1
theorem Mrow.below (h : Mrow w b l) (hb : Below w.heap.size w w') : Mrow w' b l := by
  have hlt := h.lt
  obtain ⟨cs, k, h1, h2⟩ := h
  exact ⟨cs, k, (hb.block b hlt).trans h1, h2⟩
theorem Mrow.cell (h : Mrow w b l) {j : Nat} (hj : j < l.length) : w.cell? ⟨b, j, none⟩ = some (.int .u8 (l[j].toNat : Int)) := by
  obtain ⟨cs, k, h1, h2, h3⟩ := h
  rw [cell_of_row w b j cs _ _ h1]
  exact h3 j hj
theorem Mrow.free (h : Mrow w b l) {j : Nat} (hj : j < l.length) : w.frozen? ⟨b, j, none⟩ = false := by
  obtain ⟨cs, k, h1, h2, h3⟩ := h
  have : ¬ cs.size ≤ j := by omega
  simp [World.frozen?, h1, this]
theorem Mrow.bytes (h : Mrow w b l) : Bytes w w.heap.size (some ⟨b, 0, none⟩) l.length l := by
  refine ⟨rfl, ⟨by rw [bv_length]; omega, by simp, fun _ => ⟨b, 0, rfl, h.lt, fun j u hu => ?_⟩⟩⟩
  have hj : j < l.length := by
    have := (List.getElem?_eq_some_iff.1 hu).1
    rwa [bv_length] at this
  rw [Nat.zero_add, h.cell hj]
  rw [bv_at hj] at hu
  exact hu
theorem Mrow.put (h : Mrow w b l) (i : Nat) (v : UInt8) : Mrow (w.setCell ⟨b, i, none⟩ (.int .u8 (v.toNat : Int))) b (l.set i v) := by
  obtain ⟨cs, k, h1, h2, h3⟩ := h
  refine ⟨cs.setIfInBounds i (.int .u8 (v.toNat : Int)), k, ?_, by simpa using h2, fun j hj => ?_⟩
  · simp [World.setCell, Array.getElem?_modify, h1]
  · rw [List.length_set] at hj
    have hjc := h3 j hj
    rw [Array.getElem?_setIfInBounds]
    by_cases hij : i = j
    · subst hij
      have : i < cs.size := by omega
      simp [this]
    · rw [if_neg hij, hjc, List.getElem_set_ne hij]
end
theorem bytes_made (w : World) (s : ByteArray) : ∃ cap w', (convert 9 26 (.string s)).run Tryz.prog w = .ok (.slice (some ⟨w.heap.size, 0, none⟩) s.size cap) w' ∧ Mrow w' w.heap.size s.data.toList ∧ Below w.heap.size w w' := by
  have hrun := run_bytes_of_string (P := Tryz.prog) w 9 26 5 s Tryz.underlying9 Tryz.underlying26 Tryz.underlying5
  refine ⟨_, _, hrun, ⟨bytesRow s (grownCap w s.size 0 5), (bytesRow s (grownCap w s.size 0 5)).size + 1, heap_alloc_new _ _, ?_, fun j hj => ?_⟩, (below_drewN (Below.refl w.heap.size w) 1).alloc (Nat.le_refl _) _⟩
  · rw [← Lib.size_eq]
    simp [bytesRow]
  · have hjs : j < s.size := by simpa using hj
    have hjd : j < s.data.size := hjs
    simp [bytesRow, Array.getElem?_append, hjs]

set_option maxRecDepth 100000 in
set_option maxHeartbeats 4000000 in
theorem codeParses_any (raw : ByteArray) (S : Option Addr) (q r x y : Nat) (l : List UInt8) (W : World) (hraw : raw.size ≤ 9223372036854775807) (h : Bytes W W.heap.size S q l) (hq : q ≤ r ∧ r ≤ 9223372036854775807)
    (_hx : x < 65536) (_hy : y < 256) (hL : Laid W) (hO : LaidO W) :
    Calls Tryz.prog 4 #[.string raw, .slice S q r, .int .u16 (x : Int), .int .u8 (y : Int)] W fun e w' => e = .returned (.bool true) ∧ Below W.heap.size W w' := by
  have HE := hide (Env.start hL hO)
  have HS := hide h
  clear hL hO h
  go_enter Tryz.func4, Tryz.ntmps4
  go_wp2_with fail
  refine (sane_any _ HE.out.laid HE.out.ops HE.out.tab).mono ?_
  rintro e w1 ⟨rfl, hb⟩
  have HE1 := hide (HE.out.next hb)
  have HS1 := hide (HS.out.below hb)
  clear hb HE HS
  by_cases hr3 : 3000 < raw.size
  · have hr3' : (3000 : Int) < (raw.size : Int) := by omega
    go_wp2
    go_ret
    exact ⟨rfl, HE1.out.bel⟩
  · have hr3' : ¬ (3000 : Int) < (raw.size : Int) := by omega
    go_wp2_with fail
    refine (made_any S q r _ l w1 HS1.out HE1.out.bel.size hq).mono ?_
    rintro e w2 h
    obtain ⟨A, n, c, D, m, d, p, rfl, hp, hi, hs, hn, hm, hb⟩ := h.got
    have HM := hide hp
    have HE2 := hide (HE1.out.next hb)
    have HI := hide hi
    have HJ := hide hs
    clear hb hi hs HE1 HS1 h hp
    go_wp2_with fail
    refine (ref4Format_any p A D n c m d w2.heap.size w2 HI.out HJ.out (Nat.le_refl _) (by omega) (by omega) HM.out.fine.1 HM.out.fine.2).mono ?_
    rintro e w3 h
    obtain ⟨rfl, hb⟩ := h.got (Cd.format_ok HM.out.good.1)
    have HE3 := hide (HE2.out.next hb)
    have hTl := Cd.text_le HM.out.good
    have hT0 : 0 < (Cd.text p).length := by
      unfold Cd.text Cd.pagesL Cd.lineOf
      simp only [List.length_append, List.length_cons, List.length_nil]
      omega
    obtain ⟨T, hT⟩ : ∃ T : ByteArray, T = ⟨(Cd.text p).toArray⟩ := ⟨_, rfl⟩
    rw [← hT]
    have hTs : T.size ≤ 60000 := by rw [hT, ba_size]; exact hTl
    have hTs0 : 0 < T.size := by rw [hT, ba_size]; exact hT0
    clear hT hTl hT0 hb h HI HJ HE2
    obtain ⟨cap, w4, hconv, hrow, hb⟩ := bytes_made w3 T
    have HE4 := hide (HE3.out.next hb)
    have hTl : T.data.toList.length = T.size := (Lib.size_eq T).symm
    obtain ⟨i, hi, hin⟩ : ∃ i : Nat, (x : Int) % (T.size : Int) = (i : Int) ∧ i < T.size := ⟨x % T.size, by omega, Nat.mod_lt _ hTs0⟩
    have hin' : (i : Int) < (T.size : Int) := by omega
    have hnz : ¬ (T.size : Int) = 0 := by omega
    have hpos : (0 : Int) < (T.size : Int) := by omega
    have hil : i < T.data.toList.length := by omega
    have j0 := hrow.cell hil
    have z0 := hrow.free hil
    have hid : i < T.data.size := by simpa using hil
    obtain ⟨v, hv⟩ : ∃ v : UInt8, ((T.data[i].toNat : Int) + (y : Int)) % 256 = (v.toNat : Int) := ⟨UInt8.ofNat ((T.data[i].toNat + y) % 256), by
      simp only [UInt8.toNat_ofNat']
      omega⟩
    have hput := hrow.put i v
    have hB : Bytes (w4.setCell ⟨w3.heap.size, i, none⟩ (.int .u8 (v.toNat : Int))) (w4.setCell ⟨w3.heap.size, i, none⟩ (.int .u8 (v.toNat : Int))).heap.size (some ⟨w3.heap.size, 0, none⟩) T.size (T.data.toList.set i v) := by
      have := hput.bytes
      rwa [List.length_set, hTl] at this
    have hback := run_string_rd (P := Tryz.prog) (w4.setCell ⟨w3.heap.size, i, none⟩ (.int .u8 (v.toNat : Int))) Tryz.underlying26 Tryz.underlying5 Tryz.underlying9 (c := cap) hB
    have HBw := hide (hb.setCell (p := ⟨w3.heap.size, i, none⟩) (Nat.le_refl _) (.int .u8 (v.toNat : Int)))
    have HEw := hide (HE3.out.next HBw.out)
    obtain ⟨U, hU⟩ : ∃ U : ByteArray, U = ⟨(T.data.toList.set i v).toArray⟩ := ⟨_, rfl⟩
    rw [← hU] at hback
    have hUs : U.size ≤ 60000 := by
      rw [hU, ba_size, List.length_set, hTl]
      exact hTs
    clear HE3 hb HE4 hput hB hU hrow HBw
    go_wp2_with fail
    have hg5 : (w4.setCell ⟨w3.heap.size, i, none⟩ (.int .u8 (v.toNat : Int))).heap.size = w4.heap.size := by simp
    generalize w4.setCell ⟨w3.heap.size, i, none⟩ (.int .u8 (v.toNat : Int)) = w5 at *
    have HEx := hide (HEw.out.alloc (.cells #[.string raw, .string T, .string U] 9))
    have hO : Obl (w5.alloc (.cells #[.string raw, .string T, .string U] 9)) w5.heap.size 9 #[.string raw, .string T, .string U] := Obl.make _ _ _
    have hall : ∀ k, k < 3 → ∃ xs : ByteArray, (#[Value.string raw, .string T, .string U])[k]? = some (.string xs) ∧ xs.size ≤ 60000 := by
      intro k hk
      rcases (show k = 0 ∨ k = 1 ∨ k = 2 by omega) with rfl | rfl | rfl
      · exact ⟨raw, rfl, by omega⟩
      · exact ⟨T, rfl, hTs⟩
      · exact ⟨U, rfl, hUs⟩
    have HA := hide hall
    rw [hg5] at hO
    generalize hg : w4.heap.size = g at *
    clear hall hback HEw hconv hv j0 z0 hin hin' hi hTl hg hg5
    go_loopw [53] (fun s53 wr => ∃ k : Nat, s53 = .int .i64 (k : Int) ∧ k ≤ 3 ∧ Hid (Env W wr) ∧ Obl wr g 9 #[.string raw, .string T, .string U]) (fun s53 _ => 3 - (intOf s53).toNat)
    case atStart => exact ⟨0, rfl, by omega, HEx, hO⟩
    case round =>
      clear HEx hO
      obtain ⟨k, rfl, hk, HE, hO⟩ := hrel
      by_cases hk3 : k < 3
      · have hk3' : (k : Int) < 3 := by omega
        obtain ⟨xs, hxs, hxl⟩ := HA.out k hk3
        have q0 := (hO.cell k).trans hxs
        clear hxs
        go_wp2_with fail
        refine (parse4_any xs wr (by omega) HE.out.laid HE.out.ops).mono ?_
        rintro e u1 h
        obtain ⟨⟨P1, i1, e1⟩, hP⟩ : ∃ r, Cd.parse xs.data.toList = r := ⟨_, rfl⟩
        have HPe := hide hP
        clear hP
        obtain ⟨A1, n1, c1, D1, m1, d1, rfl, ⟨hi1, hs1⟩, ⟨hn1, hm1⟩, hb⟩ := h.got HPe.out
        have HE1 := hide ((HE.out.next hb).alloc (.cells #[.slice A1 n1 c1, .slice D1 m1 d1, .int .i64 P1.pages] 25))
        have HP1 := hide (Held.make (c := c1) (d := d1) hi1 hs1 hn1 hm1)
        have hO1 := (hO.below hb hO.lt).alloc (.cells #[.slice A1 n1 c1, .slice D1 m1 d1, .int .i64 P1.pages] 25)
        clear hi1 hs1 hn1 hm1 hb h HE hO q0
        go_wp2_with fail
        generalize u1.alloc (.cells #[.slice A1 n1 c1, .slice D1 m1 d1, .int .i64 P1.pages] 25) = u2 at *
        generalize u1.heap.size = g1 at *
        refine (ref4Parse_any xs u2 (by omega)).mono ?_
        rintro e u3 h
        obtain ⟨A2, n2, c2, D2, m2, d2, rfl, ⟨hi1, hs1⟩, ⟨hn1, hm1⟩, hb⟩ := h.got HPe.out
        have HE3 := hide ((HE1.out.next hb).alloc (.cells #[.slice A2 n2 c2, .slice D2 m2 d2, .int .i64 P1.pages] 25))
        have HP3 := hide ((HP1.out.below hb).alloc (.cells #[.slice A2 n2 c2, .slice D2 m2 d2, .int .i64 P1.pages] 25))
        have HQ3 := hide (Held.make (c := c2) (d := d2) hi1 hs1 hn1 hm1)
        have hO3 := (hO1.below hb hO1.lt).alloc (.cells #[.slice A2 n2 c2, .slice D2 m2 d2, .int .i64 P1.pages] 25)
        clear hi1 hs1 hn1 hm1 hb h HE1 HP1 hO1 HPe
        have k0 := HP3.out.c0
        have k1 := HP3.out.c1
        have k2 := HP3.out.c2
        go_wp2_with fail
        generalize u3.alloc (.cells #[.slice A2 n2 c2, .slice D2 m2 d2, .int .i64 P1.pages] 25) = u4 at *
        generalize u3.heap.size = g2 at *
        refine (refSame_held HP3.out HQ3.out).mono ?_
        rintro e u5 ⟨rfl, hb⟩
        rw [pr_self]
        have HE5 := hide (HE3.out.next hb)
        have hO5 := hO3.below hb hO3.lt
        clear hb HE3 HP3 HQ3 hO3 k0 k1 k2
        go_wp2
        go_roundw
        case rel => exact ⟨k + 1, by go_num, by omega, HE5, hO5⟩
        case measure => simp [intOf]; omega
      · have hk3' : ¬ (k : Int) < 3 := by omega
        go_wp2
        go_ret
        exact ⟨rfl, HE.out.bel⟩
end Go.Proofs.YtfjekckcpkkdiaaGreatDoor
