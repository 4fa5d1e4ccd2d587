/- Layer 4: the sanity check and the bounds of the statements: contracts. -/
import Derived.Test.YtfjekckcpkkdiaaGreatDoorCodeParse
import Derived.Test.YtfjekckcpkkdiaaGreatDoorCodeFormat
import Derived.Test.YtfjekckcpkkdiaaGreatDoorCodeSame
namespace Go.Proofs.YtfjekckcpkkdiaaGreatDoor
open Go.RowKit

def saneP : Cd.Pr := ⟨[⟨1, 1, 5, 0⟩, ⟨12, 1, 0, 0⟩], [], 0⟩
def saneT : List UInt8 := [112, 97, 103, 101, 115, 32, 48, 10, 115, 101, 116, 32, 114, 49, 32, 53, 10, 99, 97, 108, 108, 32, 49, 10]
theorem sane_parse : Cd.parse [115, 101, 116, 32, 114, 49, 32, 53, 10, 99, 97, 108, 108, 32, 49, 10] = (saneP, 0, 0) := by kernel_rfl
theorem sane_format : Cd.format saneP = (saneT, 0) := by kernel_rfl

/-- What a program's short: some answer. -/
def KeepPost (w : World) (e : Ending) (w' : World) : Prop := ∃ v, e = .returned (.bool v) ∧ Below w.heap.size w w'
set_option maxRecDepth 100000 in
set_option maxHeartbeats 4000000 in
theorem short_any (strs : List (List UInt8)) (A D : Option Addr) (n c m d B : Nat) (pages : Int) (w : World) (hs : Strs w B D m strs) (hB : B ≤ w.heap.size) (hn : n ≤ 9223372036854775807) (hm : m ≤ 9223372036854775807) (hl : ∀ x ∈ strs, x.length ≤ 9223372036854775807) :
    Calls Tryz.prog 9 #[pa A n c D m d pages] w (KeepPost w) := by
  unfold pa
  have hml := hs.len
  have O1 := Obl.make w 25 #[.slice A n c, .slice D m d, .int .i64 pages]
  have hs1 : Strs (w.alloc (.cells #[.slice A n c, .slice D m d, .int .i64 pages] 25)) B D m strs := hs.below ((Below.refl _ _).alloc hB _)
  have HM : Hid (∀ k (h : k < strs.length), strs[k].length ≤ 9223372036854775807) := hide (fun k h => hl _ (List.getElem_mem h))
  have hbw0 : Below w.heap.size w (w.alloc (.cells #[.slice A n c, .slice D m d, .int .i64 pages] 25)) := (Below.refl _ _).alloc (Nat.le_refl _) _
  have q0 := O1.cell 0
  have q1 := O1.cell 1
  simp at q0 q1
  clear hl hs
  go_enter Tryz.func9, Tryz.ntmps9
  go_wp2_with fail
  go_loop [8] (fun s8 => ∃ k : Nat, s8 = .int .i64 (k : Int) ∧ k ≤ m) (fun s8 => m - (intOf s8).toNat)
  case atStart => exact ⟨0, rfl, by omega⟩
  case round =>
    obtain ⟨k, rfl, hk⟩ := hrel
    by_cases hlt : k < m
    · obtain ⟨b, o, hkl, rfl, hb, hcell⟩ := hs1.at_ hlt
      have hx : (⟨strs[k].toArray⟩ : ByteArray).size ≤ 9223372036854775807 := by rw [ba_size]; exact HM.out k hkl
      generalize (⟨strs[k].toArray⟩ : ByteArray) = xs at *
      by_cases hlong : 200 < xs.size
      · go_wp2
        go_ret
        exact ⟨_, rfl, hbw0⟩
      · go_wp2
        go_round
        case rel => exact ⟨k + 1, by go_num, by omega⟩
        case measure => simp [intOf]; omega
    · by_cases h3 : n ≤ 300
      · go_wp2
        go_ret
        exact ⟨_, rfl, hbw0⟩
      · go_wp2
        go_ret
        exact ⟨_, rfl, hbw0⟩

set_option maxRecDepth 100000 in
set_option maxHeartbeats 4000000 in
theorem sane_any (w : World) (hL : Laid w) (hO : LaidO w) (hT : LaidT w) :
    Calls Tryz.prog 8 #[] w fun e w' => e = .returned (.bool true) ∧ Below w.heap.size w w' := by
  have HL := hide hL
  have HO := hide hO
  have HT := hide hT
  clear hL hO hT
  go_enter Tryz.func8, Tryz.ntmps8
  go_wp2_with fail
  refine (parse4_any _ _ (by decide) HL.out HO.out).mono ?_
  rintro e w1 h
  rw [sane_parse] at h
  obtain ⟨A, n, c, D, m, d, rfl, ⟨hi, hs⟩, ⟨hn, hm⟩, hb⟩ := h
  simp only [saneP] at hi hs
  obtain rfl : n = 2 := by have := hi.len; simpa using this.symm
  obtain rfl : m = 0 := by have := hs.len; simpa using this.symm
  have hi1 := hi.alloc (Nat.le_refl _) (.cells #[.slice A 2 c, .slice D 0 d, .int .i64 0] 25)
  have hs1 : Strs (w1.alloc (.cells #[.slice A 2 c, .slice D 0 d, .int .i64 0] 25)) w1.heap.size D 0 [] := Strs.nil
  have O1 := Obl.make w1 25 #[.slice A 2 c, .slice D 0 d, .int .i64 0]
  have HB1 := hide (hb.trans ((Below.refl w.heap.size w1).alloc hb.size (.cells #[.slice A 2 c, .slice D 0 d, .int .i64 0] 25)))
  have HO1 := hide ((HO.out.below hb).alloc (.cells #[.slice A 2 c, .slice D 0 d, .int .i64 0] 25))
  have HT1 := hide (LaidT.below (LaidT.below HT.out hb) ((Below.refl _ _).alloc (Nat.le_refl _) (.cells #[.slice A 2 c, .slice D 0 d, .int .i64 0] 25)))
  clear hb hi hs
  simp only [pa, saneP]
  go_wp2_with fail
  refine (format4_any saneP A D 2 c 0 d w1.heap.size _ hi1 hs1 (by simp) (by omega) (by omega) (by simp [saneP]) (by simp [saneP, Cd.in64]) HO1.out HT1.out).mono ?_
  rintro e w2 h
  rw [sane_format] at h
  obtain ⟨rfl, hb2⟩ := h
  simp only [saneT]
  have O2 := O1.below hb2 O1.lt
  have hi2 := hi1.belowLe hb2 (by simp)
  have HB2 := hide (HB1.out.trans (hb2.mono HB1.out.size))
  have hs2 := hs1.belowLe hb2 (by simp)
  have hsz2 := hb2.size
  simp only [World.size_alloc] at hsz2
  obtain ⟨b, o, _, rfl, hbl, c0, c1, c2, c3⟩ := hi2.at_ (i := 0) (by omega)
  generalize w1.alloc (.cells #[.slice (some ⟨b, o, none⟩) 2 c, .slice D 0 d, .int .i64 0] 25) = w1' at *
  have q0 := O2.cell 0
  have q1 := O2.cell 1
  have q2 := O2.cell 2
  simp at q0 q1 q2 c0 c1 c2 c3
  clear hb2 O1
  go_wp2_with fail
  refine (same_any saneP saneP (some ⟨b, o, none⟩) D (some ⟨b, o, none⟩) D 2 c 0 d 2 c 0 d w1.heap.size w2 hi2 hs2 hi2 hs2 (by omega) (by omega) (by omega) (by omega) (by omega)).mono ?_
  rintro e w3 ⟨rfl, hb3⟩
  have HB3 := hide (HB2.out.trans (hb3.mono HB2.out.size))
  have e1 : decide (saneP = saneP) = true := by simp
  rw [e1]
  clear hb3 e1
  go_wp2
  go_ret
  exact ⟨rfl, HB3.out⟩
end Go.Proofs.YtfjekckcpkkdiaaGreatDoor
