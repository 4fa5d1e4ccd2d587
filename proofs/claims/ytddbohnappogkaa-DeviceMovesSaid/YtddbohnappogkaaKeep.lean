/- Which programs are short: a contract that leaves the answer open. -/
import Derived.Test.YtddbohnappogkaaIns
import Derived.WalkKit
namespace Go.Proofs.Ytddbohnappogkaa
open Go.RowKit

/-- Some answer. -/
def KeepPost (w : World) (e : Ending) (w' : World) : Prop := ∃ v, e = .returned (.bool v) ∧ Below w.heap.size w w'
/-- An answer; if it is yes, p holds. -/
def KeptPost (p : Prop) (w : World) (e : Ending) (w' : World) : Prop := ∃ v, e = .returned (.bool v) ∧ (v = true → p) ∧ Below w.heap.size w w'
theorem KeptPost.open_ {p : Prop} {w w' : World} {e : Ending} (h : KeptPost p w e w') : KeepPost w e w' := by
  obtain ⟨v, he, _, hb⟩ := h
  exact ⟨v, he, hb⟩
/-- What a short program is. -/
def ShortProg (n m : Nat) (strs : List (List UInt8)) : Prop := n ≤ 300 ∧ m ≤ 40 ∧ ∀ x ∈ strs, x.length ≤ 200
set_option maxRecDepth 100000 in
set_option maxHeartbeats 4000000 in
theorem short_kept (strs : List (List UInt8)) (A D : Option Addr) (n c m d B : Nat) (pages : Int) (w : World) (hs : Strs w B D m strs) (hB : B ≤ w.heap.size) (hn : n ≤ 9223372036854775807) (hm : m ≤ 9223372036854775807) (hl : ∀ x ∈ strs, x.length ≤ 9223372036854775807) :
    Calls Try.prog 16 #[pa A n c D m d pages] w (KeptPost (ShortProg n m strs) w) := by
  unfold pa
  have hml := hs.len
  have O1 := Obl.make w 27 #[.slice A n c, .slice D m d, .int .i64 pages]
  have hs1 : Strs (w.alloc (.cells #[.slice A n c, .slice D m d, .int .i64 pages] 27)) B D m strs := hs.below ((Below.refl _ _).alloc hB _)
  have HM : Hid (∀ k (h : k < strs.length), strs[k].length ≤ 9223372036854775807) := hide (fun k h => hl _ (List.getElem_mem h))
  have hbw0 : Below w.heap.size w (w.alloc (.cells #[.slice A n c, .slice D m d, .int .i64 pages] 27)) := (Below.refl _ _).alloc (Nat.le_refl _) _
  have q0 := O1.cell 0
  have q1 := O1.cell 1
  simp at q0 q1
  clear hl hs
  go_enter Try.func16, Try.ntmps16
  go_wp2_with fail
  go_loop [8] (fun s8 => ∃ k : Nat, s8 = .int .i64 (k : Int) ∧ k ≤ m ∧ Hid (∀ j (h : j < strs.length), j < k → strs[j].length ≤ 200)) (fun s8 => m - (intOf s8).toNat)
  case atStart => exact ⟨0, rfl, by omega, hide (fun j _ h => by omega)⟩
  case round =>
    obtain ⟨k, rfl, hk, HK⟩ := hrel
    by_cases hlt : k < m
    · obtain ⟨b, o, hkl, rfl, hb, hcell⟩ := hs1.at_ hlt
      have hx : (⟨strs[k].toArray⟩ : ByteArray).size ≤ 9223372036854775807 := by rw [ba_size]; exact HM.out k hkl
      have HK1 : Hid (¬ 200 < (⟨strs[k].toArray⟩ : ByteArray).size → ∀ j (h : j < strs.length), j < k + 1 → strs[j].length ≤ 200) := hide (fun h0 j h h1 => by
        rcases Nat.lt_or_eq_of_le (Nat.le_of_lt_succ h1) with h2 | rfl
        · exact HK.out j h h2
        · rw [ba_size] at h0; omega)
      generalize (⟨strs[k].toArray⟩ : ByteArray) = xs at *
      by_cases hlong : 200 < xs.size
      · clear HK1 HK
        go_wp2
        go_ret
        exact ⟨_, rfl, (fun h => by cases h), hbw0⟩
      · have HK2 := hide (HK1.out hlong)
        clear HK1 HK
        go_wp2
        go_round
        case rel => exact ⟨k + 1, by go_num, by omega, HK2⟩
        case measure => simp [intOf]; omega
    · have HA : Hid (∀ x ∈ strs, x.length ≤ 200) := hide (fun x hx => by
        obtain ⟨j, hj, rfl⟩ := List.getElem_of_mem hx
        exact HK.out j hj (by omega))
      by_cases h3 : n ≤ 300
      · by_cases h4 : m ≤ 40
        · go_wp2
          go_ret
          exact ⟨_, rfl, (fun _ => ⟨h3, h4, HA.out⟩), hbw0⟩
        · go_wp2
          go_ret
          exact ⟨_, rfl, (fun h => by first | cases h | (simp at h; omega)), hbw0⟩
      · go_wp2
        go_ret
        exact ⟨_, rfl, (fun h => by first | cases h | (simp at h; omega)), hbw0⟩
theorem short_any (strs : List (List UInt8)) (A D : Option Addr) (n c m d B : Nat) (pages : Int) (w : World) (hs : Strs w B D m strs) (hB : B ≤ w.heap.size) (hn : n ≤ 9223372036854775807) (hm : m ≤ 9223372036854775807) (hl : ∀ x ∈ strs, x.length ≤ 9223372036854775807) :
    Calls Try.prog 16 #[pa A n c D m d pages] w (KeepPost w) := (short_kept strs A D n c m d B pages w hs hB hn hm hl).mono fun _ _ h => h.open_

end Go.Proofs.Ytddbohnappogkaa
