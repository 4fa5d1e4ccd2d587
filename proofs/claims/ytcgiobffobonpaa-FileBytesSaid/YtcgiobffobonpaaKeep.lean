/- Which programs are short: a contract that leaves the answer open. -/
import Derived.Test.YtcgiobffobonpaaIns
import Derived.WalkKit
namespace Go.Proofs.Ytcgiobffobonpaa
open Go.RowKit

/-- What a program's short: some answer. -/
def KeepPost (w : World) (e : Ending) (w' : World) : Prop := ∃ v, e = .returned (.bool v) ∧ Below w.heap.size w w'
set_option maxRecDepth 100000 in
set_option maxHeartbeats 4000000 in
theorem short_any (strs : List (List UInt8)) (A D : Option Addr) (n c m d B : Nat) (pages : Int) (w : World) (hs : Strs w B D m strs) (hB : B ≤ w.heap.size) (hn : n ≤ 9223372036854775807) (hm : m ≤ 9223372036854775807) (hl : ∀ x ∈ strs, x.length ≤ 9223372036854775807) :
    Calls Try.prog 25 #[pa A n c D m d pages] w (KeepPost w) := by
  unfold pa
  have hml := hs.len
  have O1 := Obl.make w 27 #[.slice A n c, .slice D m d, .int .i64 pages]
  have hs1 : Strs (w.alloc (.cells #[.slice A n c, .slice D m d, .int .i64 pages] 27)) B D m strs := hs.below ((Below.refl _ _).alloc hB _)
  have HM : Hid (∀ k (h : k < strs.length), strs[k].length ≤ 9223372036854775807) := hide (fun k h => hl _ (List.getElem_mem h))
  have hbw0 : Below w.heap.size w (w.alloc (.cells #[.slice A n c, .slice D m d, .int .i64 pages] 27)) := (Below.refl _ _).alloc (Nat.le_refl _) _
  have q0 := O1.cell 0
  have q1 := O1.cell 1
  simp at q0 q1
  clear hl hs
  go_enter Try.func25, Try.ntmps25
  go_wp2_with fail
  go_loop [8] (fun s8 => ∃ k : Nat, s8 = .int .i64 (k : Int) ∧ k ≤ m) (fun s8 => m - (intOf s8).toNat)
  case atStart => exact ⟨0, rfl, by omega⟩
  case round =>
    obtain ⟨k, rfl, hk⟩ := hrel
    by_cases hlt : k < m
    · obtain ⟨b, o, hkl, rfl, hb, hcell⟩ := hs1.at_ hlt
      have hx : (⟨strs[k].toArray⟩ : ByteArray).size ≤ 9223372036854775807 := by rw [ba_size]; exact HM.out k hkl
      generalize (⟨strs[k].toArray⟩ : ByteArray) = xs at *
      by_cases hlong : 200 < xs.size
      · go_wp2
        go_ret
        exact ⟨_, rfl, hbw0⟩
      · go_wp2
        go_round
        case rel => exact ⟨k + 1, by go_num, by omega⟩
        case measure => simp [intOf]; omega
    · by_cases h3 : n ≤ 300
      · go_wp2
        go_ret
        exact ⟨_, rfl, hbw0⟩
      · go_wp2
        go_ret
        exact ⟨_, rfl, hbw0⟩

end Go.Proofs.Ytcgiobffobonpaa
