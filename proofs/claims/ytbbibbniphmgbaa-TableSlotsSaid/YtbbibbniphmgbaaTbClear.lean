/- Layer 10, package table: Clear: contracts. -/
import Derived.Test.YtbbibbniphmgbaaTbPut
namespace Go.Proofs.Ytbbibbniphmgbaa
open Go.RowKit

def slLen : Value → Nat
  | .slice _ n _ => n
  | _ => 0
theorem Tb.lastOf_take {l : List Tb.Slot} {m p : Nat} (hp : m - 1 = p) (h0 : 0 < m) (hm : m ≤ l.length) : Tb.lastOf (l.take m) = l[p]'(by omega) := by
  subst hp
  rw [Tb.lastOf_eq (t := l.take m) (n := m) (by rw [List.length_take]; omega) h0, List.getElem_take]
theorem Tb.lastOf_take0 (l : List Tb.Slot) : Tb.lastOf (l.take 0) = Tb.one := by rw [List.take_zero]; rfl
/-- The beginning of a row, without free places at its end. -/
def TrimPost (l : List Tb.Slot) (A : Option Addr) (n cap : Nat) (w : World) (e : Ending) (w' : World) : Prop := ∃ m, e = .returned (.slice A m cap) ∧ m ≤ n ∧ Tb.trim l = l.take m ∧ Below w.heap.size w w'
set_option maxRecDepth 100000 in
set_option maxHeartbeats 8000000 in
theorem trim_any (l : List Tb.Slot) (A : Option Addr) (n cap B : Nat) (W : World) (h : Slots W B A n l) (hB : B ≤ W.heap.size) (hn : n ≤ cap ∧ cap ≤ 9223372036854775807) :
    Calls Try.prog 38 #[.slice A n cap] W (TrimPost l A n cap W) := by
  have hl := h.len
  have HR := hide (h.mono hB)
  have hn' : (n : Int) ≤ 9223372036854775807 := by omega
  have hnc : (n : Int) ≤ (cap : Int) := by omega
  have hcap : (cap : Int) ≤ 9223372036854775807 := by omega
  clear h
  go_enter Try.func38, Try.ntmps38
  go_wp2_with fail
  go_loopw [0] (fun s0 wr => ∃ m : Nat, s0 = .slice A m cap ∧ m ≤ n ∧ Hid (Below W.heap.size W wr) ∧ Hid (∀ j (hj : j < l.length), m ≤ j → l[j].kind = 0)) (fun s0 _ => slLen s0)
  case atStart => exact ⟨n, rfl, by omega, hide (Below.refl _ _), hide (fun j hj hm => by omega)⟩
  case round =>
    obtain ⟨m, rfl, hm, HB, HZ⟩ := hrel
    rcases Nat.eq_zero_or_pos m with h0 | h0
    · subst h0
      have HF : Hid (Tb.trim l = l.take 0) := hide (Tb.trim_take (Nat.zero_le _) HZ.out (by rw [Tb.lastOf_take0]; decide))
      go_wp2_with fail
      go_ret
      exact ⟨0, rfl, Nat.zero_le _, HF.out, HB.out⟩
    · obtain ⟨p, hp⟩ : ∃ p, m - 1 = p := ⟨_, rfl⟩
      have dm : (m : Int) - 1 = (p : Int) := by omega
      have h0' : (0 : Int) < (m : Int) := by omega
      have hpm : (p : Int) < (m : Int) := by omega
      have hpc : (p : Int) ≤ (cap : Int) := by omega
      obtain ⟨b, o, hpl, rfl, hb, c0, c1, c2, c3⟩ := (HR.out.below HB.out).at_ (show p < n by omega)
      have HL : Hid (Tb.lastOf (l.take m) = l[p]) := hide (Tb.lastOf_take hp h0 (by omega))
      obtain ⟨x, hx⟩ : ∃ x, l[p] = x := ⟨_, rfl⟩
      have HX := hide hx
      rw [hx] at c0 c1 c2 c3 HL
      have HP := hide hp
      clear hx hp
      go_wp2_with (first | (refine wpList_val (by rfl) (exec_load_slot rfl rfl c0 c1 c2 c3) ?_) | fail)
      refine (isNone_any x _).mono ?_
      rintro e w2 ⟨rfl, hb2⟩
      have HB2 := hide (HB.out.trans (hb2.mono HB.out.size))
      clear hb2 c0 c1 c2 c3
      by_cases hz : x.kind = 0
      · rw [show (x.kind == 0) = true by simpa using hz]
        have HZ2 : Hid (∀ j (hj : j < l.length), p ≤ j → l[j].kind = 0) := hide (fun j hj hpj => by
          have hpp := HP.out
          rcases Nat.lt_or_ge j m with h' | h'
          · obtain rfl : j = p := by omega
            rw [HX.out]; exact hz
          · exact HZ.out j hj h')
        clear hz
        go_wp2_with fail
        go_roundw
        case rel => exact ⟨p, rfl, by omega, HB2, HZ2⟩
        case measure => simp [slLen]; omega
      · rw [show (x.kind == 0) = false by simpa using hz]
        have HF : Hid (Tb.trim l = l.take m) := hide (Tb.trim_take (by omega) HZ.out (by rw [HL.out]; exact hz))
        clear hz
        go_wp2_with fail
        go_ret
        exact ⟨m, rfl, hm, HF.out, HB2.out⟩

/-- A table, an error. -/
def ClearPost (r : List Tb.Slot × Int) (w : World) (e : Ending) (w' : World) : Prop := ∃ A n c, e = .returned (.tuple #[.slice A n c, .int .i64 r.2]) ∧ Slots w' w'.heap.size A n r.1 ∧ (n ≤ c ∧ c ≤ 9223372036854775807) ∧ Below w.heap.size w w'
theorem ClearPost.of {r : List Tb.Slot × Int} {w w' : World} {e : Ending} {l : List Tb.Slot} {c : Int} {A : Option Addr} {n d : Nat} (hr : r = (l, c)) (he : e = .returned (.tuple #[.slice A n d, .int .i64 c])) (h : Slots w' w'.heap.size A n l) (hn : n ≤ d ∧ d ≤ 9223372036854775807) (hb : Below w.heap.size w w') : ClearPost r w e w' := by
  subst hr; exact ⟨A, n, d, he, h, hn, hb⟩
theorem ClearPost.got {r : List Tb.Slot × Int} {w w' : World} {e : Ending} {l : List Tb.Slot} {c : Int} (h : ClearPost r w e w') (hr : r = (l, c)) : ∃ A n d, e = .returned (.tuple #[.slice A n d, .int .i64 c]) ∧ Slots w' w'.heap.size A n l ∧ (n ≤ d ∧ d ≤ 9223372036854775807) ∧ Below w.heap.size w w' := by subst hr; exact h
theorem Tb.clear_bad {l : List Tb.Slot} (h : ¬ Tb.Valid l) (i : Int) : Tb.clear l i = ([], 1) := by unfold Tb.clear; rw [if_neg h]
theorem Tb.clear_miss {l : List Tb.Slot} (h : Tb.Valid l) {i : Int} {s : Tb.Slot} (hg : Tb.get l i = (s, 6)) : Tb.clear l i = ([], 6) := by unfold Tb.clear; rw [if_pos h, hg]; rfl
theorem Tb.clear_at {l : List Tb.Slot} (h : Tb.Valid l) {k : Nat} {s : Tb.Slot} (hg : Tb.get l (k : Int) = (s, 0)) : Tb.clear l (k : Int) = (Tb.trim (l.set k Tb.Slot.zero), 0) := by unfold Tb.clear; rw [if_pos h, hg]; rfl
/-- Which slot a descriptor gives: one, or none. -/
theorem Tb.get_or {l : List Tb.Slot} (i : Int) : (Tb.get l i = (Tb.Slot.zero, 6)) ∨ ∃ k : Nat, ∃ hk : k < l.length, i = (k : Int) ∧ Tb.get l (k : Int) = (l[k], 0) ∧ l[k].kind ≠ 0 := by
  by_cases hi : 0 ≤ i ∧ i < (l.length : Int)
  · obtain ⟨k, rfl⟩ := Int.eq_ofNat_of_zero_le hi.1
    have hk : k < l.length := by omega
    by_cases hz : l[k].kind = 0
    · exact .inl (Tb.get_none hk hz)
    · exact .inr ⟨k, hk, rfl, Tb.get_at hk hz, hz⟩
  · exact .inl (Tb.get_out hi)
set_option maxRecDepth 100000 in
set_option maxHeartbeats 8000000 in
theorem tbClear_any (l : List Tb.Slot) (A : Option Addr) (n cap B : Nat) (i : Int) (W : World) (h : Slots W B A n l) (hB : B ≤ W.heap.size) (hn : n ≤ cap ∧ cap ≤ 9223372036854775807) :
    Calls Try.prog 20 #[.slice A n cap, .int .i64 i] W (ClearPost (Tb.clear l i) W) := by
  have hl := h.len
  have HR := hide (h.mono hB)
  have hn' : (n : Int) ≤ 9223372036854775807 := by omega
  have hnc : (n : Int) ≤ (cap : Int) := by omega
  clear h
  go_enter Try.func20, Try.ntmps20
  go_wp2_with fail
  refine (tbValid_any l A n cap _ HR.out hn).mono ?_
  rintro e w2 ⟨rfl, hb2⟩
  have HR2 := hide (HR.out.later hb2)
  have HB2 := hide hb2
  clear hb2 HR
  by_cases hv : Tb.Valid l
  case neg =>
    rw [decide_eq_false hv]
    have HF := hide (Tb.clear_bad hv i)
    clear hv
    go_wp2_with fail
    go_ret2
    exact ClearPost.of HF.out rfl Slots.nil (by omega) HB2.out
  rw [decide_eq_true hv]
  have HV := hide hv
  have h16 : n ≤ 16 := by have := hv.1; omega
  clear hv
  go_wp2_with fail
  refine (tbGet_any l A n cap _ i _ HR2.out (Nat.le_refl _) hn).mono ?_
  intro e w3 hp
  rcases Tb.get_or (l := l) i with hg | ⟨k, hk, rfl, hg, hz⟩
  · obtain ⟨rfl, hb3⟩ := hp.got hg
    have HF := hide (Tb.clear_miss HV.out hg)
    have HB3 := hide (HB2.out.trans (hb3.mono HB2.out.size))
    clear hp hg hb3
    obtain ⟨w4, hw4, O4, hb4, hs4⟩ := start_slot0 w3
    have HB4 := hide (HB3.out.trans (hb4.mono HB3.out.size))
    have HS : Hid (W.heap.size ≤ w3.heap.size) := hide HB3.out.size
    clear hb4 hs4
    go_wp2_with (first | (refine store_slot rfl _ _ rfl rfl (c := Tb.Slot.zero) rfl O4 rfl ?_) | fail)
    go_ret2
    exact ClearPost.of HF.out rfl Slots.nil (by omega) (below_row HB4.out HS.out _)
  · obtain ⟨rfl, hb3⟩ := hp.got hg
    have HF := hide (Tb.clear_at HV.out hg)
    have HB3 := hide (HB2.out.trans (hb3.mono HB2.out.size))
    have HR3 := hide (HR2.out.later hb3)
    have HK : Hid (k < l.length) := hide hk
    have hkn : (k : Int) < (n : Int) := by omega
    have hkn2 : k < n := by omega
    clear hp hg hb3 HR2 hz
    generalize l[k] = x
    obtain ⟨w4, hw4, O4, hb4, hs4⟩ := start_slot0 w3
    have HB4 := hide (HB3.out.trans (hb4.mono HB3.out.size))
    have HS : Hid (W.heap.size ≤ w3.heap.size) := hide HB3.out.size
    obtain ⟨w5, hw5⟩ : ∃ w5, w4.setRow w3.heap.size #[.int .i64 x.kind, .int .u64 x.desc, .int .u64 x.target, .int .i64 x.fin] = w5 := ⟨_, rfl⟩
    have HB5 : Hid (Below W.heap.size W w5) := hide (by rw [← hw5]; exact below_row HB4.out HS.out _)
    have hs5 : w5.heap.size = w3.heap.size + 1 := by rw [← hw5]; simpa [World.setRow] using hs4
    have HR5 : Hid (Slots w5 w3.heap.size A n l) := hide (by
      rw [← hw5]
      exact HR3.out.below (below_row hb4 (Nat.le_refl _) _))
    clear hb4 HR3
    go_wp2_with (first | (refine store_slot rfl _ _ rfl rfl (c := x) rfl O4 rfl ?_; rw [hw5]) | fail)
    refine (cloneT_any l A n cap _ _ HR5.out (by omega) (by omega)).mono ?_
    rintro e w6 ⟨A6, c6, rfl, hown6, hb6⟩
    have HB6 := hide (HB5.out.trans (hb6.mono HB5.out.size))
    have HO6 := hide hown6
    have hs6 : w5.heap.size ≤ w6.heap.size := hb6.size
    clear hb6 hown6 HR5
    obtain ⟨g, rfl, hgl⟩ := own_addr HO6.out (by omega)
    have h8 := own_setSlot HO6.out (k := k) HK.out Tb.Slot.zero
    obtain ⟨w7, hw7⟩ : ∃ w7, w6.setCells g (k * 4) [.int .i64 0, .int .u64 0, .int .u64 0, .int .i64 0] = w7 := ⟨_, rfl⟩
    have HB7 : Hid (Below W.heap.size W w7) := hide (by rw [← hw7]; exact below_cells HB6.out (by have := HS.out; omega) _ _)
    have HO7 : Hid (w7.ownsRow w5.heap.size 25 4 (.slice (some ⟨g, 0, none⟩) n c6) n (stv (l.set k Tb.Slot.zero))) := hide (by rw [← hw7]; exact h8)
    have hc6 : n ≤ c6 ∧ c6 ≤ 9223372036854775807 := ⟨own_cap HO6.out, own_cap63 HO6.out⟩
    clear h8
    go_wp2_with (first | (refine wpList_val (by rfl) (exec_build rfl rfl built_slot0) ?_) | (refine store_slot_mid rfl _ _ rfl rfl (s := Tb.Slot.zero) rfl HO6.out HK.out ?_; rw [show w6.setCells g (k * 4) [.int .i64 Tb.Slot.zero.kind, .int .u64 Tb.Slot.zero.desc, .int .u64 Tb.Slot.zero.target, .int .i64 Tb.Slot.zero.fin] = w7 from hw7]) | fail)
    refine (trim_any (l.set k Tb.Slot.zero) _ n c6 _ _ (Slots.of_own HO7.out) (Nat.le_refl _) hc6).mono ?_
    rintro e w8 ⟨m, rfl, hm, ht, hb8⟩
    have HB8 := hide (HB7.out.trans (hb8.mono HB7.out.size))
    have HR8 := hide (((Slots.of_own HO7.out).later hb8).takeN hm)
    have HT := hide ht
    clear hb8 ht
    go_wp2_with fail
    go_ret2
    exact ClearPost.of (HF.out.trans (by rw [HT.out])) rfl HR8.out (by omega) HB8.out
end Go.Proofs.Ytbbibbniphmgbaa
