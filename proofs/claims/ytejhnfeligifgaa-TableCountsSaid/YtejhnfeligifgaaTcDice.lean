/- Layer 10, package table: Clear: contracts. | Layer 10: what the laws share: the sanity check. | Layer 10, plain mathematics: which descriptors are used, with one slot more, with one less. | Layer 10: made slots, made tables: contracts. -/
import Derived.Test.YtejhnfeligifgaaTbPut
import Derived.Test.YtejhnfeligifgaaTcHold
import Derived.Test.YtejhnfeligifgaaDice
namespace Go.Proofs.Ytejhnfeligifgaa
open Go.RowKit

def slLen : Value → Nat
  | .slice _ n _ => n
  | _ => 0
theorem Tb.lastOf_take {l : List Tb.Slot} {m p : Nat} (hp : m - 1 = p) (h0 : 0 < m) (hm : m ≤ l.length) : Tb.lastOf (l.take m) = l[p]'(by omega) := by
  subst hp
  rw [Tb.lastOf_eq (t := l.take m) (n := m) (by rw [List.length_take]; omega) h0, List.getElem_take]
theorem Tb.lastOf_take0 (l : List Tb.Slot) : Tb.lastOf (l.take 0) = Tb.one := by rw [List.take_zero]; rfl
/-- The beginning of a row, without free places at its end. -/
def TrimPost (l : List Tb.Slot) (A : Option Addr) (n cap : Nat) (w : World) (e : Ending) (w' : World) : Prop := ∃ m, e = .returned (.slice A m cap) ∧ m ≤ n ∧ Tb.trim l = l.take m ∧ Below w.heap.size w w'
set_option maxRecDepth 100000 in
set_option maxHeartbeats 8000000 in
theorem trim_any (l : List Tb.Slot) (A : Option Addr) (n cap B : Nat) (W : World) (h : Slots W B A n l) (hB : B ≤ W.heap.size) (hn : n ≤ cap ∧ cap ≤ 9223372036854775807) :
    Calls Try.prog 38 #[.slice A n cap] W (TrimPost l A n cap W) := by
  have hl := h.len
  have HR := hide (h.mono hB)
  have hn' : (n : Int) ≤ 9223372036854775807 := by omega
  have hnc : (n : Int) ≤ (cap : Int) := by omega
  have hcap : (cap : Int) ≤ 9223372036854775807 := by omega
  clear h
  go_enter Try.func38, Try.ntmps38
  go_wp2_with fail
  go_loopw [0] (fun s0 wr => ∃ m : Nat, s0 = .slice A m cap ∧ m ≤ n ∧ Hid (Below W.heap.size W wr) ∧ Hid (∀ j (hj : j < l.length), m ≤ j → l[j].kind = 0)) (fun s0 _ => slLen s0)
  case atStart => exact ⟨n, rfl, by omega, hide (Below.refl _ _), hide (fun j hj hm => by omega)⟩
  case round =>
    obtain ⟨m, rfl, hm, HB, HZ⟩ := hrel
    rcases Nat.eq_zero_or_pos m with h0 | h0
    · subst h0
      have HF : Hid (Tb.trim l = l.take 0) := hide (Tb.trim_take (Nat.zero_le _) HZ.out (by rw [Tb.lastOf_take0]; decide))
      go_wp2_with fail
      go_ret
      exact ⟨0, rfl, Nat.zero_le _, HF.out, HB.out⟩
    · obtain ⟨p, hp⟩ : ∃ p, m - 1 = p := ⟨_, rfl⟩
      have dm : (m : Int) - 1 = (p : Int) := by omega
      have h0' : (0 : Int) < (m : Int) := by omega
      have hpm : (p : Int) < (m : Int) := by omega
      have hpc : (p : Int) ≤ (cap : Int) := by omega
      obtain ⟨b, o, hpl, rfl, hb, c0, c1, c2, c3⟩ := (HR.out.below HB.out).at_ (show p < n by omega)
      have HL : Hid (Tb.lastOf (l.take m) = l[p]) := hide (Tb.lastOf_take hp h0 (by omega))
      obtain ⟨x, hx⟩ : ∃ x, l[p] = x := ⟨_, rfl⟩
      have HX := hide hx
      rw [hx] at c0 c1 c2 c3 HL
      have HP := hide hp
      clear hx hp
      go_wp2_with (first | (refine wpList_val (by rfl) (exec_load_slot rfl rfl c0 c1 c2 c3) ?_) | fail)
      refine (isNone_any x _).mono ?_
      rintro e w2 ⟨rfl, hb2⟩
      have HB2 := hide (HB.out.trans (hb2.mono HB.out.size))
      clear hb2 c0 c1 c2 c3
      by_cases hz : x.kind = 0
      · rw [show (x.kind == 0) = true by simpa using hz]
        have HZ2 : Hid (∀ j (hj : j < l.length), p ≤ j → l[j].kind = 0) := hide (fun j hj hpj => by
          have hpp := HP.out
          rcases Nat.lt_or_ge j m with h' | h'
          · obtain rfl : j = p := by omega
            rw [HX.out]; exact hz
          · exact HZ.out j hj h')
        clear hz
        go_wp2_with fail
        go_roundw
        case rel => exact ⟨p, rfl, by omega, HB2, HZ2⟩
        case measure => simp [slLen]; omega
      · rw [show (x.kind == 0) = false by simpa using hz]
        have HF : Hid (Tb.trim l = l.take m) := hide (Tb.trim_take (by omega) HZ.out (by rw [HL.out]; exact hz))
        clear hz
        go_wp2_with fail
        go_ret
        exact ⟨m, rfl, hm, HF.out, HB2.out⟩

/-- A table, an error. -/
def ClearPost (r : List Tb.Slot × Int) (w : World) (e : Ending) (w' : World) : Prop := ∃ A n c, e = .returned (.tuple #[.slice A n c, .int .i64 r.2]) ∧ Slots w' w'.heap.size A n r.1 ∧ (n ≤ c ∧ c ≤ 9223372036854775807) ∧ Below w.heap.size w w'
theorem ClearPost.of {r : List Tb.Slot × Int} {w w' : World} {e : Ending} {l : List Tb.Slot} {c : Int} {A : Option Addr} {n d : Nat} (hr : r = (l, c)) (he : e = .returned (.tuple #[.slice A n d, .int .i64 c])) (h : Slots w' w'.heap.size A n l) (hn : n ≤ d ∧ d ≤ 9223372036854775807) (hb : Below w.heap.size w w') : ClearPost r w e w' := by
  subst hr; exact ⟨A, n, d, he, h, hn, hb⟩
theorem ClearPost.got {r : List Tb.Slot × Int} {w w' : World} {e : Ending} {l : List Tb.Slot} {c : Int} (h : ClearPost r w e w') (hr : r = (l, c)) : ∃ A n d, e = .returned (.tuple #[.slice A n d, .int .i64 c]) ∧ Slots w' w'.heap.size A n l ∧ (n ≤ d ∧ d ≤ 9223372036854775807) ∧ Below w.heap.size w w' := by subst hr; exact h
theorem Tb.clear_bad {l : List Tb.Slot} (h : ¬ Tb.Valid l) (i : Int) : Tb.clear l i = ([], 1) := by unfold Tb.clear; rw [if_neg h]
theorem Tb.clear_miss {l : List Tb.Slot} (h : Tb.Valid l) {i : Int} {s : Tb.Slot} (hg : Tb.get l i = (s, 6)) : Tb.clear l i = ([], 6) := by unfold Tb.clear; rw [if_pos h, hg]; rfl
theorem Tb.clear_at {l : List Tb.Slot} (h : Tb.Valid l) {k : Nat} {s : Tb.Slot} (hg : Tb.get l (k : Int) = (s, 0)) : Tb.clear l (k : Int) = (Tb.trim (l.set k Tb.Slot.zero), 0) := by unfold Tb.clear; rw [if_pos h, hg]; rfl
/-- Which slot a descriptor gives: one, or none. -/
theorem Tb.get_or {l : List Tb.Slot} (i : Int) : (Tb.get l i = (Tb.Slot.zero, 6)) ∨ ∃ k : Nat, ∃ hk : k < l.length, i = (k : Int) ∧ Tb.get l (k : Int) = (l[k], 0) ∧ l[k].kind ≠ 0 := by
  by_cases hi : 0 ≤ i ∧ i < (l.length : Int)
  · obtain ⟨k, rfl⟩ := Int.eq_ofNat_of_zero_le hi.1
    have hk : k < l.length := by omega
    by_cases hz : l[k].kind = 0
    · exact .inl (Tb.get_none hk hz)
    · exact .inr ⟨k, hk, rfl, Tb.get_at hk hz, hz⟩
  · exact .inl (Tb.get_out hi)
set_option maxRecDepth 100000 in
set_option maxHeartbeats 8000000 in
theorem tbClear_any (l : List Tb.Slot) (A : Option Addr) (n cap B : Nat) (i : Int) (W : World) (h : Slots W B A n l) (hB : B ≤ W.heap.size) (hn : n ≤ cap ∧ cap ≤ 9223372036854775807) :
    Calls Try.prog 20 #[.slice A n cap, .int .i64 i] W (ClearPost (Tb.clear l i) W) := by
  have hl := h.len
  have HR := hide (h.mono hB)
  have hn' : (n : Int) ≤ 9223372036854775807 := by omega
  have hnc : (n : Int) ≤ (cap : Int) := by omega
  clear h
  go_enter Try.func20, Try.ntmps20
  go_wp2_with fail
  refine (tbValid_any l A n cap _ HR.out hn).mono ?_
  rintro e w2 ⟨rfl, hb2⟩
  have HR2 := hide (HR.out.later hb2)
  have HB2 := hide hb2
  clear hb2 HR
  by_cases hv : Tb.Valid l
  case neg =>
    rw [decide_eq_false hv]
    have HF := hide (Tb.clear_bad hv i)
    clear hv
    go_wp2_with fail
    go_ret2
    exact ClearPost.of HF.out rfl Slots.nil (by omega) HB2.out
  rw [decide_eq_true hv]
  have HV := hide hv
  have h16 : n ≤ 16 := by have := hv.1; omega
  clear hv
  go_wp2_with fail
  refine (tbGet_any l A n cap _ i _ HR2.out (Nat.le_refl _) hn).mono ?_
  intro e w3 hp
  rcases Tb.get_or (l := l) i with hg | ⟨k, hk, rfl, hg, hz⟩
  · obtain ⟨rfl, hb3⟩ := hp.got hg
    have HF := hide (Tb.clear_miss HV.out hg)
    have HB3 := hide (HB2.out.trans (hb3.mono HB2.out.size))
    clear hp hg hb3
    obtain ⟨w4, hw4, O4, hb4, hs4⟩ := start_slot0 w3
    have HB4 := hide (HB3.out.trans (hb4.mono HB3.out.size))
    have HS : Hid (W.heap.size ≤ w3.heap.size) := hide HB3.out.size
    clear hb4 hs4
    go_wp2_with (first | (refine store_slot rfl _ _ rfl rfl (c := Tb.Slot.zero) rfl O4 rfl ?_) | fail)
    go_ret2
    exact ClearPost.of HF.out rfl Slots.nil (by omega) (below_row HB4.out HS.out _)
  · obtain ⟨rfl, hb3⟩ := hp.got hg
    have HF := hide (Tb.clear_at HV.out hg)
    have HB3 := hide (HB2.out.trans (hb3.mono HB2.out.size))
    have HR3 := hide (HR2.out.later hb3)
    have HK : Hid (k < l.length) := hide hk
    have hkn : (k : Int) < (n : Int) := by omega
    have hkn2 : k < n := by omega
    clear hp hg hb3 HR2 hz
    generalize l[k] = x
    obtain ⟨w4, hw4, O4, hb4, hs4⟩ := start_slot0 w3
    have HB4 := hide (HB3.out.trans (hb4.mono HB3.out.size))
    have HS : Hid (W.heap.size ≤ w3.heap.size) := hide HB3.out.size
    obtain ⟨w5, hw5⟩ : ∃ w5, w4.setRow w3.heap.size #[.int .i64 x.kind, .int .u64 x.desc, .int .u64 x.target, .int .i64 x.fin] = w5 := ⟨_, rfl⟩
    have HB5 : Hid (Below W.heap.size W w5) := hide (by rw [← hw5]; exact below_row HB4.out HS.out _)
    have hs5 : w5.heap.size = w3.heap.size + 1 := by rw [← hw5]; simpa [World.setRow] using hs4
    have HR5 : Hid (Slots w5 w3.heap.size A n l) := hide (by
      rw [← hw5]
      exact HR3.out.below (below_row hb4 (Nat.le_refl _) _))
    clear hb4 HR3
    go_wp2_with (first | (refine store_slot rfl _ _ rfl rfl (c := x) rfl O4 rfl ?_; rw [hw5]) | fail)
    refine (cloneT_any l A n cap _ _ HR5.out (by omega) (by omega)).mono ?_
    rintro e w6 ⟨A6, c6, rfl, hown6, hb6⟩
    have HB6 := hide (HB5.out.trans (hb6.mono HB5.out.size))
    have HO6 := hide hown6
    have hs6 : w5.heap.size ≤ w6.heap.size := hb6.size
    clear hb6 hown6 HR5
    obtain ⟨g, rfl, hgl⟩ := own_addr HO6.out (by omega)
    have h8 := own_setSlot HO6.out (k := k) HK.out Tb.Slot.zero
    obtain ⟨w7, hw7⟩ : ∃ w7, w6.setCells g (k * 4) [.int .i64 0, .int .u64 0, .int .u64 0, .int .i64 0] = w7 := ⟨_, rfl⟩
    have HB7 : Hid (Below W.heap.size W w7) := hide (by rw [← hw7]; exact below_cells HB6.out (by have := HS.out; omega) _ _)
    have HO7 : Hid (w7.ownsRow w5.heap.size 25 4 (.slice (some ⟨g, 0, none⟩) n c6) n (stv (l.set k Tb.Slot.zero))) := hide (by rw [← hw7]; exact h8)
    have hc6 : n ≤ c6 ∧ c6 ≤ 9223372036854775807 := ⟨own_cap HO6.out, own_cap63 HO6.out⟩
    clear h8
    go_wp2_with (first | (refine wpList_val (by rfl) (exec_build rfl rfl built_slot0) ?_) | (refine store_slot_mid rfl _ _ rfl rfl (s := Tb.Slot.zero) rfl HO6.out HK.out ?_; rw [show w6.setCells g (k * 4) [.int .i64 Tb.Slot.zero.kind, .int .u64 Tb.Slot.zero.desc, .int .u64 Tb.Slot.zero.target, .int .i64 Tb.Slot.zero.fin] = w7 from hw7]) | fail)
    refine (trim_any (l.set k Tb.Slot.zero) _ n c6 _ _ (Slots.of_own HO7.out) (Nat.le_refl _) hc6).mono ?_
    rintro e w8 ⟨m, rfl, hm, ht, hb8⟩
    have HB8 := hide (HB7.out.trans (hb8.mono HB7.out.size))
    have HR8 := hide (((Slots.of_own HO7.out).later hb8).takeN hm)
    have HT := hide ht
    clear hb8 ht
    go_wp2_with fail
    go_ret2
    exact ClearPost.of (HF.out.trans (by rw [HT.out])) rfl HR8.out (by omega) HB8.out
end Go.Proofs.Ytejhnfeligifgaa
namespace Go.Proofs.Ytejhnfeligifgaa
open Go.RowKit

theorem built_slot (k t : Int) : Try.prog.built 25 [(0, .int .i64 k), (2, .int .u64 t)] = some #[.int .i64 k, .int .u64 0, .int .u64 t, .int .i64 0] := by kernel_rfl
theorem built_slot3 (k t f : Int) : Try.prog.built 25 [(0, .int .i64 k), (2, .int .u64 t), (3, .int .i64 f)] = some #[.int .i64 k, .int .u64 0, .int .u64 t, .int .i64 f] := by kernel_rfl
theorem built_idk (i k : Int) : Try.prog.built 61 [(0, .int .u64 i), (1, .int .i64 k)] = some (oc { Ob.zero with id := i, kind := k }) := by kernel_rfl
theorem start_sane (w : World) : ∃ w1, w.alloc (.cells #[.int .i64 0, .int .u64 0, .int .u64 0, .int .i64 0, .int .i64 7, .int .u64 0, .int .u64 4, .int .i64 0] 25) = w1 ∧ Slots w1 w1.heap.size (some ⟨w.heap.size, 0, none⟩) 2 [Tb.Slot.zero, ⟨7, 0, 4, 0⟩] ∧ Below w.heap.size w w1 ∧ w1.heap.size = w.heap.size + 1 := by
  refine ⟨_, rfl, ⟨rfl, ⟨rfl, by simp, ?_⟩⟩, (Below.refl _ _).alloc (Nat.le_refl _) _, by simp⟩
  have := (Row.list w [.int .i64 0, .int .u64 0, .int .u64 0, .int .i64 0, .int .i64 7, .int .u64 0, .int .u64 4, .int .i64 0] 25).rd
  rw [World.size_alloc]
  exact this
theorem Ob.zero_bald (i k : Int) : ({ Ob.zero with id := i, kind := k } : Ob).Bald := by constructor <;> rfl
/-- An object stored into a new block. -/
theorem start_zob (w : World) (o : Ob) : ∃ w5, w.alloc (.cells #[.int .u64 0, .int .i64 0, .int .i64 0, .int .i64 0, .int .u64 0, .slice none 0 0, .slice none 0 0, .slice none 0 0, .int .i64 0, .int .i64 0, .int .i64 0, .int .i64 0, .int .i64 0, .int .i64 0, .int .i64 0, .int .i64 0, .int .i64 0, .int .i64 0, .slice none 0 0, .slice none 0 0, .int .i64 0, .int .i64 0, .int .i64 0, .slice none 0 0, .slice none 0 0, .int .i64 0, .int .u64 0, .int .i64 0, .int .i64 0, .slice none 0 0, .slice none 0 0, .slice none 0 0, .int .i64 0, .int .i64 0, .int .i64 0, .slice none 0 0] 61) = w5 ∧ ∃ g, w.heap.size = g ∧ ∃ w6, w5.setRow g (oc o) = w6 ∧ Obl w5 g 61 (oc Ob.zero) ∧ Obl w6 g 61 (oc o) ∧ Below g w w6 ∧ w6.heap.size = g + 1 := by
  have O : Obl (w.alloc (.cells (oc Ob.zero) 61)) w.heap.size 61 (oc Ob.zero) := Obl.make w _ _
  exact ⟨_, rfl, _, rfl, _, rfl, O, O.row_same _, below_row ((Below.refl _ _).alloc (Nat.le_refl _) _) (Nat.le_refl _) _, by simp [World.setRow]⟩
set_option maxRecDepth 100000 in
set_option maxHeartbeats 16000000 in
theorem sane10_any (W : World) : Calls Try.prog 8 #[] W (BoolPost true W) := by
  obtain ⟨w1, hw1, g, hg, w2, hw2, OZ, ON, hb2, hs2⟩ := start_zslot W ⟨7, 0, 4, 0⟩
  obtain ⟨w3, hw3, hR, hb3, hs3⟩ := start_sane w2
  have HR := hide hR
  have HB3 := hide ((hb2.mono (by omega)).trans (hb3.mono (by omega)) : Below W.heap.size W w3)
  have O3 := ON.below hb3 (by omega)
  clear hR hb2 hb3 hs2 hs3
  go_enter Try.func8, Try.ntmps8
  go_wp2_with (first | (refine wpList_val (by rfl) (exec_build (t := 25) (vs := [(0, .int .i64 7), (2, .int .u64 4)]) rfl rfl (built_slot _ _)) ?_) | (refine wpList_val (by rfl) (exec_build (t := 25) (vs := []) rfl rfl built_slot0) ?_) | (refine store_slot rfl _ _ rfl rfl (c := ⟨7, 0, 4, 0⟩) rfl OZ rfl ?_; rw [hw2]) | (refine wpList_val (by rfl) (exec_load_slot0 (y := ⟨7, 0, 4, 0⟩) rfl rfl ON) ?_) | (refine wpList_val (by rfl) (exec_load_slot0 (y := ⟨7, 0, 4, 0⟩) rfl rfl O3) ?_) | fail)
  refine (tbPut_any [Tb.Slot.zero, ⟨7, 0, 4, 0⟩] ⟨7, 0, 4, 0⟩ _ 2 2 _ _ HR.out (Nat.le_refl _) (by omega)).mono ?_
  intro e w4 hp
  obtain ⟨A, n, d, rfl, hR4, hn4, hb4⟩ := hp.got (show Tb.put [Tb.Slot.zero, ⟨7, 0, 4, 0⟩] ⟨7, 0, 4, 0⟩ = ([⟨7, 0, 4, 0⟩, ⟨7, 0, 4, 0⟩], 0, 0) by decide)
  have hn2 : n = 2 := hR4.len.symm
  subst hn2
  have HR4 := hide hR4
  have HN4 := hide hn4
  have O4 := O3.below hb4 O3.lt
  have HB4 := hide (HB3.out.trans (hb4.mono HB3.out.size))
  clear hp hR4 hn4 hb4 O3 hw1 hw2 hw3 OZ ON hg
  go_wp2_with (first | (refine wpList_val (by rfl) (exec_build (t := 25) (vs := [(0, .int .i64 2), (2, .int .u64 4)]) rfl rfl (built_slot _ _)) ?_) | (refine wpList_val (by rfl) (exec_build (t := 61) (vs := [(0, .int .u64 4), (1, .int .i64 5)]) rfl rfl (built_idk _ _)) ?_) | fail)
  refine (tbHold_any { Ob.zero with id := 4, kind := 5 } ⟨2, 0, 4, 0⟩ Cont.none _ (Holds.bald (Ob.zero_bald 4 5) _ _) Cont.none_short (by decide)).mono ?_
  rintro e w5 ⟨⟨h0, _⟩ | ⟨h0, c, rfl, hH⟩, hb5⟩
  · exact absurd (by decide) h0
  have HR5 := hide (HR4.out.later hb5)
  have O5 := O4.below hb5 O4.lt
  have HB5 := hide (HB4.out.trans (hb5.mono HB4.out.size))
  have HH := hide hH
  clear h0 hH hb5 O4
  obtain ⟨o, ho⟩ : ∃ o, (({ Ob.zero with id := 4, kind := 5 } : Ob).relist c).setCnt ⟨2, 0, 4, 0⟩ (({ Ob.zero with id := 4, kind := 5 } : Ob).cnt ⟨2, 0, 4, 0⟩ + 1) = o := ⟨_, rfl⟩
  have hr1 : o.readers = 1 := by rw [← ho]; rfl
  rw [ho]
  obtain ⟨w6, hw6, g7, hg7, w7, hw7, OZ7, ON7, hb7, hs7⟩ := start_zob w5 o
  have HR7 := hide ((HR5.out.below (hb7.mono (by omega))).mono (by omega) : Slots w7 w7.heap.size A 2 _)
  have O7 := O5.below hb7 (by have := O5.lt; omega)
  have HB7 := hide (HB5.out.trans (hb7.mono (by have := HB5.out.size; omega)))
  clear ho hb7 O5 HR5 HH hs7
  go_wp2_with (first | (refine store_ob rfl _ _ rfl rfl (c := o) rfl OZ7 rfl ?_; rw [hw7]) | fail)
  clear hw6 hw7 OZ7 hg7
  refine (tbValid_any _ A 2 d _ HR7.out HN4.out).mono ?_
  rintro e w8 ⟨rfl, hb8⟩
  rw [show decide (Tb.Valid [⟨7, 0, 4, 0⟩, ⟨7, 0, 4, 0⟩]) = true by decide]
  have O8 := O7.below hb8 O7.lt
  have HB8 := hide (HB7.out.trans (hb8.mono HB7.out.size))
  have k27 : w8.cell? ⟨g7, 27, none⟩ = some (.int .i64 1) := ((ON7.below hb8 ON7.lt).cell 27).trans (by show some (Value.int .i64 o.readers) = _; rw [hr1])
  clear hb8 O7
  go_wp2_with (first | (refine wpList_val (by rfl) (exec_load_slot0 (y := ⟨7, 0, 4, 0⟩) rfl rfl O8) ?_) | fail)
  refine (Holder_any ⟨7, 0, 4, 0⟩ _).mono ?_
  rintro e w9 ⟨rfl, hb9⟩
  rw [show (Tb.holder ⟨7, 0, 4, 0⟩).1 = 0 by decide]
  have HB9 := hide (HB8.out.trans (hb9.mono HB8.out.size))
  clear hb9
  go_wp2_with fail
  go_ret
  exact ⟨rfl, HB9.out⟩
end Go.Proofs.Ytejhnfeligifgaa
namespace Go.Proofs.Ytejhnfeligifgaa
open Go.RowKit

/-- Which descriptors of a table are used. -/
def Tb.used (t : List Tb.Slot) (k : Nat) : Bool := (t.getD k Tb.Slot.zero).kind != 0
theorem Tb.used_zero : Tb.used [] = fun _ => false := by funext k; simp [Tb.used, Tb.Slot.zero]
theorem Tb.used_at {t : List Tb.Slot} {k : Nat} (hk : k < t.length) : Tb.used t k = (t[k].kind != 0) := by
  unfold Tb.used
  rw [List.getD_eq_getElem?_getD, List.getElem?_eq_getElem hk]
  rfl
theorem Tb.used_out {t : List Tb.Slot} {k : Nat} (hk : t.length ≤ k) : Tb.used t k = false := by
  unfold Tb.used
  rw [List.getD_eq_getElem?_getD, List.getElem?_eq_none hk]
  rfl
theorem Tb.used_get (t : List Tb.Slot) (k : Nat) : (Tb.get t (k : Int)).2 = if Tb.used t k then 0 else 6 := by
  by_cases hk : k < t.length
  · by_cases hz : t[k].kind = 0
    · rw [Tb.get_none hk hz, Tb.used_at hk]; simp [hz]
    · rw [Tb.get_at hk hz, Tb.used_at hk]; simp [hz]
  · rw [Tb.get_out (by omega), Tb.used_out (by omega)]; simp
theorem Tb.get_used {t : List Tb.Slot} {k : Nat} (h : Tb.used t k = true) : ∃ s, Tb.get t (k : Int) = (s, 0) := by
  have := Tb.used_get t k
  rw [if_pos h] at this
  exact ⟨_, by rw [← this]⟩
theorem Tb.get_unused {t : List Tb.Slot} {k : Nat} (h : Tb.used t k = false) : Tb.get t (k : Int) = (Tb.Slot.zero, 6) := by
  by_cases hk : k < t.length
  · rw [Tb.used_at hk] at h
    exact Tb.get_none hk (by simpa using h)
  · exact Tb.get_out (by omega)
/-- The least free place. -/
theorem Tb.free_used {t : List Tb.Slot} {k : Nat} (h : Tb.used t k = false) (hb : ∀ j, j < k → Tb.used t j = true) : Tb.free t = k := by
  rcases Nat.lt_or_ge k t.length with hk | hk
  · refine Tb.free_eq hk ?_ ?_
    · rw [Tb.used_at hk] at h; simpa using h
    · intro j hj hjk
      have := hb j hjk
      rw [Tb.used_at hj] at this
      simpa using this
  · rcases Nat.eq_or_lt_of_le hk with e | e
    · rw [← e]
      refine Tb.free_none fun j hj => ?_
      have := hb j (by omega)
      rw [Tb.used_at hj] at this
      simpa using this
    · have := hb t.length e
      rw [Tb.used_out (Nat.le_refl _)] at this
      cases this
theorem Tb.valid_sub {t : List Tb.Slot} (h : Tb.Valid t) {k : Nat} {s : Tb.Slot} (hs : s.Ok) : (∀ x ∈ (if k < t.length then t.set k s else t ++ [s]), x.Ok) := by
  intro x hx
  split at hx
  · rcases List.mem_or_eq_of_mem_set hx with h1 | rfl
    · exact h.2.1 x h1
    · exact hs
  · rcases List.mem_append.1 hx with h1 | h1
    · exact h.2.1 x h1
    · rw [List.mem_singleton.1 h1]; exact hs
/-- A table with one more slot is a table. -/
theorem Tb.putL_valid {t : List Tb.Slot} (h : Tb.Valid t) {s : Tb.Slot} (hs : s.Ok) (h0 : s.kind ≠ 0) (hf : Tb.free t < 16) : Tb.Valid (Tb.putL t s) := by
  unfold Tb.putL
  refine ⟨?_, Tb.valid_sub h hs, ?_⟩
  · split
    · rw [List.length_set]; exact h.1
    · have := Tb.free_le t
      have := h.1
      rw [List.length_append, List.length_singleton]; omega
  · split
    · rename_i hl
      have hn : 0 < t.length := by omega
      rw [Tb.lastOf_eq (t := t.set (Tb.free t) s) (n := t.length) (by simp) hn, List.getElem_set]
      split
      · exact h0
      · have := h.2.2
        rw [Tb.lastOf_eq rfl hn] at this
        exact this
    · rw [Tb.lastOf_snoc]; exact h0
theorem Tb.putL_used {t : List Tb.Slot} {s : Tb.Slot} (h0 : s.kind ≠ 0) {k : Nat} (hk : Tb.free t = k) (j : Nat) : Tb.used (Tb.putL t s) j = if j = k then true else Tb.used t j := by
  subst hk
  unfold Tb.putL
  have hle := Tb.free_le t
  split
  · rename_i hl
    by_cases hj : j < t.length
    · rw [Tb.used_at (by simpa using hj), Tb.used_at hj, List.getElem_set]
      by_cases e : Tb.free t = j
      · rw [if_pos e, if_pos e.symm]; simpa using h0
      · rw [if_neg e, if_neg (fun x => e x.symm)]
    · rw [Tb.used_out (by simp; omega), Tb.used_out (by omega), if_neg (by omega)]
  · have hfl : Tb.free t = t.length := by omega
    by_cases e : j = Tb.free t
    · rw [if_pos e, Tb.used_at (by simp; omega), List.getElem_append_right (by omega)]
      simpa using h0
    · rw [if_neg e]
      by_cases hj : j < t.length
      · rw [Tb.used_at (by simp; omega), Tb.used_at hj, List.getElem_append_left hj]
      · rw [Tb.used_out (by simp; omega), Tb.used_out (by omega)]
/-- What trimming leaves. -/
theorem Tb.trim_pre (t : List Tb.Slot) : ∃ m, m ≤ t.length ∧ Tb.trim t = t.take m ∧ (∀ j (hj : j < t.length), m ≤ j → t[j].kind = 0) ∧ (Tb.lastOf (t.take m)).kind ≠ 0 := by
  have key : ∀ m, m ≤ t.length → (∀ j (hj : j < t.length), m ≤ j → t[j].kind = 0) → ∃ m', m' ≤ t.length ∧ (∀ j (hj : j < t.length), m' ≤ j → t[j].kind = 0) ∧ (Tb.lastOf (t.take m')).kind ≠ 0 := by
    intro m
    induction m with
    | zero => intro _ h; exact ⟨0, Nat.zero_le _, h, by rw [List.take_zero]; decide⟩
    | succ m ih =>
      intro hm h
      by_cases hz : (t[m]'(by omega)).kind = 0
      · refine ih (by omega) fun j hj hmj => ?_
        rcases Nat.eq_or_lt_of_le hmj with e | e
        · subst e; exact hz
        · exact h j hj e
      · refine ⟨m + 1, hm, h, ?_⟩
        rw [Tb.lastOf_eq (t := t.take (m + 1)) (n := m + 1) (by rw [List.length_take]; omega) (by omega), List.getElem_take]
        exact hz
  obtain ⟨m, h1, h2, h3⟩ := key t.length (Nat.le_refl _) (fun j hj h => by omega)
  exact ⟨m, h1, Tb.trim_take h1 h2 h3, h2, h3⟩
theorem Tb.trim_used (t : List Tb.Slot) (j : Nat) : Tb.used (Tb.trim t) j = Tb.used t j := by
  obtain ⟨m, h1, h2, h3, _⟩ := Tb.trim_pre t
  rw [h2]
  by_cases hj : j < m
  · rw [Tb.used_at (by rw [List.length_take]; omega), Tb.used_at (by omega), List.getElem_take]
  · rw [Tb.used_out (by rw [List.length_take]; omega)]
    by_cases hj2 : j < t.length
    · rw [Tb.used_at hj2]
      have := h3 j hj2 (by omega)
      simp [this]
    · rw [Tb.used_out (by omega)]
theorem Tb.set_used (t : List Tb.Slot) (k j : Nat) : Tb.used (t.set k Tb.Slot.zero) j = if j = k then false else Tb.used t j := by
  by_cases hj : j < t.length
  · rw [Tb.used_at (by simpa using hj), Tb.used_at hj, List.getElem_set]
    by_cases e : k = j
    · rw [if_pos e, if_pos e.symm]; rfl
    · rw [if_neg e, if_neg (fun x => e x.symm)]
  · rw [Tb.used_out (by simp; omega), Tb.used_out (by omega)]; simp
theorem Tb.trim_valid {t : List Tb.Slot} (h : t.length ≤ 16) (ho : ∀ s ∈ t, s.Ok) : Tb.Valid (Tb.trim t) := by
  obtain ⟨m, h1, h2, h3, h4⟩ := Tb.trim_pre t
  rw [h2]
  exact ⟨by rw [List.length_take]; omega, fun s hs => ho s (List.mem_of_mem_take hs), h4⟩
theorem Tb.clear_valid {t : List Tb.Slot} (h : Tb.Valid t) (k : Nat) : Tb.Valid (Tb.trim (t.set k Tb.Slot.zero)) := by
  refine Tb.trim_valid (by rw [List.length_set]; exact h.1) fun s hs => ?_
  rcases List.mem_or_eq_of_mem_set hs with h1 | rfl
  · exact h.2.1 s h1
  · exact Tb.Slot.zero_ok
theorem Tb.putL_self {t : List Tb.Slot} {s : Tb.Slot} (h0 : s.kind ≠ 0) {k : Nat} (hk : Tb.free t = k) : Tb.get (Tb.putL t s) (k : Int) = (s, 0) := by
  subst hk
  have hle := Tb.free_le t
  unfold Tb.putL
  split
  · rename_i hl
    have h1 : Tb.free t < (t.set (Tb.free t) s).length := by simpa using hl
    have h2 : (t.set (Tb.free t) s)[Tb.free t] = s := List.getElem_set_self _
    rw [Tb.get_at h1 (by rw [h2]; exact h0), h2]
  · have hfl : Tb.free t = t.length := by omega
    have h1 : Tb.free t < (t ++ [s]).length := by simp; omega
    have h2 : (t ++ [s])[Tb.free t] = s := by rw [List.getElem_append_right (by omega)]; simp
    rw [Tb.get_at h1 (by rw [h2]; exact h0), h2]
theorem Tb.putL_other {t : List Tb.Slot} {s : Tb.Slot} (h0 : s.kind ≠ 0) {k j : Nat} (hk : Tb.free t = k) (hj : j ≠ k) : Tb.get (Tb.putL t s) (j : Int) = Tb.get t (j : Int) := by
  have hu := Tb.putL_used (t := t) h0 hk j
  rw [if_neg hj] at hu
  cases h : Tb.used t j with
  | false => rw [Tb.get_unused h, Tb.get_unused (hu.trans h)]
  | true =>
    have hjl : j < t.length := by
      refine Nat.lt_of_not_le fun hle => ?_
      rw [Tb.used_out hle] at h
      cases h
    have hz : t[j].kind ≠ 0 := by rw [Tb.used_at hjl] at h; simpa using h
    have hle := Tb.free_le t
    subst hk
    have e : ∃ h' : j < (Tb.putL t s).length, (Tb.putL t s)[j] = t[j] := by
      unfold Tb.putL
      split
      · exact ⟨by simpa using hjl, List.getElem_set_ne (Ne.symm hj) _⟩
      · exact ⟨by simp; omega, List.getElem_append_left hjl⟩
    obtain ⟨h1, h2⟩ := e
    rw [Tb.get_at h1 (by rw [h2]; exact hz), Tb.get_at hjl hz, h2]
theorem Tb.trim_self {t : List Tb.Slot} (h : Tb.Valid t) : Tb.trim t = t := by
  have := Tb.trim_take (t := t) (m := t.length) (Nat.le_refl _) (fun j hj hm => by omega) (by rw [List.take_length]; exact h.2.2)
  rwa [List.take_length] at this
theorem Tb.ok_none {s : Tb.Slot} (h : s.Ok) (hz : s.kind = 0) : s = Tb.Slot.zero := by
  unfold Tb.Slot.Ok at h
  rwa [if_pos hz] at h
/-- Clearing what was put restores the table. -/
theorem Tb.putL_clear {t : List Tb.Slot} (h : Tb.Valid t) {s : Tb.Slot} {k : Nat} (hk : Tb.free t = k) : Tb.trim ((Tb.putL t s).set k Tb.Slot.zero) = t := by
  subst hk
  have hle := Tb.free_le t
  unfold Tb.putL
  split
  · rename_i hl
    have hz : t[Tb.free t] = Tb.Slot.zero := Tb.ok_none (h.2.1 _ (List.getElem_mem hl)) (Tb.free_kind hl)
    rw [List.set_set]
    have e : t.set (Tb.free t) Tb.Slot.zero = t := by
      conv => lhs; rw [← hz]
      exact List.set_getElem_self hl
    rw [e]
    exact Tb.trim_self h
  · have hfl : Tb.free t = t.length := by omega
    rw [hfl, List.set_append_right _ _ (Nat.le_refl _)]
    simp only [Nat.sub_self, List.set_cons_zero]
    have := Tb.trim_take (t := t ++ [Tb.Slot.zero]) (m := t.length) (by simp) (fun j hj hm => by
      rw [List.getElem_append_right hm]
      have : j = t.length := by simp at hj; omega
      subst this
      simp [Tb.Slot.zero]) (by rw [List.take_left]; exact h.2.2)
    rwa [List.take_left] at this
theorem Tb.put_ok {t : List Tb.Slot} (h : Tb.Valid t) {s : Tb.Slot} (hs : s.Ok ∧ s.kind ≠ 0) {k : Nat} (hk : Tb.free t = k) (h16 : k < 16) : Tb.put t s = (Tb.putL t s, (k : Int), 0) := by
  unfold Tb.put
  rw [if_pos ⟨h, hs.1, hs.2⟩, if_pos (by omega), hk]
end Go.Proofs.Ytejhnfeligifgaa
namespace Go.Proofs.Ytejhnfeligifgaa
open Go.RowKit

set_option maxRecDepth 100000 in
set_option maxHeartbeats 8000000 in
theorem make_pos (n b s : Int) (hn : 0 ≤ n ∧ n ≤ 2) (hb : 0 ≤ b ∧ b ≤ 1) (hs : 1 ≤ s ∧ s ≤ 9) (W : World) : Calls Try.prog 60 #[.int .i64 n, .int .i64 b, .int .i64 s] W fun e w' => ∃ v : Int, e = .returned (.tuple #[.int .u64 v, .int .i64 0]) ∧ v ≠ 0 ∧ w' = W := by
  have h1 : n = 0 ∨ n = 1 ∨ n = 2 := by omega
  have h2 : b = 0 ∨ b = 1 := by omega
  have h3 : s = 1 ∨ s = 2 ∨ s = 3 ∨ s = 4 ∨ s = 5 ∨ s = 6 ∨ s = 7 ∨ s = 8 ∨ s = 9 := by omega
  clear hn hb hs
  rcases h1 with rfl | rfl | rfl <;> rcases h2 with rfl | rfl <;> rcases h3 with rfl | rfl | rfl | rfl | rfl | rfl | rfl | rfl | rfl <;>
    (go_enter Try.func60, Try.ntmps60
     go_wp2
     go_ret2
     exact ⟨_, rfl, by decide, rfl⟩)
/-- An identifier, which is none but zero, and the dice. -/
def PosThrown (C b : Nat) (w : World) (e : Ending) (w' : World) : Prop := ∃ v : Int, e = .returned (.int .u64 v) ∧ v ≠ 0 ∧ Dice w' C b ∧ Bel w.heap.size b w w'
set_option maxRecDepth 100000 in
set_option maxHeartbeats 4000000 in
theorem pos_dice (C b : Nat) (W : World) (h : Dice W C b) : Calls Try.prog 31 #[.pointer (some ⟨b, 0, none⟩)] W (PosThrown C b W) := by
  have HD := hide h
  clear h
  go_enter Try.func31, Try.ntmps31
  go_wp2_with fail
  refine (next_dice C b 3 _ HD.out (by omega) (by omega)).mono ?_
  rintro e w1 ⟨n, rfl, hn, hD, hB⟩
  have HD1 := hide hD
  have HB1 := hide hB
  clear hD hB HD
  go_wp2_with fail
  refine (next_dice C b 2 _ HD1.out (by omega) (by omega)).mono ?_
  rintro e w2 ⟨q, rfl, hq, hD, hB⟩
  have HD2 := hide hD
  have HB2 := hide (HB1.out.then hB)
  clear hD hB HD1 HB1
  go_wp2_with fail
  refine (next_dice C b 9 _ HD2.out (by omega) (by omega)).mono ?_
  rintro e w3 ⟨s, rfl, hs, hD, hB⟩
  have HD3 := hide hD
  have HB3 := hide (HB2.out.then hB)
  have hs0 := hs.1
  have hs1 : s ≤ 8 := by omega
  clear hD hB HD2 HB2
  go_wp2_with fail
  refine (make_pos n q (1 + s) ⟨hn.1, by omega⟩ ⟨hq.1, by omega⟩ ⟨by omega, by omega⟩ _).mono ?_
  rintro e w4 ⟨v, rfl, hv, rfl⟩
  have HV := hide hv
  clear hv
  go_wp2_with fail
  go_ret
  exact ⟨v, rfl, HV.out, HD3.out, HB3.out⟩

/-- A slot that is valid, and the dice. -/
def SlotThrown (C b : Nat) (w : World) (e : Ending) (w' : World) : Prop := ∃ s : Tb.Slot, e = .returned (sta s) ∧ (s.Ok ∧ s.kind ≠ 0) ∧ Dice w' C b ∧ Bel w.heap.size b w w'
theorem ret_slot1 {w : World} {fn : Func} {p : Tmp} (hr : fn.results = #[.cell p 25]) (tmps : Array Value) {g : Nat} (hp : tmps.getD p undef = .pointer (some ⟨g, 0, none⟩)) {y : Tb.Slot} {t : TypeId} (h : Obl w g t #[.int .i64 y.kind, .int .u64 y.desc, .int .u64 y.target, .int .i64 y.fin]) :
    (results fn tmps).run Try.prog w = .ok (sta y) w := results_cell_1 hr tmps hp h Try.underlying25 rfl slotSize
theorem slot_ok {k d t f : Int} (h1 : 1 ≤ k) (h2 : k ≤ 8) (ht : t ≠ 0) (hd : d ≠ 0 ↔ k = 1) (hf : f = 0 ∨ f = 1 ∧ k = 4) : (⟨k, d, t, f⟩ : Tb.Slot).Ok ∧ (⟨k, d, t, f⟩ : Tb.Slot).kind ≠ 0 := by
  have h0 : (⟨k, d, t, f⟩ : Tb.Slot).kind ≠ 0 := by show k ≠ 0; omega
  exact ⟨(Tb.Slot.ok_of h0).2 ⟨by show 0 < k; omega, h2, ht, hd, hf⟩, h0⟩
theorem obl_four {w : World} {g : Nat} {t : TypeId} {x y z u x' y' z' u' : Value} (h : Obl w g t #[x, y, z, u]) (hx : x = x') (hy : y = y') (hz : z = z') (hu : u = u') : Obl w g t #[x', y', z', u'] := by subst hx hy hz hu; exact h
theorem Dice.set_other {w : World} {C b g : Nat} (h : Dice w C b) (hne : b ≠ g) (hC : C ≤ g) (i : Nat) (u : Value) : Dice (w.setCell ⟨g, i, none⟩ u) C b := h.put_other hne hC i u
set_option maxRecDepth 100000 in
set_option maxHeartbeats 16000000 in
theorem slot_dice (C b : Nat) (W : World) (h : Dice W C b) : Calls Try.prog 11 #[.pointer (some ⟨b, 0, none⟩)] W (SlotThrown C b W) := by
  have hbW := h.lt
  have hC := h.le
  obtain ⟨w1, hw1, O1, hb1, hs1⟩ := start_slot0 W
  have HD1 := hide (h.below hb1)
  have HB1 := hide (Bel.of hb1 : Bel W.heap.size b W w1)
  clear h hb1 hs1
  go_enter Try.func11, Try.ntmps11
  go_wp2_with fail
  refine (next_dice C b 8 _ HD1.out (by omega) (by omega)).mono ?_
  rintro e w2 ⟨v, rfl, hv, hD, hB⟩
  obtain ⟨k, hk⟩ : ∃ k, 1 + v = k := ⟨_, rfl⟩
  have hk1 : 1 ≤ k := by omega
  have hk8 : k ≤ 8 := by omega
  have hv0 := hv.1
  have hv1 : v ≤ 7 := by omega
  have O2 := hB.obl' O1 (by omega)
  have HD2 := hide hD
  have HB2 := hide (HB1.out.trans (hB.mono HB1.out.size))
  clear hD hB hv O1 HD1 HB1
  go_wp2_with fail
  refine (pos_dice C b _ HD2.out).mono ?_
  rintro e w3 ⟨t, rfl, ht, hD, hB⟩
  have O3 := hB.obl' O2 (by omega)
  have HT := hide ht
  have HB3 := hide (HB2.out.trans (hB.mono HB2.out.size))
  obtain ⟨wz, hwz, g3, hg3, w4, hw4, OZ, ON, hb4, hs4⟩ := start_zslot w3 ⟨k, 0, t, 0⟩
  subst hg3
  have hg3 : W.heap.size < w3.heap.size := O3.lt
  have O4 := O3.below hb4 O3.lt
  have HD4 := hide (hD.below hb4)
  have HB4 := hide (HB3.out.trans (Bel.of (hb4.mono (by omega))))
  have k0 : w4.cell? ⟨w3.heap.size, 0, none⟩ = some (.int .i64 k) := ON.cell 0
  clear hD hB ht O2 O3 HD2 HB2 HB3 hb4 hs4
  by_cases h1 : k = 1
  · have z1 : (k == 1) = true := by simpa using h1
    have z4 : (k == 4) = false := by simp [h1]
    have H1 := hide h1
    clear h1
    go_wp2_with (first | (refine store_slot rfl _ _ rfl rfl (c := ⟨k, 0, t, 0⟩) rfl OZ rfl ?_; rw [hw4]) | fail)
    refine (pos_dice C b _ HD4.out).mono ?_
    rintro e w5 ⟨d, rfl, hd, hD, hB⟩
    have HDD := hide hd
    have O5 := hB.obl' O4 (by omega)
    have ON5 := hB.obl' ON (by omega)
    have zf := ON5.free 1
    have kc : w5.cell? ⟨w3.heap.size, 1, none⟩ = some (.int .u64 0) := ON5.cell 1
    obtain ⟨w6, hw6⟩ : ∃ w, w5.setCell ⟨w3.heap.size, 1, none⟩ (.int .u64 d) = w := ⟨_, rfl⟩
    have ON6 : Obl w6 w3.heap.size 25 #[.int .i64 k, .int .u64 d, .int .u64 t, .int .i64 0] := by rw [← hw6]; exact obl_four (ON5.put 1 (.int .u64 d)) rfl rfl rfl rfl
    have O6 : Obl w6 W.heap.size 25 #[.int .i64 0, .int .u64 0, .int .u64 0, .int .i64 0] := by rw [← hw6]; exact O5.put_other (b' := w3.heap.size) (by omega) 1 _
    have HD6 : Hid (Dice w6 C b) := hide (by rw [← hw6]; exact hD.put_other (by omega) (by omega) 1 _)
    have HB6 : Hid (Bel W.heap.size b W w6) := hide (by rw [← hw6]; exact (HB4.out.trans (hB.mono HB4.out.size)).setGe (by omega) 1 _)
    have k6 : w6.cell? ⟨w3.heap.size, 0, none⟩ = some (.int .i64 k) := ON6.cell 0
    clear hd hD hB O4 O5 ON HD4 HB4
    go_wp2_with (first | (refine wpList_val (by rfl) (exec_load_slot0 (y := ⟨k, d, t, 0⟩) rfl rfl ON6) ?_) | (refine store_slot rfl _ _ rfl rfl (c := ⟨k, d, t, 0⟩) rfl O6 rfl ?_) | fail)
    refine bodyPost_ret (ret_slot1 (y := ⟨k, d, t, 0⟩) rfl _ rfl (O6.row_same _)) rfl ?_
    exact ⟨⟨k, d, t, 0⟩, rfl, slot_ok hk1 hk8 HT.out ⟨fun _ => H1.out, fun _ => HDD.out⟩ (.inl rfl), HD6.out.row_other (by omega) (by omega) _, HB6.out.rowGe (Nat.le_refl _) _⟩
  have z1 : (k == 1) = false := by simpa using h1
  by_cases h4 : k = 4
  · have z4 : (k == 4) = true := by simpa using h4
    have H4 := hide h4
    have H1 := hide h1
    clear h1 h4
    go_wp2_with (first | (refine store_slot rfl _ _ rfl rfl (c := ⟨k, 0, t, 0⟩) rfl OZ rfl ?_; rw [hw4]) | fail)
    refine (next_dice C b 2 _ HD4.out (by omega) (by omega)).mono ?_
    rintro e w5 ⟨f, rfl, hf, hD, hB⟩
    have HFF : Hid (f = 0 ∨ f = 1) := hide (by omega)
    have O5 := hB.obl' O4 (by omega)
    have ON5 := hB.obl' ON (by omega)
    have zf := ON5.free 3
    have kc : w5.cell? ⟨w3.heap.size, 3, none⟩ = some (.int .i64 0) := ON5.cell 3
    obtain ⟨w6, hw6⟩ : ∃ w, w5.setCell ⟨w3.heap.size, 3, none⟩ (.int .i64 f) = w := ⟨_, rfl⟩
    have ON6 : Obl w6 w3.heap.size 25 #[.int .i64 k, .int .u64 0, .int .u64 t, .int .i64 f] := by rw [← hw6]; exact obl_four (ON5.put 3 (.int .i64 f)) rfl rfl rfl rfl
    have O6 : Obl w6 W.heap.size 25 #[.int .i64 0, .int .u64 0, .int .u64 0, .int .i64 0] := by rw [← hw6]; exact O5.put_other (b' := w3.heap.size) (by omega) 3 _
    have HD6 : Hid (Dice w6 C b) := hide (by rw [← hw6]; exact hD.put_other (by omega) (by omega) 3 _)
    have HB6 : Hid (Bel W.heap.size b W w6) := hide (by rw [← hw6]; exact (HB4.out.trans (hB.mono HB4.out.size)).setGe (by omega) 3 _)
    clear hf hD hB O4 O5 ON HD4 HB4
    go_wp2_with (first | (refine wpList_val (by rfl) (exec_load_slot0 (y := ⟨k, 0, t, f⟩) rfl rfl ON6) ?_) | (refine store_slot rfl _ _ rfl rfl (c := ⟨k, 0, t, f⟩) rfl O6 rfl ?_) | fail)
    refine bodyPost_ret (ret_slot1 (y := ⟨k, 0, t, f⟩) rfl _ rfl (O6.row_same _)) rfl ?_
    exact ⟨⟨k, 0, t, f⟩, rfl, slot_ok hk1 hk8 HT.out ⟨fun x => absurd rfl x, fun x => absurd x H1.out⟩ (HFF.out.imp id fun e => ⟨e, H4.out⟩), HD6.out.row_other (by omega) (by omega) _, HB6.out.rowGe (Nat.le_refl _) _⟩
  · have z4 : (k == 4) = false := by simpa using h4
    have H1 := hide h1
    clear h1 h4
    go_wp2_with (first | (refine store_slot rfl _ _ rfl rfl (c := ⟨k, 0, t, 0⟩) rfl OZ rfl ?_; rw [hw4]) | (refine wpList_val (by rfl) (exec_load_slot0 (y := ⟨k, 0, t, 0⟩) rfl rfl ON) ?_) | (refine store_slot rfl _ _ rfl rfl (c := ⟨k, 0, t, 0⟩) rfl O4 rfl ?_) | fail)
    refine bodyPost_ret (ret_slot1 (y := ⟨k, 0, t, 0⟩) rfl _ rfl (O4.row_same _)) rfl ?_
    exact ⟨⟨k, 0, t, 0⟩, rfl, slot_ok hk1 hk8 HT.out ⟨fun x => absurd rfl x, fun x => absurd x H1.out⟩ (.inl rfl), HD4.out.row_other (by omega) (by omega) _, HB4.out.rowGe (Nat.le_refl _) _⟩

/-- The beginning of a row of the call's own. -/
def PartOf (w : World) (base : Nat) (A : Option Addr) (n c : Nat) (l : List Tb.Slot) : Prop := ∃ m L, w.ownsRow base 25 4 (.slice A m c) m (stv L) ∧ n ≤ m ∧ l = L.take n
theorem PartOf.slots {w : World} {base n c : Nat} {A : Option Addr} {l : List Tb.Slot} (h : PartOf w base A n c l) : Slots w w.heap.size A n l := by
  obtain ⟨m, L, h1, h2, rfl⟩ := h
  exact (Slots.of_own h1).takeN h2
theorem PartOf.bel {w w' : World} {base n c b : Nat} {A : Option Addr} {l : List Tb.Slot} (h : PartOf w base A n c l) (hb : Bel w.heap.size b w w') (hbb : b < base) : PartOf w' base A n c l := by
  obtain ⟨m, L, h1, h2, rfl⟩ := h
  exact ⟨m, L, own_bel h1 hb hbb, h2, rfl⟩
theorem PartOf.below {w w' : World} {base n c : Nat} {A : Option Addr} {l : List Tb.Slot} (h : PartOf w base A n c l) (hb : Below w.heap.size w w') : PartOf w' base A n c l := by
  obtain ⟨m, L, h1, h2, rfl⟩ := h
  exact ⟨m, L, own_below h1 hb, h2, rfl⟩
/-- A table that is valid, and the dice. -/
def TabThrown (C b : Nat) (w : World) (e : Ending) (w' : World) : Prop := ∃ (A : Option Addr) (n c : Nat) (l : List Tb.Slot), e = .returned (.slice A n c) ∧ (PartOf w' w.heap.size A n c l ∧ n ≤ c ∧ c ≤ 9223372036854775807) ∧ n ≤ 5 ∧ Tb.Valid l ∧ Dice w' C b ∧ Bel w.heap.size b w w'
theorem own_blk_ge {w : World} {base n c size : Nat} {e : TypeId} {A : Option Addr} {xs : List Value} (h : w.ownsRow base e size (.slice A n c) n xs) {k : Nat} (hk : blk A = some k) : base ≤ k := (h.lt k (by rw [ownBlock_slice]; exact hk)).1
set_option maxRecDepth 100000 in
set_option maxHeartbeats 16000000 in
theorem table_dice (C b : Nat) (W : World) (h : Dice W C b) : Calls Try.prog 12 #[.pointer (some ⟨b, 0, none⟩)] W (TabThrown C b W) := by
  have hbW := h.lt
  have hC := h.le
  have HD := hide h
  clear h
  go_enter Try.func12, Try.ntmps12
  go_wp2_with fail
  refine (next_dice C b 6 _ HD.out (by omega) (by omega)).mono ?_
  rintro e w1 ⟨v, rfl, hv, hD, hB⟩
  obtain ⟨q, rfl⟩ := Int.eq_ofNat_of_zero_le hv.1
  have hq : q ≤ 5 := by omega
  have HD1 := hide hD
  have HB1 := hide hB
  clear hD hB hv HD
  go_wp2_with fail
  go_loopw [3, 4] (fun s3 s4 wr => ∃ (i m c : Nat) (O : Option Addr) (L : List Tb.Slot), s4 = .int .i64 (i : Int) ∧ s3 = .slice O m c ∧ i + m ≤ 5 ∧ Hid (wr.ownsRow W.heap.size 25 4 (.slice O m c) m (stv L)) ∧ Hid (∀ s ∈ L, s.Ok) ∧ Hid (Dice wr C b) ∧ Hid (Bel W.heap.size b W wr)) (fun _ s4 _ => (intOf s4).toNat)
  case atStart => exact ⟨q, 0, 0, none, [], rfl, rfl, by omega, hide own_none, hide (by simp), HD1, HB1⟩
  case round =>
    obtain ⟨i, m, c, O, L, rfl, rfl, him, HO, HK, HDr, HBr⟩ := hrel
    have hWr := HBr.out.size
    rcases Nat.eq_zero_or_pos i with h0 | h0
    · subst h0
      have hcc := own_cap HO.out
      have hc63 := own_cap63 HO.out
      have hmc : (m : Int) ≤ (c : Int) := by omega
      have hl := own_slots HO.out
      have HL := hide hl
      go_wp2_with fail
      go_loopw [3] (fun s3 wx => ∃ p : Nat, s3 = .slice O p c ∧ p ≤ m ∧ wx = wr ∧ Hid (∀ j (hj : j < L.length), p ≤ j → L[j].kind = 0)) (fun s3 _ => slLen s3)
      case atStart => exact ⟨m, rfl, by omega, by first | rfl | trivial, hide (fun j hj hp => by omega)⟩
      case round =>
        obtain ⟨p, rfl, hp, rfl, HZ⟩ := hrel
        rcases Nat.eq_zero_or_pos p with h1 | h1
        · subst h1
          go_wp2_with fail
          go_ret
          exact ⟨O, 0, c, L.take 0, rfl, ⟨⟨m, L, HO.out, Nat.zero_le _, rfl⟩, Nat.zero_le _, own_cap63 HO.out⟩, by omega, by rw [List.take_zero]; exact Tb.valid_nil, HDr.out, HBr.out⟩
        · obtain ⟨j, hj⟩ : ∃ j, p - 1 = j := ⟨_, rfl⟩
          have dm : (p : Int) - 1 = (j : Int) := by omega
          have h0' : (0 : Int) < (p : Int) := by omega
          have hjp : (j : Int) < (p : Int) := by omega
          have hjc : (j : Int) ≤ (c : Int) := by omega
          have hpc : (p : Int) ≤ (c : Int) := by omega
          obtain ⟨g, rfl, hg1, hg2⟩ := own_addr HO.out (by omega)
          obtain ⟨b0, o0, hjl, e9, hb9, c0, c1, c2, c3⟩ := (Slots.of_own HO.out).at_ (show j < m by omega)
          cases e9
          have HLL : Hid (Tb.lastOf (L.take p) = L[j]) := hide (Tb.lastOf_take hj h1 (by omega))
          obtain ⟨x, hx⟩ : ∃ x, L[j] = x := ⟨_, rfl⟩
          have HX := hide hx
          rw [hx] at c0 c1 c2 c3 HLL
          rw [Nat.zero_add] at c0
          have HJ := hide hj
          clear hx hj hl
          by_cases hz : x.kind = 0
          · have z2 : (x.kind == 0) = true := by simpa using hz
            have HZ2 : Hid (∀ i (hi : i < L.length), j ≤ i → L[i].kind = 0) := hide (fun i hi hji => by
              have hjj := HJ.out
              rcases Nat.lt_or_ge i p with h' | h'
              · obtain rfl : i = j := by omega
                rw [HX.out]; exact hz
              · exact HZ.out i hi h')
            clear hz
            go_wp2_with fail
            go_roundw
            case rel => exact ⟨j, rfl, by omega, by first | rfl | trivial, HZ2⟩
            case measure => simp [slLen]; omega
          · have z2 : (x.kind == 0) = false := by simpa using hz
            have HZZ := hide hz
            clear hz
            go_wp2_with fail
            go_ret
            exact ⟨_, p, c, L.take p, rfl, ⟨⟨m, L, HO.out, hp, rfl⟩, by omega, own_cap63 HO.out⟩, by omega, ⟨by rw [List.length_take]; have := HL.out; omega, fun s hs => HK.out s (List.mem_of_mem_take hs), by rw [HLL.out]; exact HZZ.out⟩, HDr.out, HBr.out⟩
    · obtain ⟨p, hp⟩ : ∃ p, i - 1 = p := ⟨_, rfl⟩
      have dm : (i : Int) - 1 = (p : Int) := by omega
      have h0' : (0 : Int) < (i : Int) := by omega
      have hp5 : p + 1 = i := by omega
      have HP5 := hide hp5
      clear hp hp5
      go_wp2_with fail
      refine (next_dice C b 4 _ HDr.out (by omega) (by omega)).mono ?_
      rintro e w2 ⟨v, rfl, hv, hD, hB⟩
      have HD2 := hide hD
      have HB2 := hide (HBr.out.trans (hB.mono hWr))
      have HO2 := hide (own_bel HO.out hB hbW)
      have hW2 : W.heap.size ≤ w2.heap.size := HB2.out.size
      clear hD hB hv HO HDr HBr
      by_cases hz : v = 0
      · have z1 : (v == 0) = true := by simpa using hz
        clear hz
        go_wp2_with (first | (refine wpList_val (by rfl) (exec_build (t := 25) (vs := []) rfl rfl built_slot0) ?_) | (at_builtin; refine wpList_append_rd rfl _ _ _ rfl slotTy (base := W.heap.size) rfl (HO2.out.alloc (.cells #[.int .i64 0, .int .u64 0, .int .u64 0, .int .i64 0] 25)) rfl (Row.slot0 w2 25) (by simp [Value.oneCell']) (by unfold maxLen; omega) (by omega) (by simp; omega) ?_; intro A7 c7 w7 hown7 hg7 _; have HB7 := hide (below_own ((Below.refl W.heap.size w2).alloc hW2 _) (HO2.out.alloc _) hg7 (by simp; omega)); have HD7 := hide ((HD2.out.alloc _).grown hg7 (fun e => by have := own_blk_ge HO2.out e.symm; omega) (fun k hk => by have := own_blk_ge HO2.out hk; omega)); rw [show stv L ++ [.int .i64 0, .int .u64 0, .int .u64 0, .int .i64 0] = stv (L ++ [Tb.Slot.zero]) from stv_snoc L Tb.Slot.zero] at hown7; have HO7 := hide hown7; clear hown7 hg7) | fail)
        have HB8 := hide (HB2.out.trans (Bel.of HB7.out))
        go_roundw
        case rel => exact ⟨p, m + 1, c7, A7, L ++ [Tb.Slot.zero], by first | rfl | go_num, rfl, by have := HP5.out; omega, HO7, hide (fun s hs => by rcases List.mem_append.1 hs with h1 | h1; exact HK.out s h1; rw [List.mem_singleton.1 h1]; exact Tb.Slot.zero_ok), HD7, HB8⟩
        case measure => have := HP5.out; simp [intOf]; omega
      · have z1 : (v == 0) = false := by simpa using hz
        clear hz
        go_wp2_with fail
        refine (slot_dice C b _ HD2.out).mono ?_
        rintro e w3 ⟨s, rfl, hs, hD, hB⟩
        have HSS := hide hs
        have HD3 := hide hD
        have HB3 := hide (HB2.out.trans (hB.mono hW2))
        have HO3 := hide (own_bel HO2.out hB hbW)
        have hW3 : W.heap.size ≤ w3.heap.size := HB3.out.size
        clear hD hB hs HD2 HB2 HO2
        go_wp2_with (first | (at_builtin; refine wpList_append_rd rfl _ _ _ rfl slotTy (base := W.heap.size) rfl (HO3.out.alloc (.cells #[.int .i64 s.kind, .int .u64 s.desc, .int .u64 s.target, .int .i64 s.fin] 25)) rfl (Row.slot w3 s 25) (by simp [Value.oneCell']) (by unfold maxLen; omega) (by omega) (by simp; omega) ?_; intro A7 c7 w7 hown7 hg7 _; have HB7 := hide (below_own ((Below.refl W.heap.size w3).alloc hW3 _) (HO3.out.alloc _) hg7 (by simp; omega)); have HD7 := hide ((HD3.out.alloc _).grown hg7 (fun e => by have := own_blk_ge HO3.out e.symm; omega) (fun k hk => by have := own_blk_ge HO3.out hk; omega)); rw [stv_snoc L s] at hown7; have HO7 := hide hown7; clear hown7 hg7) | fail)
        have HB8 := hide (HB3.out.trans (Bel.of HB7.out))
        go_roundw
        case rel => exact ⟨p, m + 1, c7, A7, L ++ [s], by first | rfl | go_num, rfl, by have := HP5.out; omega, HO7, hide (fun x hx => by rcases List.mem_append.1 hx with h1 | h1; exact HK.out x h1; rw [List.mem_singleton.1 h1]; exact HSS.out.1), HD7, HB8⟩
        case measure => have := HP5.out; simp [intOf]; omega
end Go.Proofs.Ytejhnfeligifgaa
