/- Layer 10, package table: Valid, Get, Put, Clear: contracts. -/
import Derived.Test.YtdglcpepgodcpaaDoorTbSlot
import Derived.Test.YtdglcpepgodcpaaDoorCloneB
import Derived.Test.YtdglcpepgodcpaaDoorObMem
namespace Go.Proofs.YtdglcpepgodcpaaDoor
open Go.RowKit

/-- The slots again, in a row of the call's own. -/
def CloneT (n : Nat) (l : List Tb.Slot) (w : World) (e : Ending) (w' : World) : Prop := ∃ A c, e = .returned (.slice A n c) ∧ w'.ownsRow w.heap.size 86 4 (.slice A n c) n (stv l) ∧ Below w.heap.size w w'
set_option maxRecDepth 100000 in
set_option maxHeartbeats 4000000 in
theorem cloneT_any (l : List Tb.Slot) (A : Option Addr) (n cap B : Nat) (W : World) (h : Slots W B A n l) (hB : B ≤ W.heap.size) (hn : n ≤ 1000000) : Calls Tryd.prog 36 #[.slice A n cap] W (CloneT n l W) := by
  have hl := h.len
  have HR := hide (h.mono hB)
  have hn' : (n : Int) ≤ 1000000 := by omega
  clear h
  have heq : ∀ w : World, (binOp .eql 34 (.slice A n cap) (.slice none 0 0)).run Tryd.prog w = .ok (.bool A.isNone) w := fun w => Lib.run_eql_slice_nil w _ _ _ _ _ _ _ Tryd.underlying34
  cases A with
  | none =>
    have h0 : n = 0 := HR.out.2.2.1 rfl
    subst h0
    have hl0 := List.eq_nil_of_length_eq_zero hl
    subst hl0
    go_enter Tryd.func36, Tryd.ntmps36
    go_wp2_with fail
    go_ret
    exact ⟨none, 0, rfl, own_none, Below.refl _ _⟩
  | some a =>
    go_enter Tryd.func36, Tryd.ntmps36
    go_wp2_with (first | (at_builtin; refine wpList_append_rd rfl _ _ _ rfl slotTy (base := W.heap.size) rfl (own_empty W 86 4 (Nat.le_refl _)) (S := some a) (m := n) (d := cap) (news := stv l) rfl (HR.out.2.alloc (Nat.le_refl _) _) (stv_one _) (by unfold maxLen; omega) (by omega) (by simp) ?_; intro A3 c3 w3 hown3 hg3 _; have HB3 := hide (below_own ((Below.refl _ _).alloc (Nat.le_refl _) _) (own_empty W 86 4 (Nat.le_refl _)) hg3 (by simp)); rw [Nat.zero_add, List.nil_append] at hown3; have HO3 := hide hown3; clear hown3 hg3) | fail)
    go_ret
    exact ⟨A3, c3, rfl, HO3.out, HB3.out⟩

def FreePost (l : List Tb.Slot) (w : World) (e : Ending) (w' : World) : Prop := e = .returned (.int .i64 (if Tb.free l < l.length then (Tb.free l : Int) else -1)) ∧ Below w.heap.size w w'
theorem FreePost.of {l : List Tb.Slot} {w w' : World} {e : Ending} {r : Int} (h : (if Tb.free l < l.length then (Tb.free l : Int) else -1) = r) (he : e = .returned (.int .i64 r)) (hb : Below w.heap.size w w') : FreePost l w e w' := by subst h; exact ⟨he, hb⟩
theorem IntPost.of {r a : Int} {w w' : World} {e : Ending} (h : r = a) (he : e = .returned (.int .i64 a)) (hb : Below w.heap.size w w') : IntPost r w e w' := by subst h; exact ⟨he, hb⟩
set_option maxRecDepth 100000 in
set_option maxHeartbeats 8000000 in
theorem tbValid_any (l : List Tb.Slot) (A : Option Addr) (n cap : Nat) (W : World) (h : Slots W W.heap.size A n l) (hn : n ≤ cap ∧ cap ≤ 9223372036854775807) :
    Calls Tryd.prog 37 #[.slice A n cap] W (BoolPost (decide (Tb.Valid l)) W) := by
  have hl := h.len
  have HR := hide h
  have hn' : (n : Int) ≤ 9223372036854775807 := by omega
  have hnc : (n : Int) ≤ (cap : Int) := by omega
  clear h
  by_cases h16 : 16 < n
  · have h16' : (16 : Int) < (n : Int) := by omega
    have HF : Hid (decide (Tb.Valid l) = false) := hide (decide_eq_false (fun h => by have := h.1; omega))
    go_enter Tryd.func37, Tryd.ntmps37
    go_wp2_with fail
    go_ret
    exact ⟨ret_bool2 HF.out.symm, Below.refl _ _⟩
  · have h16' : ¬ (16 : Int) < (n : Int) := by omega
    rcases Nat.eq_zero_or_pos n with h0 | h0
    · subst h0
      have HF : Hid (decide (Tb.Valid l) = true) := hide (by rw [List.eq_nil_of_length_eq_zero hl]; exact decide_eq_true Tb.valid_nil)
      go_enter Tryd.func37, Tryd.ntmps37
      go_wp2_with fail
      go_loopw [24] (fun s24 wr => s24 = .int .i64 0 ∧ wr = W) (fun _ _ => 0)
      case atStart => exact ⟨rfl, rfl⟩
      case round =>
        obtain ⟨rfl, rfl⟩ := hrel
        go_wp2_with fail
        go_ret
        exact ⟨ret_bool2 HF.out.symm, Below.refl _ _⟩
    · obtain ⟨m, hm⟩ : ∃ m, n - 1 = m := ⟨_, rfl⟩
      have dm : (n : Int) - 1 = (m : Int) := by omega
      have h0' : (0 : Int) < (n : Int) := by omega
      have hmn : (m : Int) < (n : Int) := by omega
      obtain ⟨b, o, hml, rfl, hb, c0, c1, c2, c3⟩ := HR.out.at_ (show m < n by omega)
      have HL : Hid (Tb.lastOf l = l[m]) := hide (by subst hm; exact Tb.lastOf_eq hl (by omega))
      obtain ⟨x, hx⟩ : ∃ x, l[m] = x := ⟨_, rfl⟩
      rw [hx] at c0 c1 c2 c3
      rw [hx] at HL
      clear hx hm
      go_enter Tryd.func37, Tryd.ntmps37
      go_wp2_with (first | (refine wpList_val (by rfl) (exec_load_slot rfl rfl c0 c1 c2 c3) ?_) | fail)
      refine (isNone_any x _).mono ?_
      rintro e w2 ⟨rfl, hb2⟩
      have HB2 := hide hb2
      clear hb2 c0 c1 c2 c3
      by_cases hz : x.kind = 0
      · rw [show (x.kind == 0) = true by simpa using hz]
        have HF : Hid (decide (Tb.Valid l) = false) := hide (decide_eq_false (fun h => by have := h.2.2; rw [HL.out] at this; exact this hz))
        clear hz
        go_wp2_with fail
        go_ret
        exact ⟨ret_bool2 HF.out.symm, HB2.out⟩
      · rw [show (x.kind == 0) = false by simpa using hz]
        have HZ := hide hz
        clear hz
        go_wp2_with fail
        go_loopw [24] (fun s24 wr => ∃ k : Nat, s24 = .int .i64 (k : Int) ∧ k ≤ n ∧ Hid (Below W.heap.size W wr) ∧ Hid (∀ j (hj : j < l.length), j < k → l[j].Ok)) (fun s24 _ => n - (intOf s24).toNat)
        case atStart => exact ⟨0, rfl, by omega, HB2, hide (fun j _ hj => by omega)⟩
        case round =>
          obtain ⟨k, rfl, hk, HB, HC⟩ := hrel
          by_cases hlt : k < n
          · have hlt' : (k : Int) < (n : Int) := by omega
            obtain ⟨b', o', hkl, e', hb', c0, c1, c2, c3⟩ := (HR.out.below HB.out).at_ hlt
            cases e'
            obtain ⟨y, hy⟩ : ∃ y, l[k] = y := ⟨_, rfl⟩
            have HY := hide hy
            rw [hy] at c0 c1 c2 c3
            obtain ⟨w3, hw3, g, hg, w4, hw4, OZ, ON, hb4, hs4⟩ := start_zslot wr y
            have HB4 := hide (HB.out.trans (hb4.mono (by have := HB.out.size; omega)))
            clear hy hb4 hs4
            go_wp2_with (first | (refine wpList_val (by rfl) (exec_load_slot rfl rfl c0 c1 c2 c3) ?_) | (refine store_slot rfl _ _ rfl rfl (c := y) rfl OZ rfl ?_; rw [hw4]) | (refine wpList_val (by rfl) (exec_load_slot0 rfl rfl ON) ?_) | fail)
            refine (isSlot_any y _).mono ?_
            rintro e w5 ⟨rfl, hb5⟩
            have HB5 := hide (HB4.out.trans (hb5.mono HB4.out.size))
            clear hb5 c0 c1 c2 c3
            by_cases hok : y.Ok
            · rw [decide_eq_true hok]
              have HC2 : Hid (∀ j (hj : j < l.length), j < k + 1 → l[j].Ok) := hide (fun j hj hjk => by
                rcases Nat.lt_or_ge j k with h' | h'
                · exact HC.out j hj h'
                · obtain rfl : j = k := by omega
                  rw [HY.out]; exact hok)
              clear hok
              go_wp2_with fail
              go_roundw
              case rel => exact ⟨k + 1, by go_num, by omega, HB5, HC2⟩
              case measure => simp [intOf]; omega
            · rw [decide_eq_false hok]
              have HF : Hid (decide (Tb.Valid l) = false) := hide (decide_eq_false (fun h => hok (by have := h.2.1 l[k] (List.getElem_mem hkl); rwa [HY.out] at this)))
              clear hok
              go_wp2_with fail
              go_ret
              exact ⟨ret_bool2 HF.out.symm, HB5.out⟩
          · obtain rfl : k = n := by omega
            have HF : Hid (decide (Tb.Valid l) = true) := hide (decide_eq_true ⟨by omega, fun s hs => by
              obtain ⟨j, hj, rfl⟩ := List.getElem_of_mem hs
              exact HC.out j hj (by omega), by rw [HL.out]; exact HZ.out⟩)
            go_wp2_with fail
            go_ret
            exact ⟨ret_bool2 HF.out.symm, HB.out⟩

/-- A slot, an error. -/
def GetPost10 (r : Tb.Slot × Int) (w : World) (e : Ending) (w' : World) : Prop := e = .returned (.tuple #[sta r.1, .int .i64 r.2]) ∧ Below w.heap.size w w'
theorem GetPost10.of {r : Tb.Slot × Int} {w w' : World} {e : Ending} {s : Tb.Slot} {c : Int} (hr : r = (s, c)) (he : e = .returned (.tuple #[sta s, .int .i64 c])) (hb : Below w.heap.size w w') : GetPost10 r w e w' := by subst hr; exact ⟨he, hb⟩
theorem GetPost10.got {r : Tb.Slot × Int} {w w' : World} {e : Ending} {s : Tb.Slot} {c : Int} (h : GetPost10 r w e w') (hr : r = (s, c)) : e = .returned (.tuple #[sta s, .int .i64 c]) ∧ Below w.heap.size w w' := by subst hr; exact h
theorem Tb.get_at {l : List Tb.Slot} {k : Nat} (hk : k < l.length) (hz : l[k].kind ≠ 0) : Tb.get l (k : Int) = (l[k], 0) := by
  unfold Tb.get
  have e : l.getD ((k : Int)).toNat Tb.Slot.zero = l[k] := by rw [Int.toNat_natCast, List.getD_eq_getElem?_getD, List.getElem?_eq_getElem hk]; rfl
  rw [e, if_pos ⟨by omega, by omega, hz⟩]
theorem Tb.get_none {l : List Tb.Slot} {k : Nat} (hk : k < l.length) (hz : l[k].kind = 0) : Tb.get l (k : Int) = (Tb.Slot.zero, 6) := by
  unfold Tb.get
  have e : l.getD ((k : Int)).toNat Tb.Slot.zero = l[k] := by rw [Int.toNat_natCast, List.getD_eq_getElem?_getD, List.getElem?_eq_getElem hk]; rfl
  rw [e, if_neg (by rintro ⟨_, _, h⟩; exact h hz)]
theorem Tb.get_out {l : List Tb.Slot} {i : Int} (h : ¬ (0 ≤ i ∧ i < (l.length : Int))) : Tb.get l i = (Tb.Slot.zero, 6) := by
  unfold Tb.get
  rw [if_neg (by rintro ⟨h1, h2, _⟩; exact h ⟨h1, h2⟩)]
theorem ret_slot {w : World} {fn : Func} {p u : Tmp} (hr : fn.results = #[.cell p 86, .tmp u]) (tmps : Array Value) {g : Nat} (hp : tmps.getD p undef = .pointer (some ⟨g, 0, none⟩)) {y : Tb.Slot} {t : TypeId} (h : Obl w g t #[.int .i64 y.kind, .int .u64 y.desc, .int .u64 y.target, .int .i64 y.fin]) :
    (results fn tmps).run Tryd.prog w = .ok (.tuple #[sta y, tmps.getD u undef]) w := results_cell_2 hr tmps hp h Tryd.underlying86 rfl slotSize
theorem start_slot0 (w : World) : ∃ w1, w.alloc (.cells #[.int .i64 0, .int .u64 0, .int .u64 0, .int .i64 0] 86) = w1 ∧ Obl w1 w.heap.size 86 #[.int .i64 0, .int .u64 0, .int .u64 0, .int .i64 0] ∧ Below w.heap.size w w1 ∧ w1.heap.size = w.heap.size + 1 :=
  ⟨_, rfl, Obl.make w _ _, (Below.refl _ _).alloc (Nat.le_refl _) _, by simp⟩
theorem built_slot0 : Tryd.prog.built 86 [] = some #[.int .i64 0, .int .u64 0, .int .u64 0, .int .i64 0] := by kernel_rfl
end Go.Proofs.YtdglcpepgodcpaaDoor
