/- Layer 10, package table: Put, Clear: contracts. -/
import Derived.Test.YtejhnfeligifgaaTbOps
import Derived.Test.YtejhnfeligifgaaStr
namespace Go.Proofs.Ytejhnfeligifgaa
open Go.RowKit

theorem below_cells {w w' : World} {B g : Nat} (h : Below B w w') (hg : B ≤ g) (o : Nat) (vs : List Value) : Below B w (w'.setCells g o vs) := by
  induction vs generalizing o w' with
  | nil => exact h
  | cons v r ih => exact ih (h.setCell (p := ⟨g, o, none⟩) hg v) (o + 1)
section
variable {w : World} {base n c g k : Nat} {e : TypeId} {l : List Tb.Slot}
/-- A slot of a row of the call's own is written. -/
theorem own_setSlot (h : w.ownsRow base e 4 (.slice (some ⟨g, 0, none⟩) n c) n (stv l)) (hk : k < l.length) (x : Tb.Slot) :
    (w.setCells g (k * 4) [.int .i64 x.kind, .int .u64 x.desc, .int .u64 x.target, .int .i64 x.fin]).ownsRow base e 4 (.slice (some ⟨g, 0, none⟩) n c) n (stv (l.set k x)) := by
  rw [← stv_set l k hk x]
  exact own_set (own_set (own_set (own_set h _) _) _) _
theorem own_there (h : w.ownsRow base e 4 (.slice (some ⟨g, 0, none⟩) n c) n (stv l)) (hk : k < l.length) : w.there g (k * 4) 4 := fun j hj => by
  refine ⟨?_, own_free h _⟩
  have h1 := stv_get hk hj
  have h2 : (stc l[k])[j]? = some ((stc l[k])[j]'(by simpa [stc] using hj)) := List.getElem?_eq_getElem _
  rw [own_cell h (h1.trans h2)]
  rfl
end
theorem store_slot_mid {ops : Array Oper} {rest : List Oper} {o : Oper} {a : Act} {w : World} {Q : Exit → Act → World → Prop} (hgd : o.guard = none) (x y : Operand) (ho : o.op = .store 25 x y) {g k : Nat} (hx : a.eval x = .pointer (some ⟨g, k * 4, none⟩)) {s : Tb.Slot} (hy : a.eval y = sta s) {base n c : Nat} {e : TypeId} {l : List Tb.Slot}
    (h : w.ownsRow base e 4 (.slice (some ⟨g, 0, none⟩) n c) n (stv l)) (hk : k < l.length)
    (hK : wpList Try.prog ops Q rest (a.put o.dst undef) (w.setCells g (k * 4) [.int .i64 s.kind, .int .u64 s.desc, .int .u64 s.target, .int .i64 s.fin])) : wpList Try.prog ops Q (o :: rest) a w :=
  wpList_store_mid hgd _ x y ho g (k * 4) _ hx hy (own_there h hk) slotSize (slot_one s) hK

/-- A table, its slot's place, an error. -/
def PutPost (r : List Tb.Slot × Int × Int) (w : World) (e : Ending) (w' : World) : Prop := ∃ A n c, e = .returned (.tuple #[.slice A n c, .int .i64 r.2.1, .int .i64 r.2.2]) ∧ Slots w' w'.heap.size A n r.1 ∧ (n ≤ c ∧ c ≤ 9223372036854775807) ∧ Below w.heap.size w w'
theorem PutPost.of {r : List Tb.Slot × Int × Int} {w w' : World} {e : Ending} {l : List Tb.Slot} {i c : Int} {A : Option Addr} {n d : Nat} (hr : r = (l, i, c)) (he : e = .returned (.tuple #[.slice A n d, .int .i64 i, .int .i64 c])) (h : Slots w' w'.heap.size A n l) (hn : n ≤ d ∧ d ≤ 9223372036854775807) (hb : Below w.heap.size w w') : PutPost r w e w' := by
  subst hr; exact ⟨A, n, d, he, h, hn, hb⟩
theorem PutPost.got {r : List Tb.Slot × Int × Int} {w w' : World} {e : Ending} {l : List Tb.Slot} {i c : Int} (h : PutPost r w e w') (hr : r = (l, i, c)) : ∃ A n d, e = .returned (.tuple #[.slice A n d, .int .i64 i, .int .i64 c]) ∧ Slots w' w'.heap.size A n l ∧ (n ≤ d ∧ d ≤ 9223372036854775807) ∧ Below w.heap.size w w' := by subst hr; exact h
theorem Tb.put_bad {l : List Tb.Slot} {s : Tb.Slot} (h : ¬ (Tb.Valid l ∧ s.Ok ∧ s.kind ≠ 0)) : Tb.put l s = ([], 0, 1) := by unfold Tb.put; rw [if_neg h]
theorem Tb.put_full {l : List Tb.Slot} {s : Tb.Slot} (h : Tb.Valid l ∧ s.Ok ∧ s.kind ≠ 0) (hf : ¬ Tb.free l < 16) : Tb.put l s = ([], 0, 3) := by unfold Tb.put; rw [if_pos h, if_neg hf]
theorem Tb.put_end {l : List Tb.Slot} {s : Tb.Slot} {n : Nat} (h : Tb.Valid l ∧ s.Ok ∧ s.kind ≠ 0) (hf : Tb.free l < 16) (hn : l.length = n) (h2 : Tb.free l = n) : Tb.put l s = (l ++ [s], (n : Int), 0) := by
  unfold Tb.put Tb.putL; rw [if_pos h, if_pos hf, if_neg (by omega), h2]
theorem Tb.put_in {l : List Tb.Slot} {s : Tb.Slot} {k : Nat} (h : Tb.Valid l ∧ s.Ok ∧ s.kind ≠ 0) (hf : Tb.free l < 16) (hk : Tb.free l = k) (h2 : k < l.length) : Tb.put l s = (l.set k s, (k : Int), 0) := by
  subst hk
  unfold Tb.put Tb.putL; rw [if_pos h, if_pos hf, if_pos h2]
theorem Row.slot (w : World) (x : Tb.Slot) (t : TypeId) : Row (w.alloc (.cells #[.int .i64 x.kind, .int .u64 x.desc, .int .u64 x.target, .int .i64 x.fin] t)) (w.heap.size + 1) 4 (some ⟨w.heap.size, 0, none⟩) 1 [.int .i64 x.kind, .int .u64 x.desc, .int .u64 x.target, .int .i64 x.fin] :=
  ⟨by simp, by simp, (Row.list w [.int .i64 x.kind, .int .u64 x.desc, .int .u64 x.target, .int .i64 x.fin] t).rd⟩
theorem Row.slot0 (w : World) (t : TypeId) : Row (w.alloc (.cells #[.int .i64 0, .int .u64 0, .int .u64 0, .int .i64 0] t)) (w.heap.size + 1) 4 (some ⟨w.heap.size, 0, none⟩) 1 [.int .i64 0, .int .u64 0, .int .u64 0, .int .i64 0] := Row.slot w Tb.Slot.zero t
set_option maxRecDepth 100000 in
set_option maxHeartbeats 8000000 in
theorem tbPut_any (l : List Tb.Slot) (s : Tb.Slot) (A : Option Addr) (n cap B : Nat) (W : World) (h : Slots W B A n l) (hB : B ≤ W.heap.size) (hn : n ≤ cap ∧ cap ≤ 9223372036854775807) :
    Calls Try.prog 13 #[.slice A n cap, sta s] W (PutPost (Tb.put l s) W) := by
  have hl := h.len
  obtain ⟨w1, hw, m, hm, O1, hb, hs⟩ := start_sl W s
  subst hm
  have HB := hide hb
  have HR := hide ((h.mono hB).later hb)
  clear hb h
  go_enter Try.func13, Try.ntmps13
  go_wp2_with fail
  refine (tbValid_any l A n cap _ HR.out hn).mono ?_
  rintro e w2 ⟨rfl, hb2⟩
  have HR2 := hide (HR.out.later hb2)
  have O2 := O1.below hb2 O1.lt
  have HB2 := hide (HB.out.trans (hb2.mono HB.out.size))
  have HS2 : Hid (W.heap.size < w2.heap.size) := hide (O2.lt)
  clear hb2 O1 HR HB
  by_cases hv : Tb.Valid l
  case neg =>
    rw [decide_eq_false hv]
    have HF := hide (Tb.put_bad (s := s) (fun h => hv h.1))
    clear hv
    go_wp2_with fail
    go_ret3
    exact PutPost.of HF.out rfl Slots.nil (by omega) HB2.out
  rw [decide_eq_true hv]
  have HV := hide hv
  have h16 : n ≤ 16 := by have := hv.1; omega
  clear hv
  go_wp2_with (first | (refine wpList_val (by rfl) (exec_load_slot0 rfl rfl O2) ?_) | fail)
  refine (isSlot_any s _).mono ?_
  rintro e w3 ⟨rfl, hb3⟩
  have HR3 := hide (HR2.out.later hb3)
  have O3 := O2.below hb3 O2.lt
  have HB3 := hide (HB2.out.trans (hb3.mono HB2.out.size))
  clear hb3 O2 HR2 HB2
  by_cases hok : s.Ok
  case neg =>
    rw [decide_eq_false hok]
    have HF := hide (Tb.put_bad (l := l) (fun h => hok h.2.1))
    clear hok
    go_wp2_with fail
    go_ret3
    exact PutPost.of HF.out rfl Slots.nil (by omega) HB3.out
  rw [decide_eq_true hok]
  have HOK := hide hok
  clear hok
  go_wp2_with (first | (refine wpList_val (by rfl) (exec_load_slot0 rfl rfl O3) ?_) | fail)
  refine (isNone_any s _).mono ?_
  rintro e w4 ⟨rfl, hb4⟩
  have HR4 := hide (HR3.out.later hb4)
  have O4 := O3.below hb4 O3.lt
  have HB4 := hide (HB3.out.trans (hb4.mono HB3.out.size))
  clear hb4 O3 HR3 HB3
  by_cases hz : s.kind = 0
  · rw [show (s.kind == 0) = true by simpa using hz]
    have HF := hide (Tb.put_bad (l := l) (s := s) (fun h => h.2.2 hz))
    clear hz
    go_wp2_with fail
    go_ret3
    exact PutPost.of HF.out rfl Slots.nil (by omega) HB4.out
  rw [show (s.kind == 0) = false by simpa using hz]
  have HA : Hid (Tb.Valid l ∧ s.Ok ∧ s.kind ≠ 0) := hide ⟨HV.out, HOK.out, hz⟩
  clear hz HOK HV
  go_wp2_with fail
  refine (firstNone_any l A n cap _ HR4.out (by omega)).mono ?_
  rintro e w5 ⟨rfl, hb5⟩
  have HR5 := hide (HR4.out.later hb5)
  have O5 := O4.below hb5 O4.lt
  have HB5 := hide (HB4.out.trans (hb5.mono HB4.out.size))
  have hfl := Tb.free_le l
  clear hb5 O4 HR4 HB4
  obtain ⟨k, hk⟩ : ∃ k, Tb.free l = k := ⟨_, rfl⟩
  rw [hk] at hfl ⊢
  have HK := hide hk
  clear hk
  by_cases hf : k < 16
  case neg =>
    have HF := hide (Tb.put_full HA.out (by rw [HK.out]; exact hf))
    have hf' : (16 : Int) ≤ (k : Int) := by omega
    clear hf
    go_wp2_with fail
    go_ret3
    exact PutPost.of HF.out rfl Slots.nil (by omega) HB5.out
  have hf' : ¬ (16 : Int) ≤ (k : Int) := by omega
  go_wp2_with fail
  refine (cloneT_any l A n cap _ _ HR5.out (Nat.le_refl _) (by omega)).mono ?_
  rintro e w6 ⟨A6, c6, rfl, hown6, hb6⟩
  have O6 := O5.below hb6 O5.lt
  have HB6 := hide (HB5.out.trans (hb6.mono HB5.out.size))
  have HO6 := hide hown6
  have HS5 : Hid (W.heap.size < w5.heap.size) := hide O5.lt
  have hs56 : w5.heap.size ≤ w6.heap.size := hb6.size
  clear hb6 O5 hown6 HR5
  by_cases hkn : k = n
  · subst hkn
    have ekk : ((k : Int) == (k : Int)) = true := by simp
    have HF := hide (Tb.put_end HA.out (by rw [HK.out]; exact hf) hl HK.out)
    go_wp2_with (first | (refine wpList_val (by rfl) (exec_build rfl rfl built_slot0) ?_) | (at_builtin; refine wpList_append_rd rfl _ _ _ rfl slotTy (base := w5.heap.size) rfl (HO6.out.alloc (.cells #[.int .i64 0, .int .u64 0, .int .u64 0, .int .i64 0] 25)) rfl (Row.slot0 w6 25) (by simp [Value.oneCell']) (by unfold maxLen; omega) (by omega) (by simp; omega) ?_; intro A7 c7 w7 hown7 hg7 _; have HB7 := hide (below_own ((Below.refl w5.heap.size w6).alloc hs56 _) (HO6.out.alloc _) hg7 (by simp; omega)); rw [show stv l ++ [.int .i64 0, .int .u64 0, .int .u64 0, .int .i64 0] = stv (l ++ [Tb.Slot.zero]) from stv_snoc l Tb.Slot.zero] at hown7; obtain ⟨g, rfl, hgl⟩ := own_addr hown7 (by omega); have HO7 := hide hown7; have O7 := O6.below HB7.out HS5.out; clear hown7 hg7) | (refine wpList_val (by rfl) (exec_load_slot0 rfl rfl O7) ?_) | (refine store_slot_mid rfl _ _ rfl rfl (s := s) rfl HO7.out (by simp; omega) ?_) | fail)
    go_ret3
    have h8 := own_setSlot HO7.out (k := k) (by simp; omega) s
    have hset : (l ++ [Tb.Slot.zero]).set k s = l ++ [s] := by rw [List.set_append_right _ _ (by omega)]; simp [hl]
    rw [hset] at h8
    exact PutPost.of HF.out rfl (Slots.of_own h8) ⟨own_cap h8, own_cap63 h8⟩ (below_cells (HB6.out.trans (HB7.out.mono (by have := HS5.out; omega))) (by have := HS5.out; omega) _ _)
  · have ekn : ((k : Int) == (n : Int)) = false := by simp; omega
    have hkl : k < n := by omega
    have HF := hide (Tb.put_in HA.out (by rw [HK.out]; exact hf) HK.out (by omega))
    obtain ⟨g, rfl, hgl⟩ := own_addr HO6.out (by omega)
    have hkn' : (k : Int) < (n : Int) := by omega
    go_wp2_with (first | (refine wpList_val (by rfl) (exec_load_slot0 rfl rfl O6) ?_) | (refine store_slot_mid rfl _ _ rfl rfl (s := s) rfl HO6.out (by omega) ?_) | fail)
    go_ret3
    have h8 := own_setSlot HO6.out (k := k) (by omega) s
    exact PutPost.of HF.out rfl (Slots.of_own h8) ⟨own_cap h8, own_cap63 h8⟩ (below_cells HB6.out (by have := HS5.out; omega) _ _)
end Go.Proofs.Ytejhnfeligifgaa
