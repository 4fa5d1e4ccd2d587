/- Layer 10, package table: Hold and Drop: contracts. | Layer 10, package table: Hold and Drop: contracts. | Layer 10, the reference: Hold and Drop: contracts. (Written by tools/mktbrefhold.py.) -/
import Derived.Test.YtejhnfeligifgaaTcCop
import Derived.Test.YtejhnfeligifgaaObMem
import Derived.Test.YtejhnfeligifgaaRegionD
import Derived.BigQuiet
import Derived.Test.YtejhnfeligifgaaRegionX
namespace Go.Proofs.Ytejhnfeligifgaa
open Go.RowKit

/-- Where an object counts a slot. -/
def Tb.Slot.off (s : Tb.Slot) : Nat := if s.kind = 2 then 27 else if s.kind = 3 then 28 else if s.kind = 4 then 32 + s.fin.toNat else 2
namespace Ob
def cnt (o : Ob) (s : Tb.Slot) : Int := if s.kind = 2 then o.readers else if s.kind = 3 then o.writers else if s.kind = 4 then (if s.fin = 0 then o.e0 else o.e1) else o.refs
def setCnt (o : Ob) (s : Tb.Slot) (v : Int) : Ob := if s.kind = 2 then { o with readers := v } else if s.kind = 3 then { o with writers := v } else if s.kind = 4 then (if s.fin = 0 then { o with e0 := v } else { o with e1 := v }) else { o with refs := v }
/-- Which error: the slot is none, the object is not its holder. -/
def fits (o : Ob) (s : Tb.Slot) : Int := if s.Ok then (if (Tb.holder s).1 = 0 ∨ o.id ≠ (Tb.holder s).1 ∨ o.kind ≠ (Tb.holder s).2 then 10 else 0) else 1
theorem cell_off {o : Ob} {s : Tb.Slot} (h : s.kind = 4 → s.fin = 0 ∨ s.fin = 1) : (oc o)[s.off]? = some (.int .i64 (o.cnt s)) := by
  unfold Tb.Slot.off cnt
  by_cases h2 : s.kind = 2
  · rw [if_pos h2, if_pos h2]; rfl
  · by_cases h3 : s.kind = 3
    · rw [if_neg h2, if_neg h2, if_pos h3, if_pos h3]; rfl
    · by_cases h4 : s.kind = 4
      · rw [if_neg h2, if_neg h2, if_neg h3, if_neg h3, if_pos h4, if_pos h4]
        rcases h h4 with e | e <;> rw [e] <;> rfl
      · rw [if_neg h2, if_neg h2, if_neg h3, if_neg h3, if_neg h4, if_neg h4]; rfl
theorem put_off {o : Ob} {s : Tb.Slot} (h : s.kind = 4 → s.fin = 0 ∨ s.fin = 1) (v : Int) : (oc o).setIfInBounds s.off (.int .i64 v) = oc (o.setCnt s v) := by
  unfold Tb.Slot.off setCnt
  by_cases h2 : s.kind = 2
  · rw [if_pos h2, if_pos h2]; rfl
  · by_cases h3 : s.kind = 3
    · rw [if_neg h2, if_neg h2, if_pos h3, if_pos h3]; rfl
    · by_cases h4 : s.kind = 4
      · rw [if_neg h2, if_neg h2, if_neg h3, if_neg h3, if_pos h4, if_pos h4]
        rcases h h4 with e | e <;> rw [e] <;> rfl
      · rw [if_neg h2, if_neg h2, if_neg h3, if_neg h3, if_neg h4, if_neg h4]; rfl
theorem cnt_relist (o c : Ob) (s : Tb.Slot) : (o.relist c).cnt s = o.cnt s := rfl
end Ob
theorem Tb.Slot.ok_fin {s : Tb.Slot} (h : s.Ok) : s.kind = 4 → s.fin = 0 ∨ s.fin = 1 := fun h4 => by
  unfold Tb.Slot.Ok at h
  rw [if_neg (by omega)] at h
  rcases h.2.2.2.2 with e | e
  · exact .inl e
  · exact .inr e.1
theorem Ob.fits_ok {o : Ob} {s : Tb.Slot} (h : o.fits s = 0) : s.Ok := by
  unfold Ob.fits at h
  by_cases hk : s.Ok
  · exact hk
  · rw [if_neg hk] at h; omega

theorem start_os (W : World) (o : Ob) (s : Tb.Slot) : ∃ w1, (W.alloc (.cells (oc o) 61)).alloc (.cells #[.int .i64 s.kind, .int .u64 s.desc, .int .u64 s.target, .int .i64 s.fin] 25) = w1 ∧
    Obl w1 W.heap.size 61 (oc o) ∧ Obl w1 (W.heap.size + 1) 25 #[.int .i64 s.kind, .int .u64 s.desc, .int .u64 s.target, .int .i64 s.fin] ∧ Below W.heap.size W w1 ∧ w1.heap.size = W.heap.size + 2 := by
  refine ⟨_, rfl, (Obl.make W _ _).alloc _, ?_, ((Below.refl _ _).alloc (Nat.le_refl _) _).alloc (by simp) _, by simp⟩
  have := Obl.make (W.alloc (.cells (oc o) 61)) 25 #[.int .i64 s.kind, .int .u64 s.desc, .int .u64 s.target, .int .i64 s.fin]
  rwa [World.size_alloc] at this
set_option maxRecDepth 100000 in
set_option maxHeartbeats 8000000 in
theorem tbCheck_any (o : Ob) (s : Tb.Slot) (W : World) : Calls Try.prog 51 #[.agg (oc o), sta s] W (IntPost (o.fits s) W) := by
  obtain ⟨w1, hw, OA, OS, hb, hs⟩ := start_os W o s
  have HB := hide hb
  clear hb
  go_enter Try.func51, Try.ntmps51
  go_wp2_with (first | (refine wpList_val (by rfl) (exec_load_slot0 rfl rfl OS) ?_) | fail)
  refine (isSlot_any s _).mono ?_
  rintro e w2 ⟨rfl, hb2⟩
  have OA2 := OA.below hb2 OA.lt
  have OS2 := OS.below hb2 OS.lt
  have HB2 := hide (HB.out.trans (hb2.mono HB.out.size))
  clear hb2 OA OS HB
  by_cases hk : s.Ok
  case neg =>
    rw [decide_eq_false hk]
    have HF : Hid (o.fits s = 1) := hide (by unfold Ob.fits; rw [if_neg hk])
    clear hk
    go_wp2_with fail
    go_ret
    exact IntPost.of HF.out rfl HB2.out
  rw [decide_eq_true hk]
  have HK := hide hk
  clear hk
  go_wp2_with (first | (refine wpList_val (by rfl) (exec_load_slot0 rfl rfl OS2) ?_) | fail)
  refine (holder_any s _).mono ?_
  rintro e w3 ⟨rfl, hb3⟩
  have OA3 := OA2.below hb3 OA2.lt
  have HB3 := hide (HB2.out.trans (hb3.mono HB2.out.size))
  have k0 : w3.cell? ⟨W.heap.size, 0, none⟩ = some (.int .u64 o.id) := OA3.cell 0
  have k1 : w3.cell? ⟨W.heap.size, 1, none⟩ = some (.int .i64 o.kind) := OA3.cell 1
  clear hb3 OA2 OA3 OS2 HB2
  obtain ⟨x, hx⟩ : ∃ x, (Tb.holder s).1 = x := ⟨_, rfl⟩
  obtain ⟨y, hy⟩ : ∃ y, (Tb.holder s).2 = y := ⟨_, rfl⟩
  rw [hx, hy]
  have HX := hide hx
  have HY := hide hy
  clear hx hy
  by_cases g1 : x = 0
  · have HF : Hid (o.fits s = 10) := hide (by unfold Ob.fits; rw [if_pos HK.out, if_pos (.inl (by rw [HX.out]; exact g1))])
    have z1 : (x == 0) = true := by simpa using g1
    clear g1
    go_wp2_with fail
    go_ret
    exact IntPost.of HF.out rfl HB3.out
  have z1 : (x == 0) = false := by simpa using g1
  by_cases g2 : o.id = x
  case neg =>
    have HF : Hid (o.fits s = 10) := hide (by unfold Ob.fits; rw [if_pos HK.out, if_pos (.inr (.inl (by rw [HX.out]; exact g2)))])
    have z2 : (o.id != x) = true := by simpa using g2
    clear g1 g2
    go_wp2_with fail
    go_ret
    exact IntPost.of HF.out rfl HB3.out
  have z2 : (o.id != x) = false := by simpa using g2
  by_cases g3 : o.kind = y
  case neg =>
    have HF : Hid (o.fits s = 10) := hide (by unfold Ob.fits; rw [if_pos HK.out, if_pos (.inr (.inr (by rw [HY.out]; exact g3)))])
    have z3 : (o.kind != y) = true := by simpa using g3
    clear g1 g2 g3
    go_wp2_with fail
    go_ret
    exact IntPost.of HF.out rfl HB3.out
  have z3 : (o.kind != y) = false := by simpa using g3
  have HF : Hid (o.fits s = 0) := hide (by
    unfold Ob.fits
    rw [if_pos HK.out, HX.out, HY.out, if_neg (by rintro (h | h | h); exact g1 h; exact h g2; exact h g3)])
  clear g1 g2 g3
  go_wp2_with fail
  go_ret
  exact IntPost.of HF.out rfl HB3.out

/-- A pointer into a block. -/
def PtrPost (b k : Nat) (w : World) (e : Ending) (w' : World) : Prop := e = .returned (.pointer (some ⟨b, k, none⟩)) ∧ Below w.heap.size w w'
theorem PtrPost.of {b k i : Nat} {w w' : World} {e : Ending} (h : k = i) (he : e = .returned (.pointer (some ⟨b, i, none⟩))) (hb : Below w.heap.size w w') : PtrPost b k w e w' := by subst h; exact ⟨he, hb⟩
set_option maxRecDepth 100000 in
set_option maxHeartbeats 8000000 in
theorem count_any (b : Nat) (s : Tb.Slot) (W : World) (h : s.kind = 4 → s.fin = 0 ∨ s.fin = 1) : Calls Try.prog 52 #[.pointer (some ⟨b, 0, none⟩), sta s] W (PtrPost b s.off W) := by
  obtain ⟨w1, hw, m, hm, O1, hb, hs⟩ := start_sl W s
  subst hm
  have HB := hide hb
  have k0 := O1.cell 0
  have k3 := O1.cell 3
  simp at k0 k3
  clear hb
  by_cases h2 : s.kind = 2
  · have HF : Hid (s.off = 27) := hide (by unfold Tb.Slot.off; rw [if_pos h2])
    have z1 : (s.kind == 2) = true := by simpa using h2
    clear h2 h O1
    go_enter Try.func52, Try.ntmps52
    go_wp2_with fail
    go_ret
    exact PtrPost.of HF.out rfl HB.out
  have z1 : (s.kind == 2) = false := by simpa using h2
  by_cases h3 : s.kind = 3
  · have HF : Hid (s.off = 28) := hide (by unfold Tb.Slot.off; rw [if_neg h2, if_pos h3])
    have z2 : (s.kind == 3) = true := by simpa using h3
    clear h2 h3 h O1
    go_enter Try.func52, Try.ntmps52
    go_wp2_with fail
    go_ret
    exact PtrPost.of HF.out rfl HB.out
  have z2 : (s.kind == 3) = false := by simpa using h3
  by_cases h4 : s.kind = 4
  · have z3 : (s.kind == 4) = true := by simpa using h4
    have HF : Hid (s.off = 32 + s.fin.toNat) := hide (by unfold Tb.Slot.off; rw [if_neg h2, if_neg h3, if_pos h4])
    have kc : w1.heap.size = W.heap.size + 1 := hs
    rcases h h4 with e | e
    · rw [e] at k3 HF
      clear h2 h3 h4 h e O1
      go_enter Try.func52, Try.ntmps52
      go_wp2_with fail
      refine region_B (by kernel_rfl) (W.heap.size + 1) ?_
      refine takeB 0 rfl (by kernel_rfl) (fun _ _ _ h => h) (by rfl) (by intro w' hg; go_simp; try with_reducible rfl) ?_
      refine takeB 1 rfl (by kernel_rfl) (fun _ _ _ h => h) (by rfl) (by intro w' hg; go_simp; try with_reducible rfl) ?_
      refine takeB 2 rfl (by kernel_rfl) (fun _ _ _ h => h) (by rfl) (by intro w' hg; have g3 := (hg.cell (p := ⟨W.heap.size, 3, none⟩) (by simp only; omega)).trans (show w1.drew.cell? _ = _ from k3); go_simp; try with_reducible rfl) ?_
      refine takeB 3 rfl (by kernel_rfl) (fun _ _ _ h => h) (by rfl) (by intro w' hg; go_simp; try with_reducible rfl) ?_
      refine takeB 4 rfl (by kernel_rfl) (fun _ _ _ h => h) (by rfl) (by intro w' hg; go_simp; try with_reducible rfl) ?_
      refine takeB 5 rfl (by kernel_rfl) (fun _ _ _ h => h) (by rfl) (by intro w' hg; go_simp; try with_reducible rfl) ?_
      refine takeB 6 rfl (by kernel_rfl) (fun _ _ _ h => h) (by rfl) (by intro w' hg; go_simp; try with_reducible rfl) ?_
      refine doneB (by kernel_rfl) ?_
      go_simp
      go_wp2
      go_ret
      exact PtrPost.of HF.out rfl (HB.out.trans ⟨rfl, rfl, rfl, Nat.le_refl _, fun _ _ => rfl⟩)
    · rw [e] at k3 HF
      clear h2 h3 h4 h e O1
      go_enter Try.func52, Try.ntmps52
      go_wp2_with fail
      refine region_B (by kernel_rfl) (W.heap.size + 1) ?_
      refine takeB 0 rfl (by kernel_rfl) (fun _ _ _ h => h) (by rfl) (by intro w' hg; go_simp; try with_reducible rfl) ?_
      refine takeB 1 rfl (by kernel_rfl) (fun _ _ _ h => h) (by rfl) (by intro w' hg; go_simp; try with_reducible rfl) ?_
      refine takeB 2 rfl (by kernel_rfl) (fun _ _ _ h => h) (by rfl) (by intro w' hg; have g3 := (hg.cell (p := ⟨W.heap.size, 3, none⟩) (by simp only; omega)).trans (show w1.drew.cell? _ = _ from k3); go_simp; try with_reducible rfl) ?_
      refine takeB 3 rfl (by kernel_rfl) (fun _ _ _ h => h) (by rfl) (by intro w' hg; go_simp; try with_reducible rfl) ?_
      refine takeB 4 rfl (by kernel_rfl) (fun _ _ _ h => h) (by rfl) (by intro w' hg; go_simp; try with_reducible rfl) ?_
      refine takeB 5 rfl (by kernel_rfl) (fun _ _ _ h => h) (by rfl) (by intro w' hg; go_simp; try with_reducible rfl) ?_
      refine takeB 6 rfl (by kernel_rfl) (fun _ _ _ h => h) (by rfl) (by intro w' hg; go_simp; try with_reducible rfl) ?_
      refine doneB (by kernel_rfl) ?_
      go_simp
      go_wp2
      go_ret
      exact PtrPost.of HF.out rfl (HB.out.trans ⟨rfl, rfl, rfl, Nat.le_refl _, fun _ _ => rfl⟩)
  · have z3 : (s.kind == 4) = false := by simpa using h4
    have HF : Hid (s.off = 2) := hide (by unfold Tb.Slot.off; rw [if_neg h2, if_neg h3, if_neg h4])
    clear h2 h3 h4 h O1
    go_enter Try.func52, Try.ntmps52
    go_wp2_with fail
    go_ret
    exact PtrPost.of HF.out rfl HB.out
end Go.Proofs.Ytejhnfeligifgaa
namespace Go.Proofs.Ytejhnfeligifgaa
open Go.RowKit

namespace Ob
def holdE (o : Ob) (s : Tb.Slot) : Int := if o.fits s = 0 then (if 1073741824 ≤ o.cnt s then 3 else 0) else o.fits s
def dropE (o : Ob) (s : Tb.Slot) : Int := if o.fits s = 0 then (if o.cnt s < 1 then 8 else 0) else o.fits s
/-- Nothing refers to it. -/
def gone (o : Ob) : Bool := if o.kind = 4 then o.refs == 0 else if o.kind = 5 then (o.readers == 0 && o.writers == 0) else if o.kind = 7 then decide ([o.e0, o.e1] = [0, 0]) else false
end Ob
/-- An object with another count, an error. -/
def HeldPost (r : Int) (o : Ob) (s : Tb.Slot) (v : Int) (X : Cont) (w : World) (e : Ending) (w' : World) : Prop :=
  ((r ≠ 0 ∧ e = .returned (.tuple #[.agg (oc Ob.zero), .int .i64 r])) ∨ (r = 0 ∧ ∃ c, e = .returned (.tuple #[.agg (oc ((o.relist c).setCnt s v)), .int .i64 0]) ∧ Holds w' w'.heap.size c X)) ∧ Below w.heap.size w w'
theorem HeldPost.no {r i : Int} {o : Ob} {s : Tb.Slot} {v : Int} {X : Cont} {w w' : World} {e : Ending} (h : r = i) (h0 : i ≠ 0) (he : e = .returned (.tuple #[.agg (oc Ob.zero), .int .i64 i])) (hb : Below w.heap.size w w') : HeldPost r o s v X w e w' := by subst h; exact ⟨.inl ⟨h0, he⟩, hb⟩
theorem HeldPost.yes {r : Int} {o c : Ob} {s : Tb.Slot} {v : Int} {X : Cont} {w w' : World} {e : Ending} (h : r = 0) (he : e = .returned (.tuple #[.agg (oc ((o.relist c).setCnt s v)), .int .i64 0])) (hH : Holds w' w'.heap.size c X) (hb : Below w.heap.size w w') : HeldPost r o s v X w e w' := ⟨.inr ⟨h, c, he, hH⟩, hb⟩
theorem start_osz (W : World) (o : Ob) (s : Tb.Slot) : ∃ w1, ((W.alloc (.cells (oc o) 61)).alloc (.cells #[.int .i64 s.kind, .int .u64 s.desc, .int .u64 s.target, .int .i64 s.fin] 25)).alloc (.cells #[.int .u64 0, .int .i64 0, .int .i64 0, .int .i64 0, .int .u64 0, .slice none 0 0, .slice none 0 0, .slice none 0 0, .int .i64 0, .int .i64 0, .int .i64 0, .int .i64 0, .int .i64 0, .int .i64 0, .int .i64 0, .int .i64 0, .int .i64 0, .int .i64 0, .slice none 0 0, .slice none 0 0, .int .i64 0, .int .i64 0, .int .i64 0, .slice none 0 0, .slice none 0 0, .int .i64 0, .int .u64 0, .int .i64 0, .int .i64 0, .slice none 0 0, .slice none 0 0, .slice none 0 0, .int .i64 0, .int .i64 0, .int .i64 0, .slice none 0 0] 61) = w1 ∧
    Obl w1 W.heap.size 61 (oc o) ∧ Obl w1 (W.heap.size + 1) 25 #[.int .i64 s.kind, .int .u64 s.desc, .int .u64 s.target, .int .i64 s.fin] ∧ Obl w1 (W.heap.size + 2) 61 (oc Ob.zero) ∧ Below W.heap.size W w1 ∧ w1.heap.size = W.heap.size + 3 := by
  obtain ⟨w1, hw, OA, OS, hb, hs⟩ := start_os W o s
  rw [hw]
  refine ⟨_, rfl, OA.alloc _, OS.alloc _, ?_, hb.alloc (by omega) _, by simp [hs]⟩
  have := Obl.make w1 61 (oc Ob.zero)
  rw [hs] at this
  exact this
set_option maxRecDepth 100000 in
set_option maxHeartbeats 16000000 in
theorem tbHold_any (o : Ob) (s : Tb.Slot) (X : Cont) (W : World) (h : Holds W W.heap.size o X) (hX : X.Short) (h64 : -9223372036854775808 ≤ o.cnt s ∧ o.cnt s ≤ 9223372036854775807) :
    Calls Try.prog 26 #[.agg (oc o), sta s] W (HeldPost (o.holdE s) o s (o.cnt s + 1) X W) := by
  obtain ⟨w1, hw, OA, OS, OZ, hb, hs⟩ := start_osz W o s
  have HB := hide hb
  have HH := hide (h.later hb)
  clear hb h
  go_enter Try.func26, Try.ntmps26
  go_wp2_with (first | (refine load_ob rfl _ rfl rfl OA ?_) | (refine wpList_val (by rfl) (exec_load_slot0 rfl rfl OS) ?_) | fail)
  refine (tbCheck_any o s _).mono ?_
  rintro e w2 ⟨rfl, hb2⟩
  have OA2 := OA.below hb2 OA.lt
  have OS2 := OS.below hb2 OS.lt
  have OZ2 := OZ.below hb2 OZ.lt
  have HB2 := hide (HB.out.trans (hb2.mono HB.out.size))
  have HH2 := hide (HH.out.later hb2)
  clear hb2 OA OS OZ HB HH
  by_cases hf : o.fits s = 0
  case neg =>
    have HF : Hid (o.holdE s = o.fits s) := hide (by unfold Ob.holdE; rw [if_neg hf])
    have HN := hide hf
    have z1 : (o.fits s != 0) = true := by simpa using hf
    clear hf
    go_wp2_with (first | (refine wpList_val (by rfl) (exec_build rfl rfl built_zero) ?_) | (refine store_ob rfl _ _ rfl rfl (c := Ob.zero) rfl OZ2 rfl ?_) | fail)
    refine bodyPost_ret (ret_ob2 rfl _ rfl (OZ2.row_same _)) rfl ?_
    exact HeldPost.no HF.out HN.out rfl (below_row HB2.out (by omega) _)
  rw [hf]
  have HF := hide hf
  have hfin := Tb.Slot.ok_fin (Ob.fits_ok hf)
  have HFIN := hide hfin
  clear hf
  have zz : ((0 : Int) != 0) = false := by decide
  go_wp2_with (first | (refine wpList_val (by rfl) (exec_load_slot0 rfl rfl OS2) ?_) | fail)
  refine (count_any _ s _ HFIN.out).mono ?_
  rintro e w3 ⟨rfl, hb3⟩
  have OA3 := OA2.below hb3 OA2.lt
  have OS3 := OS2.below hb3 OS2.lt
  have OZ3 := OZ2.below hb3 OZ2.lt
  have HB3 := hide (HB2.out.trans (hb3.mono HB2.out.size))
  have HH3 := hide (HH2.out.later hb3)
  have kc : w3.cell? ⟨W.heap.size, s.off, none⟩ = some (.int .i64 (o.cnt s)) := by rw [OA3.cell]; exact Ob.cell_off HFIN.out
  clear hb3 OA2 OS2 OZ2 HB2 HH2 hfin
  by_cases hc : 1073741824 ≤ o.cnt s
  · have HE : Hid (o.holdE s = 3) := hide (by unfold Ob.holdE; rw [if_pos HF.out, if_pos hc])
    go_wp2_with (first | (refine wpList_val (by rfl) (exec_build rfl rfl built_zero) ?_) | (refine store_ob rfl _ _ rfl rfl (c := Ob.zero) rfl OZ3 rfl ?_) | fail)
    refine bodyPost_ret (ret_ob2 rfl _ rfl (OZ3.row_same _)) rfl ?_
    exact HeldPost.no HE.out (by decide) rfl (below_row HB3.out (by omega) _)
  have HE : Hid (o.holdE s = 0) := hide (by unfold Ob.holdE; rw [if_pos HF.out, if_neg hc])
  go_wp2_with (first | (refine load_ob rfl _ rfl rfl OA3 ?_) | fail)
  refine (tbCopied_any o X _ HH3.out hX).mono ?_
  rintro e w4 ⟨c, rfl, hH4, hb4⟩
  have OS4 := OS3.below hb4 OS3.lt
  have OZ4 := OZ3.below hb4 OZ3.lt
  have HB4 := hide (HB3.out.trans (hb4.mono HB3.out.size))
  have hs3 : W.heap.size + 3 ≤ w3.heap.size := by have := OZ3.lt; omega
  have hs34 : w3.heap.size ≤ w4.heap.size := hb4.size
  have HH4 := hide hH4
  clear hb4 OA3 OS3 OZ3 HB3 HH3 kc hH4
  obtain ⟨w5, hw5, g, hg, w6, hw6, ON, hb6, hs6⟩ : ∃ w5, w4.alloc (.cells #[.int .u64 0, .int .i64 0, .int .i64 0, .int .i64 0, .int .u64 0, .slice none 0 0, .slice none 0 0, .slice none 0 0, .int .i64 0, .int .i64 0, .int .i64 0, .int .i64 0, .int .i64 0, .int .i64 0, .int .i64 0, .int .i64 0, .int .i64 0, .int .i64 0, .slice none 0 0, .slice none 0 0, .int .i64 0, .int .i64 0, .int .i64 0, .slice none 0 0, .slice none 0 0, .int .i64 0, .int .u64 0, .int .i64 0, .int .i64 0, .slice none 0 0, .slice none 0 0, .slice none 0 0, .int .i64 0, .int .i64 0, .int .i64 0, .slice none 0 0] 61) = w5 ∧ ∃ g, w4.heap.size = g ∧ ∃ w6, w5.setRow g (oc (o.relist c)) = w6 ∧ (Obl w5 g 61 (oc Ob.zero)) ∧ Below g w4 w6 ∧ w6.heap.size = g + 1 := by
    refine ⟨_, rfl, _, rfl, _, rfl, Obl.make w4 _ _, below_row ((Below.refl _ _).alloc (Nat.le_refl _) _) (Nat.le_refl _) _, by simp [World.setRow]⟩
  have O6 : Obl w6 g 61 (oc (o.relist c)) := by rw [← hw6]; exact ON.row_same _
  have HG := hide hg
  have OS6 := OS4.below hb6 (by omega)
  have OZ6 := OZ4.below hb6 (by omega)
  have HB6 := hide (HB4.out.trans (hb6.mono (by omega)))
  have HX6 := hide hb6
  clear hb6 OS4 OZ4 HB4
  go_wp2_with (first | (refine store_ob rfl _ _ rfl rfl (c := o.relist c) rfl ON rfl ?_; rw [hw6]) | (refine wpList_val (by rfl) (exec_load_slot0 rfl rfl OS6) ?_) | fail)
  refine (count_any _ s _ HFIN.out).mono ?_
  rintro e w7 ⟨rfl, hb7⟩
  have O7 := O6.below hb7 O6.lt
  have OZ7 := OZ6.below hb7 OZ6.lt
  have HB7 := hide (HB6.out.trans (hb7.mono HB6.out.size))
  have kc : w7.cell? ⟨g, s.off, none⟩ = some (.int .i64 (o.cnt s)) := by rw [O7.cell]; exact Ob.cell_off (o := o.relist c) HFIN.out
  have kf := O7.free s.off
  obtain ⟨w8, hw8⟩ : ∃ w8, w7.setCell ⟨g, s.off, none⟩ (.int .i64 (o.cnt s + 1)) = w8 := ⟨_, rfl⟩
  have O8 : Obl w8 g 61 (oc ((o.relist c).setCnt s (o.cnt s + 1))) := by
    have := O7.put s.off (.int .i64 (o.cnt s + 1))
    rw [← hw8]
    rwa [Ob.put_off HFIN.out] at this
  have OZ8 : Obl w8 (W.heap.size + 2) 61 (oc Ob.zero) := by rw [← hw8]; exact OZ7.put_other (b' := g) (by omega) s.off _
  have HB8 : Hid (Below W.heap.size W w8) := hide (by rw [← hw8]; exact HB7.out.setCell (p := ⟨g, s.off, none⟩) (by simp only; omega) _)
  have HX8 : Hid (Below g w4 w8) := hide (by rw [← hw8]; exact (HX6.out.trans (hb7.mono (by omega))).setCell (p := ⟨g, s.off, none⟩) (Nat.le_refl _) _)
  clear hb7 OS6 OZ6 HB6 O6 O7 OZ7 HB7 ON HX6
  go_wp2_with (first | (rw [hw8]) | (refine load_ob rfl _ rfl rfl O8 ?_) | (refine store_ob rfl _ _ rfl rfl (c := (o.relist c).setCnt s (o.cnt s + 1)) rfl OZ8 rfl ?_) | fail)
  refine bodyPost_ret (ret_ob2 rfl _ rfl (OZ8.row_same _)) rfl ?_
  refine HeldPost.yes HE.out rfl (HH4.out _ ?_ ?_) (below_row HB8.out (by omega) _)
  · have := HX8.out.size
    simpa [World.setRow] using this
  · intro k k1 k2
    rw [setRow_other _ _ _ (by omega)]
    exact HX8.out.block k (by have := HG.out; omega)

set_option maxRecDepth 100000 in
set_option maxHeartbeats 8000000 in
theorem unused_any (o : Ob) (W : World) : Calls Try.prog 57 #[.agg (oc o)] W (BoolPost o.gone W) := by
  obtain ⟨w1, hw, O, hb⟩ : ∃ w1, W.alloc (.cells (oc o) 61) = w1 ∧ Obl w1 W.heap.size 61 (oc o) ∧ Below W.heap.size W w1 := ⟨_, rfl, Obl.make W _ _, (Below.refl _ _).alloc (Nat.le_refl _) _⟩
  have HB := hide hb
  have k1 : w1.cell? ⟨W.heap.size, 1, none⟩ = some (.int .i64 o.kind) := O.cell 1
  have k2 : w1.cell? ⟨W.heap.size, 2, none⟩ = some (.int .i64 o.refs) := O.cell 2
  have k27 : w1.cell? ⟨W.heap.size, 27, none⟩ = some (.int .i64 o.readers) := O.cell 27
  have k28 : w1.cell? ⟨W.heap.size, 28, none⟩ = some (.int .i64 o.writers) := O.cell 28
  clear hb
  by_cases h4 : o.kind = 4
  · have HF : Hid (o.gone = (o.refs == 0)) := hide (by unfold Ob.gone; rw [if_pos h4])
    have z1 : (o.kind == 4) = true := by simpa using h4
    clear h4
    go_enter Try.func57, Try.ntmps57
    go_wp2_with fail
    go_ret
    exact ⟨ret_bool2 HF.out.symm, HB.out⟩
  have z1 : (o.kind == 4) = false := by simpa using h4
  by_cases h5 : o.kind = 5
  · have z2 : (o.kind == 5) = true := by simpa using h5
    cases hr : o.readers == 0
    · have HF : Hid (o.gone = false) := hide (by unfold Ob.gone; rw [if_neg h4, if_pos h5, hr]; rfl)
      clear h4 h5
      go_enter Try.func57, Try.ntmps57
      go_wp2_with fail
      go_ret
      exact ⟨ret_bool2 HF.out.symm, HB.out⟩
    · have HF : Hid (o.gone = (o.writers == 0)) := hide (by unfold Ob.gone; rw [if_neg h4, if_pos h5, hr]; rfl)
      clear h4 h5
      go_enter Try.func57, Try.ntmps57
      go_wp2_with fail
      go_ret
      exact ⟨ret_bool2 HF.out.symm, HB.out⟩
  have z2 : (o.kind == 5) = false := by simpa using h5
  by_cases h7 : o.kind = 7
  · have z3 : (o.kind == 7) = true := by simpa using h7
    have HF : Hid (o.gone = decide ([o.e0, o.e1] = [0, 0])) := hide (by unfold Ob.gone; rw [if_neg h4, if_neg h5, if_pos h7])
    clear h4 h5 h7
    go_enter Try.func57, Try.ntmps57
    go_wp2_with (first | (refine wpList_val (by rfl) (exec_load_ends rfl rfl O) ?_) | (refine wpList_val (by rfl) (exec_build rfl rfl built_ends) ?_) | (refine wpList_val (by rfl) (exec_eql_ends rfl (L := [o.e0, o.e1]) (M := [0, 0]) rfl rfl rfl rfl) ?_) | fail)
    go_ret
    exact ⟨by rw [HF.out]; simp, HB.out⟩
  · have z3 : (o.kind == 7) = false := by simpa using h7
    have HF : Hid (o.gone = false) := hide (by unfold Ob.gone; rw [if_neg h4, if_neg h5, if_neg h7])
    clear h4 h5 h7
    go_enter Try.func57, Try.ntmps57
    go_wp2_with fail
    go_ret
    exact ⟨ret_bool2 HF.out.symm, HB.out⟩

/-- An object with another count, whether nothing refers to it, an error. -/
def DropPost (r : Int) (o : Ob) (s : Tb.Slot) (v : Int) (X : Cont) (w : World) (e : Ending) (w' : World) : Prop :=
  ((r ≠ 0 ∧ e = .returned (.tuple #[.agg (oc Ob.zero), .bool false, .int .i64 r])) ∨ (r = 0 ∧ ∃ c, e = .returned (.tuple #[.agg (oc ((o.relist c).setCnt s v)), .bool (o.setCnt s v).gone, .int .i64 0]) ∧ Holds w' w'.heap.size c X)) ∧ Below w.heap.size w w'
theorem DropPost.no {r i : Int} {o : Ob} {s : Tb.Slot} {v : Int} {X : Cont} {w w' : World} {e : Ending} (h : r = i) (h0 : i ≠ 0) (he : e = .returned (.tuple #[.agg (oc Ob.zero), .bool false, .int .i64 i])) (hb : Below w.heap.size w w') : DropPost r o s v X w e w' := by subst h; exact ⟨.inl ⟨h0, he⟩, hb⟩
theorem DropPost.yes {r : Int} {o c : Ob} {s : Tb.Slot} {v : Int} {X : Cont} {w w' : World} {e : Ending} (h : r = 0) (he : e = .returned (.tuple #[.agg (oc ((o.relist c).setCnt s v)), .bool ((o.relist c).setCnt s v).gone, .int .i64 0])) (hH : Holds w' w'.heap.size c X) (hb : Below w.heap.size w w') : DropPost r o s v X w e w' := by
  refine ⟨.inr ⟨h, c, ?_, hH⟩, hb⟩
  rw [he]
  have : ((o.relist c).setCnt s v).gone = (o.setCnt s v).gone := by
    unfold Ob.setCnt
    split
    · rfl
    · split
      · rfl
      · split
        · split <;> rfl
        · rfl
  rw [this]
theorem results_cell_tt {P : Program} {w : World} {fn : Func} {p u v : Tmp} {ty : TypeId} (hr : fn.results = #[.cell p ty, .tmp u, .tmp v]) (tmps : Array Value) {b : Nat} {t : TypeId} {cs : Array Value} {d : TypeDesc}
    (hp : tmps.getD p undef = .pointer (some ⟨b, 0, none⟩)) (h : Obl w b t cs) (hu : P.underlying ty = some d) (hd : (match d with | .struct _ | .array _ _ => true | _ => false) = true) (hi : (P.info? ty).map (·.size) = some cs.size) :
    (results fn tmps).run P w = .ok (.tuple #[.agg cs, tmps.getD u undef, tmps.getD v undef]) w := by
  have hp' : tmps[p]?.getD undef = .pointer (some ⟨b, 0, none⟩) := by simpa using hp
  simp [results, hr, hp', asAddr, h.load hu hd hi]
theorem ret_ob3 {w : World} {fn : Func} {p u v : Tmp} (hr : fn.results = #[.cell p 61, .tmp u, .tmp v]) (tmps : Array Value) {g : Nat} (hp : tmps.getD p undef = .pointer (some ⟨g, 0, none⟩)) {y : Ob} {t : TypeId} (h : Obl w g t (oc y)) :
    (results fn tmps).run Try.prog w = .ok (.tuple #[.agg (oc y), tmps.getD u undef, tmps.getD v undef]) w := results_cell_tt hr tmps hp h Try.underlying61 rfl obSize
theorem wp_store_ob10 {o : Oper} {a : Act} {w : World} {Q : Exit → Act → World → Prop} {K : Act → World → Prop} {x y : Operand} (ho : o.op = .store 61 x y) {g : Nat} (hx : a.eval x = .pointer (some ⟨g, 0, none⟩)) {c : Ob} (hy : a.eval y = .agg (oc c)) {old : Array Value} {t : TypeId} (h : Obl w g t old) (hold : old.size = 36)
    (hK : K (a.put o.dst undef) (w.setRow g (oc c))) : o.wp Try.prog a w K Q := wp_store_row _ x y ho g (oc c) hx hy t old h obSize hold (oc_one c) hK
set_option maxRecDepth 100000 in
set_option maxHeartbeats 16000000 in
theorem tbDrop_any (o : Ob) (s : Tb.Slot) (X : Cont) (W : World) (h : Holds W W.heap.size o X) (hX : X.Short) (h64 : -9223372036854775808 ≤ o.cnt s ∧ o.cnt s ≤ 9223372036854775807) :
    Calls Try.prog 28 #[.agg (oc o), sta s] W (DropPost (o.dropE s) o s (o.cnt s - 1) X W) := by
  obtain ⟨w1, hw, OA, OS, OZ, hb, hs⟩ := start_osz W o s
  have HB := hide hb
  have HH := hide (h.later hb)
  clear hb h
  go_enter Try.func28, Try.ntmps28
  go_wp2_with (first | (refine load_ob rfl _ rfl rfl OA ?_) | (refine wpList_val (by rfl) (exec_load_slot0 rfl rfl OS) ?_) | fail)
  refine (tbCheck_any o s _).mono ?_
  rintro e w2 ⟨rfl, hb2⟩
  have OA2 := OA.below hb2 OA.lt
  have OS2 := OS.below hb2 OS.lt
  have OZ2 := OZ.below hb2 OZ.lt
  have HB2 := hide (HB.out.trans (hb2.mono HB.out.size))
  have HH2 := hide (HH.out.later hb2)
  clear hb2 OA OS OZ HB HH
  by_cases hf : o.fits s = 0
  case neg =>
    have HF : Hid (o.dropE s = o.fits s) := hide (by unfold Ob.dropE; rw [if_neg hf])
    have HN := hide hf
    have z1 : (o.fits s != 0) = true := by simpa using hf
    clear hf
    go_wp2_with (first | (refine wpList_val (by rfl) (exec_build rfl rfl built_zero) ?_) | (refine store_ob rfl _ _ rfl rfl (c := Ob.zero) rfl OZ2 rfl ?_) | fail)
    refine bodyPost_ret (ret_ob3 rfl _ rfl (OZ2.row_same _)) rfl ?_
    exact DropPost.no HF.out HN.out rfl (below_row HB2.out (by omega) _)
  rw [hf]
  have HF := hide hf
  have hfin := Tb.Slot.ok_fin (Ob.fits_ok hf)
  have HFIN := hide hfin
  clear hf
  have zz : ((0 : Int) != 0) = false := by decide
  go_wp2_with (first | (refine wpList_val (by rfl) (exec_load_slot0 rfl rfl OS2) ?_) | fail)
  refine (count_any _ s _ HFIN.out).mono ?_
  rintro e w3 ⟨rfl, hb3⟩
  have OA3 := OA2.below hb3 OA2.lt
  have OS3 := OS2.below hb3 OS2.lt
  have OZ3 := OZ2.below hb3 OZ2.lt
  have HB3 := hide (HB2.out.trans (hb3.mono HB2.out.size))
  have HH3 := hide (HH2.out.later hb3)
  have kc : w3.cell? ⟨W.heap.size, s.off, none⟩ = some (.int .i64 (o.cnt s)) := by rw [OA3.cell]; exact Ob.cell_off HFIN.out
  clear hb3 OA2 OS2 OZ2 HB2 HH2 hfin
  by_cases hc : o.cnt s < 1
  · have HE : Hid (o.dropE s = 8) := hide (by unfold Ob.dropE; rw [if_pos HF.out, if_pos hc])
    go_wp2_with (first | (refine wpList_val (by rfl) (exec_build rfl rfl built_zero) ?_) | (refine store_ob rfl _ _ rfl rfl (c := Ob.zero) rfl OZ3 rfl ?_) | fail)
    refine bodyPost_ret (ret_ob3 rfl _ rfl (OZ3.row_same _)) rfl ?_
    exact DropPost.no HE.out (by decide) rfl (below_row HB3.out (by omega) _)
  have HE : Hid (o.dropE s = 0) := hide (by unfold Ob.dropE; rw [if_pos HF.out, if_neg hc])
  go_wp2_with (first | (refine load_ob rfl _ rfl rfl OA3 ?_) | fail)
  refine (tbCopied_any o X _ HH3.out hX).mono ?_
  rintro e w4 ⟨c, rfl, hH4, hb4⟩
  have OS4 := OS3.below hb4 OS3.lt
  have OZ4 := OZ3.below hb4 OZ3.lt
  have HB4 := hide (HB3.out.trans (hb4.mono HB3.out.size))
  have hs3 : W.heap.size + 3 ≤ w3.heap.size := by have := OZ3.lt; omega
  have hs34 : w3.heap.size ≤ w4.heap.size := hb4.size
  have HH4 := hide hH4
  clear hb4 OA3 OS3 OZ3 HB3 HH3 kc hH4
  obtain ⟨w5, hw5, g, hg, w6, hw6, ON, hb6, hs6⟩ : ∃ w5, w4.alloc (.cells #[.int .u64 0, .int .i64 0, .int .i64 0, .int .i64 0, .int .u64 0, .slice none 0 0, .slice none 0 0, .slice none 0 0, .int .i64 0, .int .i64 0, .int .i64 0, .int .i64 0, .int .i64 0, .int .i64 0, .int .i64 0, .int .i64 0, .int .i64 0, .int .i64 0, .slice none 0 0, .slice none 0 0, .int .i64 0, .int .i64 0, .int .i64 0, .slice none 0 0, .slice none 0 0, .int .i64 0, .int .u64 0, .int .i64 0, .int .i64 0, .slice none 0 0, .slice none 0 0, .slice none 0 0, .int .i64 0, .int .i64 0, .int .i64 0, .slice none 0 0] 61) = w5 ∧ ∃ g, w4.heap.size = g ∧ ∃ w6, w5.setRow g (oc (o.relist c)) = w6 ∧ (Obl w5 g 61 (oc Ob.zero)) ∧ Below g w4 w6 ∧ w6.heap.size = g + 1 := by
    refine ⟨_, rfl, _, rfl, _, rfl, Obl.make w4 _ _, below_row ((Below.refl _ _).alloc (Nat.le_refl _) _) (Nat.le_refl _) _, by simp [World.setRow]⟩
  have O6 : Obl w6 g 61 (oc (o.relist c)) := by rw [← hw6]; exact ON.row_same _
  have HG := hide hg
  have OS6 := OS4.below hb6 (by omega)
  have OZ6 := OZ4.below hb6 (by omega)
  have HB6 := hide (HB4.out.trans (hb6.mono (by omega)))
  have HX6 := hide hb6
  clear hb6 OS4 OZ4 HB4
  go_wp2_with (first | (refine store_ob rfl _ _ rfl rfl (c := o.relist c) rfl ON rfl ?_; rw [hw6]) | (refine wpList_val (by rfl) (exec_load_slot0 rfl rfl OS6) ?_) | fail)
  refine (count_any _ s _ HFIN.out).mono ?_
  rintro e w7 ⟨rfl, hb7⟩
  have O7 := O6.below hb7 O6.lt
  have OZ7 := OZ6.below hb7 OZ6.lt
  have HB7 := hide (HB6.out.trans (hb7.mono HB6.out.size))
  have kc : w7.cell? ⟨g, s.off, none⟩ = some (.int .i64 (o.cnt s)) := by rw [O7.cell]; exact Ob.cell_off (o := o.relist c) HFIN.out
  have kf := O7.free s.off
  obtain ⟨w8, hw8⟩ : ∃ w8, w7.setCell ⟨g, s.off, none⟩ (.int .i64 (o.cnt s - 1)) = w8 := ⟨_, rfl⟩
  have O8 : Obl w8 g 61 (oc ((o.relist c).setCnt s (o.cnt s - 1))) := by
    have := O7.put s.off (.int .i64 (o.cnt s - 1))
    rw [← hw8]
    rwa [Ob.put_off HFIN.out] at this
  have OZ8 : Obl w8 (W.heap.size + 2) 61 (oc Ob.zero) := by rw [← hw8]; exact OZ7.put_other (b' := g) (by omega) s.off _
  have HB8 : Hid (Below W.heap.size W w8) := hide (by rw [← hw8]; exact HB7.out.setCell (p := ⟨g, s.off, none⟩) (by simp only; omega) _)
  have HX8 : Hid (Below g w4 w8) := hide (by rw [← hw8]; exact (HX6.out.trans (hb7.mono (by omega))).setCell (p := ⟨g, s.off, none⟩) (Nat.le_refl _) _)
  clear hb7 OS6 OZ6 HB6 O6 O7 OZ7 HB7 ON HX6
  go_wp2_with (first | (rw [hw8]) | fail)
  have hgz : W.heap.size + 2 < w8.heap.size := OZ8.lt
  have hgg : g < w8.heap.size := O8.lt
  have hgn : g ≠ W.heap.size + 2 := by omega
  refine region_D (by kernel_rfl) w8.heap.size (W.heap.size + 2) [3] ?_
  obtain ⟨u, hu, OU, OZU, HU, hus⟩ : ∃ u, w8.drew = u ∧ Obl u g 61 (oc ((o.relist c).setCnt s (o.cnt s - 1))) ∧ Obl u (W.heap.size + 2) 61 (oc Ob.zero) ∧ Hid (Below w8.heap.size w8 u) ∧ u.heap.size = w8.heap.size := ⟨_, rfl, O8, OZ8, hide ⟨rfl, rfl, rfl, Nat.le_refl _, fun _ _ => rfl⟩, rfl⟩
  rw [hu]
  clear hu
  refine takeD 0 [0, 3, 4, 5] rfl (by kernel_rfl) (fun _ _ _ h => h) (by rfl) (by intro w' hg; exact exec_load_ob rfl rfl (hg.obl OU (by omega) (by omega))) ?_
  refine takeD 1 [1, 2, 3, 4, 5] rfl (by kernel_rfl) (fun _ _ _ h => h) (by rfl) (by intro w' hg; exact exec_load_ob rfl rfl (hg.obl OU (by omega) (by omega))) ?_
  refine onlyD 2 rfl (by kernel_rfl) (by rfl) ?_
  intro K hK
  go_simp
  refine (unused_any _ _).mono ?_
  rintro e u1 ⟨rfl, hbu⟩
  have OZ9 := OZU.below hbu OZU.lt
  have HU9 : Hid (Below w8.heap.size w8 u1) := hide (HU.out.trans (hbu.mono (by omega)))
  refine hK _ _ (fun _ => Bel.of (hbu.mono (by omega))) ?_
  clear hK K hbu
  refine onlyD 3 rfl (by kernel_rfl) (by rfl) ?_
  intro K hK
  refine wp_store_ob10 rfl rfl (c := (o.relist c).setCnt s (o.cnt s - 1)) rfl OZ9 rfl ?_
  refine hK _ _ (fun h => absurd h (by decide)) ?_
  clear hK K
  refine takeDX 4 rfl (by kernel_rfl) (fun _ _ _ h => h) (by rfl) (by intro w'; go_simp; try with_reducible rfl) ?_
  refine takeDX 5 rfl (by kernel_rfl) (fun _ _ _ h => h) (by rfl) (by intro w'; go_simp; try with_reducible rfl) ?_
  refine doneD (by kernel_rfl) ?_
  go_simp
  go_wp2
  refine bodyPost_ret (ret_ob3 rfl _ rfl (OZ9.row_same _)) rfl ?_
  refine DropPost.yes HE.out rfl (HH4.out _ ?_ ?_) (below_row (HB8.out.trans (HU9.out.mono (by omega))) (by omega) _)
  · have h1 := HX8.out.size
    have h2 := HU9.out.size
    simpa [World.setRow] using (by omega : w4.heap.size ≤ u1.heap.size)
  · intro k k1 k2
    have hk4 : k < w8.heap.size := by have := HX8.out.size; omega
    rw [setRow_other _ _ _ (by omega), HU9.out.block k hk4]
    exact HX8.out.block k (by have := HG.out; omega)
end Go.Proofs.Ytejhnfeligifgaa
namespace Go.Proofs.Ytejhnfeligifgaa
open Go.RowKit

def kindR (s : Tb.Slot) : Int := if s.kind = 1 then 4 else if s.kind = 2 ∨ s.kind = 3 then 5 else if s.kind = 4 then 7 else 6
theorem kindR_holder {s : Tb.Slot} (hs : s.Ok) (h : (Tb.holder s).1 ≠ 0) : kindR s = (Tb.holder s).2 := by
  unfold kindR
  unfold Tb.holder at h ⊢
  rw [if_pos hs] at h ⊢
  by_cases h1 : s.kind = 1
  · rw [if_pos h1, if_pos h1]
  · by_cases h2 : s.kind = 2 ∨ s.kind = 3
    · rw [if_neg h1, if_neg h1, if_pos h2, if_pos h2]
    · by_cases h4 : s.kind = 4
      · rw [if_neg h1, if_neg h1, if_neg h2, if_neg h2, if_pos h4, if_pos h4]
      · by_cases h5 : s.kind = 5
        · rw [if_neg h1, if_neg h1, if_neg h2, if_neg h2, if_neg h4, if_neg h4, if_pos h5]
        · rw [if_neg h1, if_neg h2, if_neg h4, if_neg h5] at h
          exact absurd rfl h
set_option maxRecDepth 100000 in
set_option maxHeartbeats 8000000 in
theorem rfKind_any (s : Tb.Slot) (W : World) : Calls Try.prog 79 #[sta s] W (IntPost (kindR s) W) := by
  obtain ⟨w1, hw, m, hm, O1, hb, hs⟩ := start_sl W s
  subst hm
  have k0 := O1.cell 0
  simp at k0
  have HB := hide hb
  clear hb O1
  by_cases x1 : s.kind = 1
  · have HF : Hid (kindR s = 4) := hide (by unfold kindR; simp [x1])
    have y1 : (s.kind == 1) = true := by simpa using x1
    clear x1
    go_enter Try.func79, Try.ntmps79
    go_wp2_with fail
    go_ret
    exact IntPost.of HF.out rfl HB.out
  by_cases x2 : s.kind = 2
  · have HF : Hid (kindR s = 5) := hide (by unfold kindR; simp [x2])
    have y1 : (s.kind == 1) = false := by simpa using x1
    have y2 : (s.kind == 2) = true := by simpa using x2
    clear x1 x2
    go_enter Try.func79, Try.ntmps79
    go_wp2_with fail
    go_ret
    exact IntPost.of HF.out rfl HB.out
  by_cases x3 : s.kind = 3
  · have HF : Hid (kindR s = 5) := hide (by unfold kindR; simp [x3])
    have y1 : (s.kind == 1) = false := by simpa using x1
    have y2 : (s.kind == 2) = false := by simpa using x2
    have y3 : (s.kind == 3) = true := by simpa using x3
    clear x1 x2 x3
    go_enter Try.func79, Try.ntmps79
    go_wp2_with fail
    go_ret
    exact IntPost.of HF.out rfl HB.out
  by_cases x4 : s.kind = 4
  · have HF : Hid (kindR s = 7) := hide (by unfold kindR; simp [x4])
    have y1 : (s.kind == 1) = false := by simpa using x1
    have y2 : (s.kind == 2) = false := by simpa using x2
    have y3 : (s.kind == 3) = false := by simpa using x3
    have y4 : (s.kind == 4) = true := by simpa using x4
    clear x1 x2 x3 x4
    go_enter Try.func79, Try.ntmps79
    go_wp2_with fail
    go_ret
    exact IntPost.of HF.out rfl HB.out
  · have HF : Hid (kindR s = 6) := hide (by unfold kindR; simp [x1, x2, x3, x4])
    have y1 : (s.kind == 1) = false := by simpa using x1
    have y2 : (s.kind == 2) = false := by simpa using x2
    have y3 : (s.kind == 3) = false := by simpa using x3
    have y4 : (s.kind == 4) = false := by simpa using x4
    clear x1 x2 x3 x4
    go_enter Try.func79, Try.ntmps79
    go_wp2_with fail
    go_ret
    exact IntPost.of HF.out rfl HB.out
set_option maxRecDepth 100000 in
set_option maxHeartbeats 16000000 in
theorem rfFits_any (o : Ob) (s : Tb.Slot) (W : World) : Calls Try.prog 54 #[.agg (oc o), sta s] W (IntPost (o.fits s) W) := by
  obtain ⟨w1, hw, OA, OS, hb, hs⟩ := start_os W o s
  have HB := hide hb
  clear hb hs
  go_enter Try.func54, Try.ntmps54
  go_wp2_with (first | (refine wpList_val (by rfl) (exec_load_slot0 rfl rfl OS) ?_) | fail)
  refine (refSlot_any s _).mono ?_
  rintro e w2 ⟨rfl, hb2⟩
  have OA2 := OA.below hb2 OA.lt
  have OS2 := OS.below hb2 OS.lt
  have HB2 := hide (HB.out.trans (hb2.mono HB.out.size))
  clear hb2 OA OS HB
  by_cases hk : s.Ok
  case neg =>
    rw [decide_eq_false hk]
    have HF : Hid (o.fits s = 1) := hide (by unfold Ob.fits; rw [if_neg hk])
    clear hk
    go_wp2_with fail
    go_ret
    exact IntPost.of HF.out rfl HB2.out
  rw [decide_eq_true hk]
  have HK := hide hk
  clear hk
  go_wp2_with (first | (refine wpList_val (by rfl) (exec_load_slot0 rfl rfl OS2) ?_) | fail)
  refine (refHolder_any s _).mono ?_
  rintro e w3 ⟨rfl, hb3⟩
  have OA3 := OA2.below hb3 OA2.lt
  have OS3 := OS2.below hb3 OS2.lt
  have HB3 := hide (HB2.out.trans (hb3.mono HB2.out.size))
  clear hb3 OA2 OS2 HB2
  obtain ⟨x, hx⟩ : ∃ x, (Tb.holder s).1 = x := ⟨_, rfl⟩
  rw [hx]
  have HX := hide hx
  clear hx
  obtain ⟨wd, hwd, OAd, OSd, HBd, hds⟩ : ∃ wd, w3.drew = wd ∧ Obl wd W.heap.size 61 (oc o) ∧ Obl wd (W.heap.size + 1) 25 #[.int .i64 s.kind, .int .u64 s.desc, .int .u64 s.target, .int .i64 s.fin] ∧ Hid (Below W.heap.size W wd) ∧ w3.heap.size ≤ wd.heap.size := ⟨_, rfl, OA3, OS3, hide (HB3.out.trans ⟨rfl, rfl, rfl, Nat.le_refl _, fun _ _ => rfl⟩), Nat.le_refl _⟩
  have la := OA3.lt
  have ls := OS3.lt
  clear OA3 OS3 HB3
  go_wp2_with fail
  refine region_B (by kernel_rfl) w3.heap.size ?_
  rw [hwd]
  clear hwd
  by_cases g1 : x = 0
  · have HF : Hid (o.fits s = 10) := hide (by unfold Ob.fits; rw [if_pos HK.out, if_pos (.inl (by rw [HX.out]; exact g1))])
    have z1 : (x == 0) = true := by simpa using g1
    clear g1
    refine takeB 0 rfl (by kernel_rfl) (fun _ _ _ h => h) (by rfl) (by intro w' hg; go_simp; try with_reducible rfl) ?_
    refine takeB 1 rfl (by kernel_rfl) (fun _ _ _ h => h) (by rfl) (by intro w' hg; go_simp; try with_reducible rfl) ?_
    refine takeB 2 rfl (by kernel_rfl) (fun _ _ _ h => h) (by rfl) (by intro w' hg; go_simp; try with_reducible rfl) ?_
    refine skipB 3 rfl (by kernel_rfl) (fun _ _ _ h => h) (by kernel_rfl) ?_
    refine skipB 4 rfl (by kernel_rfl) (fun _ _ _ h => h) (by kernel_rfl) ?_
    refine skipB 5 rfl (by kernel_rfl) (fun _ _ _ h => h) (by kernel_rfl) ?_
    refine skipB 6 rfl (by kernel_rfl) (fun _ _ _ h => h) (by kernel_rfl) ?_
    refine takeB 7 rfl (by kernel_rfl) (fun _ _ _ h => h) (by rfl) (by intro w' hg; go_simp; try with_reducible rfl) ?_
    refine takeB 8 rfl (by kernel_rfl) (fun _ _ _ h => h) (by rfl) (by intro w' hg; go_simp; try with_reducible rfl) ?_
    refine skipB 9 rfl (by kernel_rfl) (fun _ _ _ h => h) (by kernel_rfl) ?_
    refine skipB 10 rfl (by kernel_rfl) (fun _ _ _ h => h) (by kernel_rfl) ?_
    refine skipB 11 rfl (by kernel_rfl) (fun _ _ _ h => h) (by kernel_rfl) ?_
    refine skipB 12 rfl (by kernel_rfl) (fun _ _ _ h => h) (by kernel_rfl) ?_
    refine skipB 13 rfl (by kernel_rfl) (fun _ _ _ h => h) (by kernel_rfl) ?_
    refine takeB 14 rfl (by kernel_rfl) (fun _ _ _ h => h) (by rfl) (by intro w' hg; go_simp; try with_reducible rfl) ?_
    refine doneB (by kernel_rfl) ?_
    go_simp
    go_wp2
    go_ret
    exact IntPost.of HF.out rfl HBd.out
  have z1 : (x == 0) = false := by simpa using g1
  by_cases g2 : o.id = x
  case neg =>
    have HF : Hid (o.fits s = 10) := hide (by unfold Ob.fits; rw [if_pos HK.out, if_pos (.inr (.inl (by rw [HX.out]; exact g2)))])
    have z2 : (o.id != x) = true := by simpa using g2
    clear g1 g2
    refine takeB 0 rfl (by kernel_rfl) (fun _ _ _ h => h) (by rfl) (by intro w' hg; go_simp; try with_reducible rfl) ?_
    refine takeB 1 rfl (by kernel_rfl) (fun _ _ _ h => h) (by rfl) (by intro w' hg; go_simp; try with_reducible rfl) ?_
    refine takeB 2 rfl (by kernel_rfl) (fun _ _ _ h => h) (by rfl) (by intro w' hg; go_simp; try with_reducible rfl) ?_
    refine takeB 3 rfl (by kernel_rfl) (fun _ _ _ h => h) (by kernel_rfl) (by intro w' hg; go_simp; try with_reducible rfl) ?_
    refine takeB 4 rfl (by kernel_rfl) (fun _ _ _ h => h) (by kernel_rfl) (by intro w' hg; have g1 : w'.cell? ⟨W.heap.size, 0, none⟩ = some (.int .u64 o.id) := (OAd.below hg la).cell 0; go_simp; try with_reducible rfl) ?_
    refine takeB 5 rfl (by kernel_rfl) (fun _ _ _ h => h) (by kernel_rfl) (by intro w' hg; go_simp; try with_reducible rfl) ?_
    refine takeB 6 rfl (by kernel_rfl) (fun _ _ _ h => h) (by kernel_rfl) (by intro w' hg; go_simp; try with_reducible rfl) ?_
    refine takeB 7 rfl (by kernel_rfl) (fun _ _ _ h => h) (by rfl) (by intro w' hg; go_simp; try with_reducible rfl) ?_
    refine takeB 8 rfl (by kernel_rfl) (fun _ _ _ h => h) (by rfl) (by intro w' hg; go_simp; try with_reducible rfl) ?_
    refine skipB 9 rfl (by kernel_rfl) (fun _ _ _ h => h) (by kernel_rfl) ?_
    refine skipB 10 rfl (by kernel_rfl) (fun _ _ _ h => h) (by kernel_rfl) ?_
    refine skipB 11 rfl (by kernel_rfl) (fun _ _ _ h => h) (by kernel_rfl) ?_
    refine skipB 12 rfl (by kernel_rfl) (fun _ _ _ h => h) (by kernel_rfl) ?_
    refine skipB 13 rfl (by kernel_rfl) (fun _ _ _ h => h) (by kernel_rfl) ?_
    refine takeB 14 rfl (by kernel_rfl) (fun _ _ _ h => h) (by rfl) (by intro w' hg; go_simp; try with_reducible rfl) ?_
    refine doneB (by kernel_rfl) ?_
    go_simp
    go_wp2
    go_ret
    exact IntPost.of HF.out rfl HBd.out
  have z2 : (o.id != x) = false := by simpa using g2
  have HKR := hide (kindR_holder HK.out (by rw [HX.out]; exact g1))
  have HG1 := hide g1
  have HG2 := hide g2
  clear g1 g2
  refine takeB 0 rfl (by kernel_rfl) (fun _ _ _ h => h) (by rfl) (by intro w' hg; go_simp; try with_reducible rfl) ?_
  refine takeB 1 rfl (by kernel_rfl) (fun _ _ _ h => h) (by rfl) (by intro w' hg; go_simp; try with_reducible rfl) ?_
  refine takeB 2 rfl (by kernel_rfl) (fun _ _ _ h => h) (by rfl) (by intro w' hg; go_simp; try with_reducible rfl) ?_
  refine takeB 3 rfl (by kernel_rfl) (fun _ _ _ h => h) (by kernel_rfl) (by intro w' hg; go_simp; try with_reducible rfl) ?_
  refine takeB 4 rfl (by kernel_rfl) (fun _ _ _ h => h) (by kernel_rfl) (by intro w' hg; have g1 : w'.cell? ⟨W.heap.size, 0, none⟩ = some (.int .u64 o.id) := (OAd.below hg la).cell 0; go_simp; try with_reducible rfl) ?_
  refine takeB 5 rfl (by kernel_rfl) (fun _ _ _ h => h) (by kernel_rfl) (by intro w' hg; go_simp; try with_reducible rfl) ?_
  refine takeB 6 rfl (by kernel_rfl) (fun _ _ _ h => h) (by kernel_rfl) (by intro w' hg; go_simp; try with_reducible rfl) ?_
  refine takeB 7 rfl (by kernel_rfl) (fun _ _ _ h => h) (by rfl) (by intro w' hg; go_simp; try with_reducible rfl) ?_
  refine takeB 8 rfl (by kernel_rfl) (fun _ _ _ h => h) (by rfl) (by intro w' hg; go_simp; try with_reducible rfl) ?_
  refine takeB 9 rfl (by kernel_rfl) (fun _ _ _ h => h) (by kernel_rfl) (by intro w' hg; go_simp; try with_reducible rfl) ?_
  refine takeB 10 rfl (by kernel_rfl) (fun _ _ _ h => h) (by kernel_rfl) (by intro w' hg; have g1 : w'.cell? ⟨W.heap.size, 1, none⟩ = some (.int .i64 o.kind) := (OAd.below hg la).cell 1; go_simp; try with_reducible rfl) ?_
  go_simp
  refine takeB 11 rfl (by kernel_rfl) (fun _ _ _ h => h) (by kernel_rfl) (by intro w' hg; exact exec_load_slot0 (y := s) rfl rfl (OSd.below hg ls)) ?_
  refine onlyB 12 rfl (by kernel_rfl) (by kernel_rfl) ?_
  intro K hK
  go_simp
  refine (rfKind_any s _).mono ?_
  rintro e v ⟨rfl, hv⟩
  have HBv := hide (HBd.out.trans (hv.mono HBd.out.size))
  refine hK _ _ (hv.mono hds) ?_
  clear hK K hv
  by_cases g3 : o.kind = kindR s
  · have z3 : (o.kind != kindR s) = false := by simpa using g3
    have HF : Hid (o.fits s = 0) := hide (by unfold Ob.fits; rw [if_pos HK.out, HX.out, ← HKR.out, if_neg (by rintro (h | h | h); exact HG1.out h; exact h HG2.out; exact h g3)])
    clear g3
    refine takeB 13 rfl (by kernel_rfl) (fun _ _ _ h => h) (by kernel_rfl) (by intro w' hg; go_simp; try with_reducible rfl) ?_
    refine takeB 14 rfl (by kernel_rfl) (fun _ _ _ h => h) (by rfl) (by intro w' hg; go_simp; try with_reducible rfl) ?_
    refine doneB (by kernel_rfl) ?_
    go_simp
    go_wp2
    go_ret
    exact IntPost.of HF.out rfl HBv.out
  · have z3 : (o.kind != kindR s) = true := by simpa using g3
    have HF : Hid (o.fits s = 10) := hide (by unfold Ob.fits; rw [if_pos HK.out, if_pos (.inr (.inr (by rw [← HKR.out]; exact g3)))])
    clear g3
    refine takeB 13 rfl (by kernel_rfl) (fun _ _ _ h => h) (by kernel_rfl) (by intro w' hg; go_simp; try with_reducible rfl) ?_
    refine takeB 14 rfl (by kernel_rfl) (fun _ _ _ h => h) (by rfl) (by intro w' hg; go_simp; try with_reducible rfl) ?_
    refine doneB (by kernel_rfl) ?_
    go_simp
    go_wp2
    go_ret
    exact IntPost.of HF.out rfl HBv.out
set_option maxRecDepth 100000 in
set_option maxHeartbeats 8000000 in
theorem rfCount_any (o : Ob) (s : Tb.Slot) (W : World) (h : s.kind = 4 → s.fin = 0 ∨ s.fin = 1) : Calls Try.prog 55 #[.agg (oc o), sta s] W (IntPost (o.cnt s) W) := by
  obtain ⟨w1, hw, OA, OS, hb, hs⟩ := start_os W o s
  have HB := hide hb
  have k0 : w1.cell? ⟨W.heap.size + 1, 0, none⟩ = some (.int .i64 s.kind) := OS.cell 0
  have k3 : w1.cell? ⟨W.heap.size + 1, 3, none⟩ = some (.int .i64 s.fin) := OS.cell 3
  have q2 : w1.cell? ⟨W.heap.size, 2, none⟩ = some (.int .i64 o.refs) := OA.cell 2
  have q27 : w1.cell? ⟨W.heap.size, 27, none⟩ = some (.int .i64 o.readers) := OA.cell 27
  have q28 : w1.cell? ⟨W.heap.size, 28, none⟩ = some (.int .i64 o.writers) := OA.cell 28
  have q32 : w1.cell? ⟨W.heap.size, 32, none⟩ = some (.int .i64 o.e0) := OA.cell 32
  have q33 : w1.cell? ⟨W.heap.size, 33, none⟩ = some (.int .i64 o.e1) := OA.cell 33
  clear hb hs OA OS
  by_cases x2 : s.kind = 2
  · skip
    have HF : Hid (o.cnt s = o.readers) := hide (by unfold Ob.cnt; simp [x2])
    have y2 : (s.kind == 2) = true := by simpa using x2
    clear x2 h
    go_enter Try.func55, Try.ntmps55
    go_wp2_with fail
    go_ret
    exact IntPost.of HF.out rfl HB.out
  have y2 : (s.kind == 2) = false := by simpa using x2
  by_cases x3 : s.kind = 3
  · skip
    have HF : Hid (o.cnt s = o.writers) := hide (by unfold Ob.cnt; simp [x3])
    have y3 : (s.kind == 3) = true := by simpa using x3
    clear x2 x3 h
    go_enter Try.func55, Try.ntmps55
    go_wp2_with fail
    go_ret
    exact IntPost.of HF.out rfl HB.out
  have y3 : (s.kind == 3) = false := by simpa using x3
  by_cases x4 : s.kind = 4
  · rcases h x4 with hf | hf
    · skip
      have HF : Hid (o.cnt s = o.e0) := hide (by unfold Ob.cnt; simp [x4, hf])
      have y4 : (s.kind == 4) = true := by simpa using x4
      rw [hf] at k3
      clear x2 x3 x4 h hf
      go_enter Try.func55, Try.ntmps55
      go_wp2_with fail
      go_ret
      exact IntPost.of HF.out rfl HB.out
    · skip
      have HF : Hid (o.cnt s = o.e1) := hide (by unfold Ob.cnt; simp [x4, hf])
      have y4 : (s.kind == 4) = true := by simpa using x4
      rw [hf] at k3
      clear x2 x3 x4 h hf
      go_enter Try.func55, Try.ntmps55
      go_wp2_with fail
      go_ret
      exact IntPost.of HF.out rfl HB.out
  have y4 : (s.kind == 4) = false := by simpa using x4
  have HF : Hid (o.cnt s = o.refs) := hide (by unfold Ob.cnt; simp [x2, x3, x4])
  clear x2 x3 x4 h
  go_enter Try.func55, Try.ntmps55
  go_wp2_with fail
  go_ret
  exact IntPost.of HF.out rfl HB.out
set_option maxRecDepth 100000 in
set_option maxHeartbeats 16000000 in
theorem rfChanged_any (o : Ob) (s : Tb.Slot) (v : Int) (W : World) (h : s.kind = 4 → s.fin = 0 ∨ s.fin = 1) : Calls Try.prog 56 #[.agg (oc o), sta s, .int .i64 v] W (fun e w' => e = .returned (.agg (oc (o.setCnt s v))) ∧ Below W.heap.size W w') := by
  obtain ⟨w1, hw, OA, OS, OZ, hb, hs⟩ := start_osz W o s
  have HB := hide hb
  have k0 : w1.cell? ⟨W.heap.size + 1, 0, none⟩ = some (.int .i64 s.kind) := OS.cell 0
  have k3 : w1.cell? ⟨W.heap.size + 1, 3, none⟩ = some (.int .i64 s.fin) := OS.cell 3
  have hput := Ob.put_off (o := o) h v
  have HP := hide hput
  have HZ := hide OZ
  have HA := hide OA
  clear hb hs hput OZ OS
  by_cases x2 : s.kind = 2
  · skip
    have hoff : s.off = 27 := by unfold Tb.Slot.off; simp [x2]
    obtain ⟨w2, hw2⟩ : ∃ w, w1.setCell ⟨W.heap.size, 27, none⟩ (.int .i64 v) = w := ⟨_, rfl⟩
    have O2 : Obl w2 W.heap.size 61 (oc (o.setCnt s v)) := by rw [← hw2, ← HP.out, hoff]; exact HA.out.put 27 _
    have Z2 : Obl w2 (W.heap.size + 2) 61 (oc Ob.zero) := by rw [← hw2]; exact HZ.out.put_other (b' := W.heap.size) (by omega) 27 _
    have HB2 : Hid (Below W.heap.size W w2) := hide (by rw [← hw2]; exact HB.out.setCell (p := ⟨W.heap.size, 27, none⟩) (Nat.le_refl _) _)
    have kc : w1.cell? ⟨W.heap.size, 27, none⟩ = some (.int .i64 o.readers) := HA.out.cell 27
    have zc := HA.out.free 27
    have y2 : (s.kind == 2) = true := by simpa using x2
    clear hoff OA x2 h
    go_enter Try.func56, Try.ntmps56
    go_wp2_with (first | (refine load_ob rfl _ rfl rfl O2 ?_) | (refine store_ob rfl _ _ rfl rfl (c := o.setCnt s v) rfl Z2 rfl ?_) | fail)
    refine bodyPost_ret (ret_ob rfl _ rfl (Z2.row_same _)) rfl ?_
    exact ⟨rfl, below_row HB2.out (by omega) _⟩
  have y2 : (s.kind == 2) = false := by simpa using x2
  by_cases x3 : s.kind = 3
  · skip
    have hoff : s.off = 28 := by unfold Tb.Slot.off; simp [x3]
    obtain ⟨w2, hw2⟩ : ∃ w, w1.setCell ⟨W.heap.size, 28, none⟩ (.int .i64 v) = w := ⟨_, rfl⟩
    have O2 : Obl w2 W.heap.size 61 (oc (o.setCnt s v)) := by rw [← hw2, ← HP.out, hoff]; exact HA.out.put 28 _
    have Z2 : Obl w2 (W.heap.size + 2) 61 (oc Ob.zero) := by rw [← hw2]; exact HZ.out.put_other (b' := W.heap.size) (by omega) 28 _
    have HB2 : Hid (Below W.heap.size W w2) := hide (by rw [← hw2]; exact HB.out.setCell (p := ⟨W.heap.size, 28, none⟩) (Nat.le_refl _) _)
    have kc : w1.cell? ⟨W.heap.size, 28, none⟩ = some (.int .i64 o.writers) := HA.out.cell 28
    have zc := HA.out.free 28
    have y3 : (s.kind == 3) = true := by simpa using x3
    clear hoff OA x2 x3 h
    go_enter Try.func56, Try.ntmps56
    go_wp2_with (first | (refine load_ob rfl _ rfl rfl O2 ?_) | (refine store_ob rfl _ _ rfl rfl (c := o.setCnt s v) rfl Z2 rfl ?_) | fail)
    refine bodyPost_ret (ret_ob rfl _ rfl (Z2.row_same _)) rfl ?_
    exact ⟨rfl, below_row HB2.out (by omega) _⟩
  have y3 : (s.kind == 3) = false := by simpa using x3
  by_cases x4 : s.kind = 4
  · rcases h x4 with hf | hf
    · skip
      have hoff : s.off = 32 := by unfold Tb.Slot.off; simp [x4, hf]
      obtain ⟨w2, hw2⟩ : ∃ w, w1.setCell ⟨W.heap.size, 32, none⟩ (.int .i64 v) = w := ⟨_, rfl⟩
      have O2 : Obl w2 W.heap.size 61 (oc (o.setCnt s v)) := by rw [← hw2, ← HP.out, hoff]; exact HA.out.put 32 _
      have Z2 : Obl w2 (W.heap.size + 2) 61 (oc Ob.zero) := by rw [← hw2]; exact HZ.out.put_other (b' := W.heap.size) (by omega) 32 _
      have HB2 : Hid (Below W.heap.size W w2) := hide (by rw [← hw2]; exact HB.out.setCell (p := ⟨W.heap.size, 32, none⟩) (Nat.le_refl _) _)
      have kc : w1.cell? ⟨W.heap.size, 32, none⟩ = some (.int .i64 o.e0) := HA.out.cell 32
      have zc := HA.out.free 32
      have y4 : (s.kind == 4) = true := by simpa using x4
      rw [hf] at k3
      clear hoff OA x2 x3 x4 h hf
      go_enter Try.func56, Try.ntmps56
      go_wp2_with (first | (refine load_ob rfl _ rfl rfl O2 ?_) | (refine store_ob rfl _ _ rfl rfl (c := o.setCnt s v) rfl Z2 rfl ?_) | fail)
      refine bodyPost_ret (ret_ob rfl _ rfl (Z2.row_same _)) rfl ?_
      exact ⟨rfl, below_row HB2.out (by omega) _⟩
    · skip
      have hoff : s.off = 33 := by unfold Tb.Slot.off; simp [x4, hf]
      obtain ⟨w2, hw2⟩ : ∃ w, w1.setCell ⟨W.heap.size, 33, none⟩ (.int .i64 v) = w := ⟨_, rfl⟩
      have O2 : Obl w2 W.heap.size 61 (oc (o.setCnt s v)) := by rw [← hw2, ← HP.out, hoff]; exact HA.out.put 33 _
      have Z2 : Obl w2 (W.heap.size + 2) 61 (oc Ob.zero) := by rw [← hw2]; exact HZ.out.put_other (b' := W.heap.size) (by omega) 33 _
      have HB2 : Hid (Below W.heap.size W w2) := hide (by rw [← hw2]; exact HB.out.setCell (p := ⟨W.heap.size, 33, none⟩) (Nat.le_refl _) _)
      have kc : w1.cell? ⟨W.heap.size, 33, none⟩ = some (.int .i64 o.e1) := HA.out.cell 33
      have zc := HA.out.free 33
      have y4 : (s.kind == 4) = true := by simpa using x4
      rw [hf] at k3
      clear hoff OA x2 x3 x4 h hf
      go_enter Try.func56, Try.ntmps56
      go_wp2_with (first | (refine load_ob rfl _ rfl rfl O2 ?_) | (refine store_ob rfl _ _ rfl rfl (c := o.setCnt s v) rfl Z2 rfl ?_) | fail)
      refine bodyPost_ret (ret_ob rfl _ rfl (Z2.row_same _)) rfl ?_
      exact ⟨rfl, below_row HB2.out (by omega) _⟩
  have y4 : (s.kind == 4) = false := by simpa using x4
  have hoff : s.off = 2 := by unfold Tb.Slot.off; simp [x2, x3, x4]
  obtain ⟨w2, hw2⟩ : ∃ w, w1.setCell ⟨W.heap.size, 2, none⟩ (.int .i64 v) = w := ⟨_, rfl⟩
  have O2 : Obl w2 W.heap.size 61 (oc (o.setCnt s v)) := by rw [← hw2, ← HP.out, hoff]; exact HA.out.put 2 _
  have Z2 : Obl w2 (W.heap.size + 2) 61 (oc Ob.zero) := by rw [← hw2]; exact HZ.out.put_other (b' := W.heap.size) (by omega) 2 _
  have HB2 : Hid (Below W.heap.size W w2) := hide (by rw [← hw2]; exact HB.out.setCell (p := ⟨W.heap.size, 2, none⟩) (Nat.le_refl _) _)
  have kc : w1.cell? ⟨W.heap.size, 2, none⟩ = some (.int .i64 o.refs) := HA.out.cell 2
  have zc := HA.out.free 2
  clear hoff OA x2 x3 x4 h
  go_enter Try.func56, Try.ntmps56
  go_wp2_with (first | (refine load_ob rfl _ rfl rfl O2 ?_) | (refine store_ob rfl _ _ rfl rfl (c := o.setCnt s v) rfl Z2 rfl ?_) | fail)
  refine bodyPost_ret (ret_ob rfl _ rfl (Z2.row_same _)) rfl ?_
  exact ⟨rfl, below_row HB2.out (by omega) _⟩
/-- An object with another count, an error. -/
def RHeld (r : Int) (o : Ob) (w : World) (e : Ending) (w' : World) : Prop := ((r ≠ 0 ∧ e = .returned (.tuple #[.agg (oc Ob.zero), .int .i64 r])) ∨ (r = 0 ∧ e = .returned (.tuple #[.agg (oc o), .int .i64 0]))) ∧ Below w.heap.size w w'
theorem RHeld.no {r i : Int} {o : Ob} {w w' : World} {e : Ending} (h : r = i) (h0 : i ≠ 0) (he : e = .returned (.tuple #[.agg (oc Ob.zero), .int .i64 i])) (hb : Below w.heap.size w w') : RHeld r o w e w' := by subst h; exact ⟨.inl ⟨h0, he⟩, hb⟩
def RDrop (r : Int) (o : Ob) (w : World) (e : Ending) (w' : World) : Prop := ((r ≠ 0 ∧ e = .returned (.tuple #[.agg (oc Ob.zero), .bool false, .int .i64 r])) ∨ (r = 0 ∧ e = .returned (.tuple #[.agg (oc o), .bool o.gone, .int .i64 0]))) ∧ Below w.heap.size w w'
theorem RDrop.no {r i : Int} {o : Ob} {w w' : World} {e : Ending} (h : r = i) (h0 : i ≠ 0) (he : e = .returned (.tuple #[.agg (oc Ob.zero), .bool false, .int .i64 i])) (hb : Below w.heap.size w w') : RDrop r o w e w' := by subst h; exact ⟨.inl ⟨h0, he⟩, hb⟩
theorem RDrop.yes {r : Int} {o : Ob} {g : Bool} {w w' : World} {e : Ending} (h : r = 0) (hg : o.gone = g) (he : e = .returned (.tuple #[.agg (oc o), .bool g, .int .i64 0])) (hb : Below w.heap.size w w') : RDrop r o w e w' := by subst hg; exact ⟨.inr ⟨h, he⟩, hb⟩
set_option maxRecDepth 100000 in
set_option maxHeartbeats 16000000 in
theorem rfHold_any (o : Ob) (s : Tb.Slot) (W : World) (h64 : -9223372036854775808 ≤ o.cnt s ∧ o.cnt s ≤ 9223372036854775807) : Calls Try.prog 27 #[.agg (oc o), sta s] W (RHeld (o.holdE s) (o.setCnt s (o.cnt s + 1)) W) := by
  obtain ⟨w1, hw, OA, OS, OZ, hb, hs⟩ := start_osz W o s
  have HB := hide hb
  clear hb hs
  go_enter Try.func27, Try.ntmps27
  go_wp2_with (first | (refine load_ob rfl _ rfl rfl OA ?_) | (refine wpList_val (by rfl) (exec_load_slot0 rfl rfl OS) ?_) | fail)
  refine (rfFits_any o s _).mono ?_
  rintro e w2 ⟨rfl, hb2⟩
  have OA2 := OA.below hb2 OA.lt
  have OS2 := OS.below hb2 OS.lt
  have OZ2 := OZ.below hb2 OZ.lt
  have HB2 := hide (HB.out.trans (hb2.mono HB.out.size))
  clear hb2 OA OS OZ HB
  by_cases hf : o.fits s = 0
  case neg =>
    have HF : Hid (o.holdE s = o.fits s) := hide (by unfold Ob.holdE; rw [if_neg hf])
    have HN := hide hf
    have z1 : (o.fits s != 0) = true := by simpa using hf
    clear hf
    go_wp2_with (first | (refine wpList_val (by rfl) (exec_build rfl rfl built_zero) ?_) | (refine store_ob rfl _ _ rfl rfl (c := Ob.zero) rfl OZ2 rfl ?_) | fail)
    refine bodyPost_ret (ret_ob2 rfl _ rfl (OZ2.row_same _)) rfl ?_
    exact RHeld.no HF.out HN.out rfl (below_row HB2.out (by omega) _)
  rw [hf]
  have HF := hide hf
  have HFIN := hide (Tb.Slot.ok_fin (Ob.fits_ok hf))
  clear hf
  have zz : ((0 : Int) != 0) = false := by decide
  go_wp2_with (first | (refine load_ob rfl _ rfl rfl OA2 ?_) | (refine wpList_val (by rfl) (exec_load_slot0 rfl rfl OS2) ?_) | fail)
  refine (rfCount_any o s _ HFIN.out).mono ?_
  rintro e w3 ⟨rfl, hb3⟩
  have OA3 := OA2.below hb3 OA2.lt
  have OS3 := OS2.below hb3 OS2.lt
  have OZ3 := OZ2.below hb3 OZ2.lt
  have HB3 := hide (HB2.out.trans (hb3.mono HB2.out.size))
  clear hb3 OA2 OS2 OZ2 HB2
  by_cases hc : 1073741824 ≤ o.cnt s
  · have HE : Hid (o.holdE s = 3) := hide (by unfold Ob.holdE; rw [if_pos HF.out, if_pos hc])
    go_wp2_with (first | (refine wpList_val (by rfl) (exec_build rfl rfl built_zero) ?_) | (refine store_ob rfl _ _ rfl rfl (c := Ob.zero) rfl OZ3 rfl ?_) | fail)
    refine bodyPost_ret (ret_ob2 rfl _ rfl (OZ3.row_same _)) rfl ?_
    exact RHeld.no HE.out (by decide) rfl (below_row HB3.out (by omega) _)
  have HE : Hid (o.holdE s = 0) := hide (by unfold Ob.holdE; rw [if_pos HF.out, if_neg hc])
  obtain ⟨wd, hwd, OAd, OSd, OZd, HBd⟩ : ∃ wd, w3.drew = wd ∧ Obl wd W.heap.size 61 (oc o) ∧ Obl wd (W.heap.size + 1) 25 #[.int .i64 s.kind, .int .u64 s.desc, .int .u64 s.target, .int .i64 s.fin] ∧ Obl wd (W.heap.size + 2) 61 (oc Ob.zero) ∧ Hid (Below W.heap.size W wd) := ⟨_, rfl, OA3, OS3, OZ3, hide (HB3.out.trans ⟨rfl, rfl, rfl, Nat.le_refl _, fun _ _ => rfl⟩)⟩
  have la := OA3.lt
  have ls := OS3.lt
  have hwds : w3.heap.size ≤ wd.heap.size := by rw [← hwd]; exact Nat.le_refl _
  clear OA3 OS3 OZ3 HB3
  go_wp2_with fail
  refine region_C (by kernel_rfl) w3.heap.size [7] ?_
  rw [hwd]
  clear hwd
  refine takeC 0 [0, 6, 7, 8] rfl (by kernel_rfl) (fun _ _ _ h => h) (by rfl) (by intro w' hg; exact exec_load_ob rfl rfl (OAd.below hg la)) ?_
  go_simp
  refine takeC 1 [1, 6, 7, 8] rfl (by kernel_rfl) (fun _ _ _ h => h) (by rfl) (by intro w' hg; exact exec_load_slot0 (y := s) rfl rfl (OSd.below hg ls)) ?_
  go_simp
  refine takeC 2 [2, 4, 5, 6, 7, 8] rfl (by kernel_rfl) (fun _ _ _ h => h) (by rfl) (by intro w' hg; exact exec_load_ob rfl rfl (OAd.below hg la)) ?_
  go_simp
  refine takeC 3 [3, 4, 5, 6, 7, 8] rfl (by kernel_rfl) (fun _ _ _ h => h) (by rfl) (by intro w' hg; exact exec_load_slot0 (y := s) rfl rfl (OSd.below hg ls)) ?_
  have hwrap : IntKind.i64.wrap (o.cnt s + 1) = (o.cnt s + 1) := by rw [IntKind.wrap_i64]; omega
  refine onlyC 4 rfl (by kernel_rfl) (by rfl) ?_
  intro K hK
  go_simp
  refine (rfCount_any o s _ HFIN.out).mono ?_
  rintro e v1 ⟨rfl, hv1⟩
  have OAe := OAd.below hv1 OAd.lt
  have OZe := OZd.below hv1 OZd.lt
  have HBe := hide (HBd.out.trans (hv1.mono HBd.out.size))
  have hve : w3.heap.size ≤ v1.heap.size := Nat.le_trans hwds hv1.size
  refine hK _ _ (fun _ => hv1.mono hwds) ?_
  clear hK K hv1 OAd OZd HBd
  refine takeX 5 rfl (by kernel_rfl) (fun _ _ _ h => h) (by rfl) (by intro w'; go_simp; try with_reducible rfl) ?_
  go_simp
  refine onlyC 6 rfl (by kernel_rfl) (by rfl) ?_
  intro K hK
  go_simp
  refine (rfChanged_any o s (o.cnt s + 1) _ HFIN.out).mono ?_
  rintro e v2 ⟨rfl, hv2⟩
  have OAf := OAe.below hv2 OAe.lt
  have OZf := OZe.below hv2 OZe.lt
  have HBf := hide (HBe.out.trans (hv2.mono HBe.out.size))
  refine hK _ _ (fun _ => hv2.mono hve) ?_
  clear hK K hv2 OAe OZe HBe
  go_simp
  refine onlyC 7 rfl (by kernel_rfl) (by rfl) ?_
  intro K hK
  refine wp_store_ob10 rfl rfl (c := o.setCnt s (o.cnt s + 1)) rfl OZf rfl ?_
  refine hK _ _ (fun h => absurd h (by decide)) ?_
  clear hK K
  refine takeX 8 rfl (by kernel_rfl) (fun _ _ _ h => h) (by rfl) (by intro w'; go_simp; try with_reducible rfl) ?_
  refine doneC (by kernel_rfl) ?_
  go_simp
  go_wp2
  refine bodyPost_ret (ret_ob2 rfl _ rfl (OZf.row_same _)) rfl ?_
  exact ⟨.inr ⟨HE.out, rfl⟩, below_row HBf.out (by omega) _⟩
set_option maxRecDepth 100000 in
set_option maxHeartbeats 16000000 in
theorem rfDrop_any (o : Ob) (s : Tb.Slot) (W : World) (h64 : -9223372036854775808 ≤ o.cnt s ∧ o.cnt s ≤ 9223372036854775807) : Calls Try.prog 29 #[.agg (oc o), sta s] W (RDrop (o.dropE s) (o.setCnt s (o.cnt s - 1)) W) := by
  obtain ⟨w1, hw, OA, OS, OZ, hb, hs⟩ := start_osz W o s
  have HB := hide hb
  clear hb hs
  go_enter Try.func29, Try.ntmps29
  go_wp2_with (first | (refine load_ob rfl _ rfl rfl OA ?_) | (refine wpList_val (by rfl) (exec_load_slot0 rfl rfl OS) ?_) | fail)
  refine (rfFits_any o s _).mono ?_
  rintro e w2 ⟨rfl, hb2⟩
  have OA2 := OA.below hb2 OA.lt
  have OS2 := OS.below hb2 OS.lt
  have OZ2 := OZ.below hb2 OZ.lt
  have HB2 := hide (HB.out.trans (hb2.mono HB.out.size))
  clear hb2 OA OS OZ HB
  by_cases hf : o.fits s = 0
  case neg =>
    have HF : Hid (o.dropE s = o.fits s) := hide (by unfold Ob.dropE; rw [if_neg hf])
    have HN := hide hf
    have z1 : (o.fits s != 0) = true := by simpa using hf
    clear hf
    go_wp2_with (first | (refine wpList_val (by rfl) (exec_build rfl rfl built_zero) ?_) | (refine store_ob rfl _ _ rfl rfl (c := Ob.zero) rfl OZ2 rfl ?_) | fail)
    refine bodyPost_ret (ret_ob3 rfl _ rfl (OZ2.row_same _)) rfl ?_
    exact RDrop.no HF.out HN.out rfl (below_row HB2.out (by omega) _)
  rw [hf]
  have HF := hide hf
  have HFIN := hide (Tb.Slot.ok_fin (Ob.fits_ok hf))
  clear hf
  have zz : ((0 : Int) != 0) = false := by decide
  go_wp2_with (first | (refine load_ob rfl _ rfl rfl OA2 ?_) | (refine wpList_val (by rfl) (exec_load_slot0 rfl rfl OS2) ?_) | fail)
  refine (rfCount_any o s _ HFIN.out).mono ?_
  rintro e w3 ⟨rfl, hb3⟩
  have OA3 := OA2.below hb3 OA2.lt
  have OS3 := OS2.below hb3 OS2.lt
  have OZ3 := OZ2.below hb3 OZ2.lt
  have HB3 := hide (HB2.out.trans (hb3.mono HB2.out.size))
  clear hb3 OA2 OS2 OZ2 HB2
  by_cases hc : o.cnt s < 1
  · have HE : Hid (o.dropE s = 8) := hide (by unfold Ob.dropE; rw [if_pos HF.out, if_pos hc])
    go_wp2_with (first | (refine wpList_val (by rfl) (exec_build rfl rfl built_zero) ?_) | (refine store_ob rfl _ _ rfl rfl (c := Ob.zero) rfl OZ3 rfl ?_) | fail)
    refine bodyPost_ret (ret_ob3 rfl _ rfl (OZ3.row_same _)) rfl ?_
    exact RDrop.no HE.out (by decide) rfl (below_row HB3.out (by omega) _)
  have HE : Hid (o.dropE s = 0) := hide (by unfold Ob.dropE; rw [if_pos HF.out, if_neg hc])
  obtain ⟨wd, hwd, OAd, OSd, OZd, HBd⟩ : ∃ wd, w3.drew = wd ∧ Obl wd W.heap.size 61 (oc o) ∧ Obl wd (W.heap.size + 1) 25 #[.int .i64 s.kind, .int .u64 s.desc, .int .u64 s.target, .int .i64 s.fin] ∧ Obl wd (W.heap.size + 2) 61 (oc Ob.zero) ∧ Hid (Below W.heap.size W wd) := ⟨_, rfl, OA3, OS3, OZ3, hide (HB3.out.trans ⟨rfl, rfl, rfl, Nat.le_refl _, fun _ _ => rfl⟩)⟩
  have la := OA3.lt
  have ls := OS3.lt
  have hwds : w3.heap.size ≤ wd.heap.size := by rw [← hwd]; exact Nat.le_refl _
  clear OA3 OS3 OZ3 HB3
  go_wp2_with fail
  refine region_C (by kernel_rfl) w3.heap.size [7] ?_
  rw [hwd]
  clear hwd
  refine takeC 0 [0, 6, 7] rfl (by kernel_rfl) (fun _ _ _ h => h) (by rfl) (by intro w' hg; exact exec_load_ob rfl rfl (OAd.below hg la)) ?_
  go_simp
  refine takeC 1 [1, 6, 7] rfl (by kernel_rfl) (fun _ _ _ h => h) (by rfl) (by intro w' hg; exact exec_load_slot0 (y := s) rfl rfl (OSd.below hg ls)) ?_
  go_simp
  refine takeC 2 [2, 4, 5, 6, 7] rfl (by kernel_rfl) (fun _ _ _ h => h) (by rfl) (by intro w' hg; exact exec_load_ob rfl rfl (OAd.below hg la)) ?_
  go_simp
  refine takeC 3 [3, 4, 5, 6, 7] rfl (by kernel_rfl) (fun _ _ _ h => h) (by rfl) (by intro w' hg; exact exec_load_slot0 (y := s) rfl rfl (OSd.below hg ls)) ?_
  have hwrap : IntKind.i64.wrap (o.cnt s - 1) = (o.cnt s - 1) := by rw [IntKind.wrap_i64]; omega
  refine onlyC 4 rfl (by kernel_rfl) (by rfl) ?_
  intro K hK
  go_simp
  refine (rfCount_any o s _ HFIN.out).mono ?_
  rintro e v1 ⟨rfl, hv1⟩
  have OAe := OAd.below hv1 OAd.lt
  have OZe := OZd.below hv1 OZd.lt
  have HBe := hide (HBd.out.trans (hv1.mono HBd.out.size))
  have hve : w3.heap.size ≤ v1.heap.size := Nat.le_trans hwds hv1.size
  refine hK _ _ (fun _ => hv1.mono hwds) ?_
  clear hK K hv1 OAd OZd HBd
  refine takeX 5 rfl (by kernel_rfl) (fun _ _ _ h => h) (by rfl) (by intro w'; go_simp; try with_reducible rfl) ?_
  go_simp
  refine onlyC 6 rfl (by kernel_rfl) (by rfl) ?_
  intro K hK
  go_simp
  refine (rfChanged_any o s (o.cnt s - 1) _ HFIN.out).mono ?_
  rintro e v2 ⟨rfl, hv2⟩
  have OAf := OAe.below hv2 OAe.lt
  have OZf := OZe.below hv2 OZe.lt
  have HBf := hide (HBe.out.trans (hv2.mono HBe.out.size))
  refine hK _ _ (fun _ => hv2.mono hve) ?_
  clear hK K hv2 OAe OZe HBe
  go_simp
  refine onlyC 7 rfl (by kernel_rfl) (by rfl) ?_
  intro K hK
  obtain ⟨p, hp⟩ : ∃ p, o.setCnt s (o.cnt s - 1) = p := ⟨_, rfl⟩
  refine wp_store_ob10 rfl rfl (c := o.setCnt s (o.cnt s - 1)) rfl OAf rfl ?_
  rw [hp]
  refine hK _ _ (fun h => absurd h (by decide)) ?_
  clear hK K
  have HPP := hide hp
  have OP := OAf.row_same (oc p)
  have OQ := OZf.row_other (g := W.heap.size) (by omega) (oc p)
  have HBg := hide (below_row HBf.out (g := W.heap.size) (Nat.le_refl _) (oc p))
  generalize v2.setRow W.heap.size (oc p) = v3 at *
  clear OAf OZf HBf
  refine doneC (by kernel_rfl) ?_
  go_simp
  have k1 : v3.cell? ⟨W.heap.size, 1, none⟩ = some (.int .i64 p.kind) := OP.cell 1
  have k2 : v3.cell? ⟨W.heap.size, 2, none⟩ = some (.int .i64 p.refs) := OP.cell 2
  have k27 : v3.cell? ⟨W.heap.size, 27, none⟩ = some (.int .i64 p.readers) := OP.cell 27
  have k28 : v3.cell? ⟨W.heap.size, 28, none⟩ = some (.int .i64 p.writers) := OP.cell 28
  by_cases h4 : p.kind = 4
  · skip
    have HG : Hid (p.gone = (p.refs == 0)) := hide (by unfold Ob.gone; rw [if_pos h4])
    have z1 : (p.kind == 4) = true := by simpa using h4
    clear h4 hp
    go_wp2_with (first | (refine load_ob rfl _ rfl rfl OP ?_) | (refine store_ob rfl _ _ rfl rfl (c := p) rfl OQ rfl ?_) | fail)
    refine bodyPost_ret (ret_ob3 rfl _ rfl (OQ.row_same _)) rfl ?_
    rw [HPP.out]
    exact RDrop.yes HE.out HG.out rfl (below_row HBg.out (by omega) _)
  have z1 : (p.kind == 4) = false := by simpa using h4
  by_cases h5 : p.kind = 5
  · have z2 : (p.kind == 5) = true := by simpa using h5
    cases hr : p.readers == 0
    · skip
      have HG : Hid (p.gone = false) := hide (by unfold Ob.gone; rw [if_neg h4, if_pos h5, hr]; rfl)
      clear h4 h5 hp
      go_wp2_with (first | (refine load_ob rfl _ rfl rfl OP ?_) | (refine store_ob rfl _ _ rfl rfl (c := p) rfl OQ rfl ?_) | fail)
      refine bodyPost_ret (ret_ob3 rfl _ rfl (OQ.row_same _)) rfl ?_
      rw [HPP.out]
      exact RDrop.yes HE.out HG.out rfl (below_row HBg.out (by omega) _)
    · skip
      have HG : Hid (p.gone = (p.writers == 0)) := hide (by unfold Ob.gone; rw [if_neg h4, if_pos h5, hr]; rfl)
      clear h4 h5 hp
      go_wp2_with (first | (refine load_ob rfl _ rfl rfl OP ?_) | (refine store_ob rfl _ _ rfl rfl (c := p) rfl OQ rfl ?_) | fail)
      refine bodyPost_ret (ret_ob3 rfl _ rfl (OQ.row_same _)) rfl ?_
      rw [HPP.out]
      exact RDrop.yes HE.out HG.out rfl (below_row HBg.out (by omega) _)
  have z2 : (p.kind == 5) = false := by simpa using h5
  by_cases h7 : p.kind = 7
  · skip
    have z3 : (p.kind == 7) = true := by simpa using h7
    have HG : Hid (p.gone = (decide (p.e0 = 0) && decide (p.e1 = 0))) := hide (by unfold Ob.gone; rw [if_neg h4, if_neg h5, if_pos h7]; simp)
    clear h4 h5 h7 hp
    go_wp2_with (first | (refine wpList_val (by rfl) (exec_load_ends rfl rfl OP) ?_) | (refine wpList_val (by rfl) (exec_build (t := 58) (vs := []) rfl rfl built_ends) ?_) | (refine wpList_val (by rfl) (exec_eql_ends rfl (L := [p.e0, p.e1]) (M := [0, 0]) rfl rfl rfl rfl) ?_) | (refine load_ob rfl _ rfl rfl OP ?_) | (refine store_ob rfl _ _ rfl rfl (c := p) rfl OQ rfl ?_) | fail)
    refine bodyPost_ret (ret_ob3 rfl _ rfl (OQ.row_same _)) rfl ?_
    rw [HPP.out]
    exact RDrop.yes HE.out HG.out rfl (below_row HBg.out (by omega) _)
  have z3 : (p.kind == 7) = false := by simpa using h7
  have HG : Hid (p.gone = false) := hide (by unfold Ob.gone; rw [if_neg h4, if_neg h5, if_neg h7])
  clear h4 h5 h7 hp
  go_wp2_with (first | (refine load_ob rfl _ rfl rfl OP ?_) | (refine store_ob rfl _ _ rfl rfl (c := p) rfl OQ rfl ?_) | fail)
  refine bodyPost_ret (ret_ob3 rfl _ rfl (OQ.row_same _)) rfl ?_
  rw [HPP.out]
  exact RDrop.yes HE.out HG.out rfl (below_row HBg.out (by omega) _)
end Go.Proofs.Ytejhnfeligifgaa
