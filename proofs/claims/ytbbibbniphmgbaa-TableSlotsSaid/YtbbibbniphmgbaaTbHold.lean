/- Layer 10, package table: Hold and Drop: contracts. -/
import Derived.Test.YtbbibbniphmgbaaTbCopied
import Derived.Test.YtbbibbniphmgbaaObMem
import Derived.Test.YtbbibbniphmgbaaRegionD
import Derived.BigQuiet
namespace Go.Proofs.Ytbbibbniphmgbaa
open Go.RowKit

/-- Where an object counts a slot. -/
def Tb.Slot.off (s : Tb.Slot) : Nat := if s.kind = 2 then 27 else if s.kind = 3 then 28 else if s.kind = 4 then 32 + s.fin.toNat else 2
namespace Ob
def cnt (o : Ob) (s : Tb.Slot) : Int := if s.kind = 2 then o.readers else if s.kind = 3 then o.writers else if s.kind = 4 then (if s.fin = 0 then o.e0 else o.e1) else o.refs
def setCnt (o : Ob) (s : Tb.Slot) (v : Int) : Ob := if s.kind = 2 then { o with readers := v } else if s.kind = 3 then { o with writers := v } else if s.kind = 4 then (if s.fin = 0 then { o with e0 := v } else { o with e1 := v }) else { o with refs := v }
/-- Which error: the slot is none, the object is not its holder. -/
def fits (o : Ob) (s : Tb.Slot) : Int := if s.Ok then (if (Tb.holder s).1 = 0 ∨ o.id ≠ (Tb.holder s).1 ∨ o.kind ≠ (Tb.holder s).2 then 10 else 0) else 1
theorem cell_off {o : Ob} {s : Tb.Slot} (h : s.kind = 4 → s.fin = 0 ∨ s.fin = 1) : (oc o)[s.off]? = some (.int .i64 (o.cnt s)) := by
  unfold Tb.Slot.off cnt
  by_cases h2 : s.kind = 2
  · rw [if_pos h2, if_pos h2]; rfl
  · by_cases h3 : s.kind = 3
    · rw [if_neg h2, if_neg h2, if_pos h3, if_pos h3]; rfl
    · by_cases h4 : s.kind = 4
      · rw [if_neg h2, if_neg h2, if_neg h3, if_neg h3, if_pos h4, if_pos h4]
        rcases h h4 with e | e <;> rw [e] <;> rfl
      · rw [if_neg h2, if_neg h2, if_neg h3, if_neg h3, if_neg h4, if_neg h4]; rfl
theorem put_off {o : Ob} {s : Tb.Slot} (h : s.kind = 4 → s.fin = 0 ∨ s.fin = 1) (v : Int) : (oc o).setIfInBounds s.off (.int .i64 v) = oc (o.setCnt s v) := by
  unfold Tb.Slot.off setCnt
  by_cases h2 : s.kind = 2
  · rw [if_pos h2, if_pos h2]; rfl
  · by_cases h3 : s.kind = 3
    · rw [if_neg h2, if_neg h2, if_pos h3, if_pos h3]; rfl
    · by_cases h4 : s.kind = 4
      · rw [if_neg h2, if_neg h2, if_neg h3, if_neg h3, if_pos h4, if_pos h4]
        rcases h h4 with e | e <;> rw [e] <;> rfl
      · rw [if_neg h2, if_neg h2, if_neg h3, if_neg h3, if_neg h4, if_neg h4]; rfl
theorem cnt_relist (o c : Ob) (s : Tb.Slot) : (o.relist c).cnt s = o.cnt s := rfl
end Ob
theorem Tb.Slot.ok_fin {s : Tb.Slot} (h : s.Ok) : s.kind = 4 → s.fin = 0 ∨ s.fin = 1 := fun h4 => by
  unfold Tb.Slot.Ok at h
  rw [if_neg (by omega)] at h
  rcases h.2.2.2.2 with e | e
  · exact .inl e
  · exact .inr e.1
theorem Ob.fits_ok {o : Ob} {s : Tb.Slot} (h : o.fits s = 0) : s.Ok := by
  unfold Ob.fits at h
  by_cases hk : s.Ok
  · exact hk
  · rw [if_neg hk] at h; omega

theorem start_os (W : World) (o : Ob) (s : Tb.Slot) : ∃ w1, (W.alloc (.cells (oc o) 61)).alloc (.cells #[.int .i64 s.kind, .int .u64 s.desc, .int .u64 s.target, .int .i64 s.fin] 25) = w1 ∧
    Obl w1 W.heap.size 61 (oc o) ∧ Obl w1 (W.heap.size + 1) 25 #[.int .i64 s.kind, .int .u64 s.desc, .int .u64 s.target, .int .i64 s.fin] ∧ Below W.heap.size W w1 ∧ w1.heap.size = W.heap.size + 2 := by
  refine ⟨_, rfl, (Obl.make W _ _).alloc _, ?_, ((Below.refl _ _).alloc (Nat.le_refl _) _).alloc (by simp) _, by simp⟩
  have := Obl.make (W.alloc (.cells (oc o) 61)) 25 #[.int .i64 s.kind, .int .u64 s.desc, .int .u64 s.target, .int .i64 s.fin]
  rwa [World.size_alloc] at this
set_option maxRecDepth 100000 in
set_option maxHeartbeats 8000000 in
theorem tbCheck_any (o : Ob) (s : Tb.Slot) (W : World) : Calls Try.prog 51 #[.agg (oc o), sta s] W (IntPost (o.fits s) W) := by
  obtain ⟨w1, hw, OA, OS, hb, hs⟩ := start_os W o s
  have HB := hide hb
  clear hb
  go_enter Try.func51, Try.ntmps51
  go_wp2_with (first | (refine wpList_val (by rfl) (exec_load_slot0 rfl rfl OS) ?_) | fail)
  refine (isSlot_any s _).mono ?_
  rintro e w2 ⟨rfl, hb2⟩
  have OA2 := OA.below hb2 OA.lt
  have OS2 := OS.below hb2 OS.lt
  have HB2 := hide (HB.out.trans (hb2.mono HB.out.size))
  clear hb2 OA OS HB
  by_cases hk : s.Ok
  case neg =>
    rw [decide_eq_false hk]
    have HF : Hid (o.fits s = 1) := hide (by unfold Ob.fits; rw [if_neg hk])
    clear hk
    go_wp2_with fail
    go_ret
    exact IntPost.of HF.out rfl HB2.out
  rw [decide_eq_true hk]
  have HK := hide hk
  clear hk
  go_wp2_with (first | (refine wpList_val (by rfl) (exec_load_slot0 rfl rfl OS2) ?_) | fail)
  refine (holder_any s _).mono ?_
  rintro e w3 ⟨rfl, hb3⟩
  have OA3 := OA2.below hb3 OA2.lt
  have HB3 := hide (HB2.out.trans (hb3.mono HB2.out.size))
  have k0 : w3.cell? ⟨W.heap.size, 0, none⟩ = some (.int .u64 o.id) := OA3.cell 0
  have k1 : w3.cell? ⟨W.heap.size, 1, none⟩ = some (.int .i64 o.kind) := OA3.cell 1
  clear hb3 OA2 OA3 OS2 HB2
  obtain ⟨x, hx⟩ : ∃ x, (Tb.holder s).1 = x := ⟨_, rfl⟩
  obtain ⟨y, hy⟩ : ∃ y, (Tb.holder s).2 = y := ⟨_, rfl⟩
  rw [hx, hy]
  have HX := hide hx
  have HY := hide hy
  clear hx hy
  by_cases g1 : x = 0
  · have HF : Hid (o.fits s = 10) := hide (by unfold Ob.fits; rw [if_pos HK.out, if_pos (.inl (by rw [HX.out]; exact g1))])
    have z1 : (x == 0) = true := by simpa using g1
    clear g1
    go_wp2_with fail
    go_ret
    exact IntPost.of HF.out rfl HB3.out
  have z1 : (x == 0) = false := by simpa using g1
  by_cases g2 : o.id = x
  case neg =>
    have HF : Hid (o.fits s = 10) := hide (by unfold Ob.fits; rw [if_pos HK.out, if_pos (.inr (.inl (by rw [HX.out]; exact g2)))])
    have z2 : (o.id != x) = true := by simpa using g2
    clear g1 g2
    go_wp2_with fail
    go_ret
    exact IntPost.of HF.out rfl HB3.out
  have z2 : (o.id != x) = false := by simpa using g2
  by_cases g3 : o.kind = y
  case neg =>
    have HF : Hid (o.fits s = 10) := hide (by unfold Ob.fits; rw [if_pos HK.out, if_pos (.inr (.inr (by rw [HY.out]; exact g3)))])
    have z3 : (o.kind != y) = true := by simpa using g3
    clear g1 g2 g3
    go_wp2_with fail
    go_ret
    exact IntPost.of HF.out rfl HB3.out
  have z3 : (o.kind != y) = false := by simpa using g3
  have HF : Hid (o.fits s = 0) := hide (by
    unfold Ob.fits
    rw [if_pos HK.out, HX.out, HY.out, if_neg (by rintro (h | h | h); exact g1 h; exact h g2; exact h g3)])
  clear g1 g2 g3
  go_wp2_with fail
  go_ret
  exact IntPost.of HF.out rfl HB3.out

/-- A pointer into a block. -/
def PtrPost (b k : Nat) (w : World) (e : Ending) (w' : World) : Prop := e = .returned (.pointer (some ⟨b, k, none⟩)) ∧ Below w.heap.size w w'
theorem PtrPost.of {b k i : Nat} {w w' : World} {e : Ending} (h : k = i) (he : e = .returned (.pointer (some ⟨b, i, none⟩))) (hb : Below w.heap.size w w') : PtrPost b k w e w' := by subst h; exact ⟨he, hb⟩
set_option maxRecDepth 100000 in
set_option maxHeartbeats 8000000 in
theorem count_any (b : Nat) (s : Tb.Slot) (W : World) (h : s.kind = 4 → s.fin = 0 ∨ s.fin = 1) : Calls Try.prog 52 #[.pointer (some ⟨b, 0, none⟩), sta s] W (PtrPost b s.off W) := by
  obtain ⟨w1, hw, m, hm, O1, hb, hs⟩ := start_sl W s
  subst hm
  have HB := hide hb
  have k0 := O1.cell 0
  have k3 := O1.cell 3
  simp at k0 k3
  clear hb
  by_cases h2 : s.kind = 2
  · have HF : Hid (s.off = 27) := hide (by unfold Tb.Slot.off; rw [if_pos h2])
    have z1 : (s.kind == 2) = true := by simpa using h2
    clear h2 h O1
    go_enter Try.func52, Try.ntmps52
    go_wp2_with fail
    go_ret
    exact PtrPost.of HF.out rfl HB.out
  have z1 : (s.kind == 2) = false := by simpa using h2
  by_cases h3 : s.kind = 3
  · have HF : Hid (s.off = 28) := hide (by unfold Tb.Slot.off; rw [if_neg h2, if_pos h3])
    have z2 : (s.kind == 3) = true := by simpa using h3
    clear h2 h3 h O1
    go_enter Try.func52, Try.ntmps52
    go_wp2_with fail
    go_ret
    exact PtrPost.of HF.out rfl HB.out
  have z2 : (s.kind == 3) = false := by simpa using h3
  by_cases h4 : s.kind = 4
  · have z3 : (s.kind == 4) = true := by simpa using h4
    have HF : Hid (s.off = 32 + s.fin.toNat) := hide (by unfold Tb.Slot.off; rw [if_neg h2, if_neg h3, if_pos h4])
    have kc : w1.heap.size = W.heap.size + 1 := hs
    rcases h h4 with e | e
    · rw [e] at k3 HF
      clear h2 h3 h4 h e O1
      go_enter Try.func52, Try.ntmps52
      go_wp2_with fail
      refine region_B (by kernel_rfl) (W.heap.size + 1) ?_
      refine takeB 0 rfl (by kernel_rfl) (fun _ _ _ h => h) (by rfl) (by intro w' hg; go_simp; try with_reducible rfl) ?_
      refine takeB 1 rfl (by kernel_rfl) (fun _ _ _ h => h) (by rfl) (by intro w' hg; go_simp; try with_reducible rfl) ?_
      refine takeB 2 rfl (by kernel_rfl) (fun _ _ _ h => h) (by rfl) (by intro w' hg; have g3 := (hg.cell (p := ⟨W.heap.size, 3, none⟩) (by simp only; omega)).trans (show w1.drew.cell? _ = _ from k3); go_simp; try with_reducible rfl) ?_
      refine takeB 3 rfl (by kernel_rfl) (fun _ _ _ h => h) (by rfl) (by intro w' hg; go_simp; try with_reducible rfl) ?_
      refine takeB 4 rfl (by kernel_rfl) (fun _ _ _ h => h) (by rfl) (by intro w' hg; go_simp; try with_reducible rfl) ?_
      refine takeB 5 rfl (by kernel_rfl) (fun _ _ _ h => h) (by rfl) (by intro w' hg; go_simp; try with_reducible rfl) ?_
      refine takeB 6 rfl (by kernel_rfl) (fun _ _ _ h => h) (by rfl) (by intro w' hg; go_simp; try with_reducible rfl) ?_
      refine doneB (by kernel_rfl) ?_
      go_simp
      go_wp2
      go_ret
      exact PtrPost.of HF.out rfl (HB.out.trans ⟨rfl, rfl, rfl, Nat.le_refl _, fun _ _ => rfl⟩)
    · rw [e] at k3 HF
      clear h2 h3 h4 h e O1
      go_enter Try.func52, Try.ntmps52
      go_wp2_with fail
      refine region_B (by kernel_rfl) (W.heap.size + 1) ?_
      refine takeB 0 rfl (by kernel_rfl) (fun _ _ _ h => h) (by rfl) (by intro w' hg; go_simp; try with_reducible rfl) ?_
      refine takeB 1 rfl (by kernel_rfl) (fun _ _ _ h => h) (by rfl) (by intro w' hg; go_simp; try with_reducible rfl) ?_
      refine takeB 2 rfl (by kernel_rfl) (fun _ _ _ h => h) (by rfl) (by intro w' hg; have g3 := (hg.cell (p := ⟨W.heap.size, 3, none⟩) (by simp only; omega)).trans (show w1.drew.cell? _ = _ from k3); go_simp; try with_reducible rfl) ?_
      refine takeB 3 rfl (by kernel_rfl) (fun _ _ _ h => h) (by rfl) (by intro w' hg; go_simp; try with_reducible rfl) ?_
      refine takeB 4 rfl (by kernel_rfl) (fun _ _ _ h => h) (by rfl) (by intro w' hg; go_simp; try with_reducible rfl) ?_
      refine takeB 5 rfl (by kernel_rfl) (fun _ _ _ h => h) (by rfl) (by intro w' hg; go_simp; try with_reducible rfl) ?_
      refine takeB 6 rfl (by kernel_rfl) (fun _ _ _ h => h) (by rfl) (by intro w' hg; go_simp; try with_reducible rfl) ?_
      refine doneB (by kernel_rfl) ?_
      go_simp
      go_wp2
      go_ret
      exact PtrPost.of HF.out rfl (HB.out.trans ⟨rfl, rfl, rfl, Nat.le_refl _, fun _ _ => rfl⟩)
  · have z3 : (s.kind == 4) = false := by simpa using h4
    have HF : Hid (s.off = 2) := hide (by unfold Tb.Slot.off; rw [if_neg h2, if_neg h3, if_neg h4])
    clear h2 h3 h4 h O1
    go_enter Try.func52, Try.ntmps52
    go_wp2_with fail
    go_ret
    exact PtrPost.of HF.out rfl HB.out
end Go.Proofs.Ytbbibbniphmgbaa
