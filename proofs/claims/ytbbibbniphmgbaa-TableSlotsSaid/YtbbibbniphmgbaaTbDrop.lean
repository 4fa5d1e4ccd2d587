/- Layer 10, package table: Hold and Drop: contracts. -/
import Derived.Test.YtbbibbniphmgbaaTbHold
namespace Go.Proofs.Ytbbibbniphmgbaa
open Go.RowKit

namespace Ob
def holdE (o : Ob) (s : Tb.Slot) : Int := if o.fits s = 0 then (if 1073741824 ≤ o.cnt s then 3 else 0) else o.fits s
def dropE (o : Ob) (s : Tb.Slot) : Int := if o.fits s = 0 then (if o.cnt s < 1 then 8 else 0) else o.fits s
/-- Nothing refers to it. -/
def gone (o : Ob) : Bool := if o.kind = 4 then o.refs == 0 else if o.kind = 5 then (o.readers == 0 && o.writers == 0) else if o.kind = 7 then decide ([o.e0, o.e1] = [0, 0]) else false
end Ob
/-- An object with another count, an error. -/
def HeldPost (r : Int) (o : Ob) (s : Tb.Slot) (v : Int) (X : Cont) (w : World) (e : Ending) (w' : World) : Prop :=
  ((r ≠ 0 ∧ e = .returned (.tuple #[.agg (oc Ob.zero), .int .i64 r])) ∨ (r = 0 ∧ ∃ c, e = .returned (.tuple #[.agg (oc ((o.relist c).setCnt s v)), .int .i64 0]) ∧ Holds w' w'.heap.size c X)) ∧ Below w.heap.size w w'
theorem HeldPost.no {r i : Int} {o : Ob} {s : Tb.Slot} {v : Int} {X : Cont} {w w' : World} {e : Ending} (h : r = i) (h0 : i ≠ 0) (he : e = .returned (.tuple #[.agg (oc Ob.zero), .int .i64 i])) (hb : Below w.heap.size w w') : HeldPost r o s v X w e w' := by subst h; exact ⟨.inl ⟨h0, he⟩, hb⟩
theorem HeldPost.yes {r : Int} {o c : Ob} {s : Tb.Slot} {v : Int} {X : Cont} {w w' : World} {e : Ending} (h : r = 0) (he : e = .returned (.tuple #[.agg (oc ((o.relist c).setCnt s v)), .int .i64 0])) (hH : Holds w' w'.heap.size c X) (hb : Below w.heap.size w w') : HeldPost r o s v X w e w' := ⟨.inr ⟨h, c, he, hH⟩, hb⟩
theorem start_osz (W : World) (o : Ob) (s : Tb.Slot) : ∃ w1, ((W.alloc (.cells (oc o) 61)).alloc (.cells #[.int .i64 s.kind, .int .u64 s.desc, .int .u64 s.target, .int .i64 s.fin] 25)).alloc (.cells #[.int .u64 0, .int .i64 0, .int .i64 0, .int .i64 0, .int .u64 0, .slice none 0 0, .slice none 0 0, .slice none 0 0, .int .i64 0, .int .i64 0, .int .i64 0, .int .i64 0, .int .i64 0, .int .i64 0, .int .i64 0, .int .i64 0, .int .i64 0, .int .i64 0, .slice none 0 0, .slice none 0 0, .int .i64 0, .int .i64 0, .int .i64 0, .slice none 0 0, .slice none 0 0, .int .i64 0, .int .u64 0, .int .i64 0, .int .i64 0, .slice none 0 0, .slice none 0 0, .slice none 0 0, .int .i64 0, .int .i64 0, .int .i64 0, .slice none 0 0] 61) = w1 ∧
    Obl w1 W.heap.size 61 (oc o) ∧ Obl w1 (W.heap.size + 1) 25 #[.int .i64 s.kind, .int .u64 s.desc, .int .u64 s.target, .int .i64 s.fin] ∧ Obl w1 (W.heap.size + 2) 61 (oc Ob.zero) ∧ Below W.heap.size W w1 ∧ w1.heap.size = W.heap.size + 3 := by
  obtain ⟨w1, hw, OA, OS, hb, hs⟩ := start_os W o s
  rw [hw]
  refine ⟨_, rfl, OA.alloc _, OS.alloc _, ?_, hb.alloc (by omega) _, by simp [hs]⟩
  have := Obl.make w1 61 (oc Ob.zero)
  rw [hs] at this
  exact this
set_option maxRecDepth 100000 in
set_option maxHeartbeats 16000000 in
theorem tbHold_any (o : Ob) (s : Tb.Slot) (X : Cont) (W : World) (h : Holds W W.heap.size o X) (hX : X.Short) (h64 : -9223372036854775808 ≤ o.cnt s ∧ o.cnt s ≤ 9223372036854775807) :
    Calls Try.prog 26 #[.agg (oc o), sta s] W (HeldPost (o.holdE s) o s (o.cnt s + 1) X W) := by
  obtain ⟨w1, hw, OA, OS, OZ, hb, hs⟩ := start_osz W o s
  have HB := hide hb
  have HH := hide (h.later hb)
  clear hb h
  go_enter Try.func26, Try.ntmps26
  go_wp2_with (first | (refine load_ob rfl _ rfl rfl OA ?_) | (refine wpList_val (by rfl) (exec_load_slot0 rfl rfl OS) ?_) | fail)
  refine (tbCheck_any o s _).mono ?_
  rintro e w2 ⟨rfl, hb2⟩
  have OA2 := OA.below hb2 OA.lt
  have OS2 := OS.below hb2 OS.lt
  have OZ2 := OZ.below hb2 OZ.lt
  have HB2 := hide (HB.out.trans (hb2.mono HB.out.size))
  have HH2 := hide (HH.out.later hb2)
  clear hb2 OA OS OZ HB HH
  by_cases hf : o.fits s = 0
  case neg =>
    have HF : Hid (o.holdE s = o.fits s) := hide (by unfold Ob.holdE; rw [if_neg hf])
    have HN := hide hf
    have z1 : (o.fits s != 0) = true := by simpa using hf
    clear hf
    go_wp2_with (first | (refine wpList_val (by rfl) (exec_build rfl rfl built_zero) ?_) | (refine store_ob rfl _ _ rfl rfl (c := Ob.zero) rfl OZ2 rfl ?_) | fail)
    refine bodyPost_ret (ret_ob2 rfl _ rfl (OZ2.row_same _)) rfl ?_
    exact HeldPost.no HF.out HN.out rfl (below_row HB2.out (by omega) _)
  rw [hf]
  have HF := hide hf
  have hfin := Tb.Slot.ok_fin (Ob.fits_ok hf)
  have HFIN := hide hfin
  clear hf
  have zz : ((0 : Int) != 0) = false := by decide
  go_wp2_with (first | (refine wpList_val (by rfl) (exec_load_slot0 rfl rfl OS2) ?_) | fail)
  refine (count_any _ s _ HFIN.out).mono ?_
  rintro e w3 ⟨rfl, hb3⟩
  have OA3 := OA2.below hb3 OA2.lt
  have OS3 := OS2.below hb3 OS2.lt
  have OZ3 := OZ2.below hb3 OZ2.lt
  have HB3 := hide (HB2.out.trans (hb3.mono HB2.out.size))
  have HH3 := hide (HH2.out.later hb3)
  have kc : w3.cell? ⟨W.heap.size, s.off, none⟩ = some (.int .i64 (o.cnt s)) := by rw [OA3.cell]; exact Ob.cell_off HFIN.out
  clear hb3 OA2 OS2 OZ2 HB2 HH2 hfin
  by_cases hc : 1073741824 ≤ o.cnt s
  · have HE : Hid (o.holdE s = 3) := hide (by unfold Ob.holdE; rw [if_pos HF.out, if_pos hc])
    go_wp2_with (first | (refine wpList_val (by rfl) (exec_build rfl rfl built_zero) ?_) | (refine store_ob rfl _ _ rfl rfl (c := Ob.zero) rfl OZ3 rfl ?_) | fail)
    refine bodyPost_ret (ret_ob2 rfl _ rfl (OZ3.row_same _)) rfl ?_
    exact HeldPost.no HE.out (by decide) rfl (below_row HB3.out (by omega) _)
  have HE : Hid (o.holdE s = 0) := hide (by unfold Ob.holdE; rw [if_pos HF.out, if_neg hc])
  go_wp2_with (first | (refine load_ob rfl _ rfl rfl OA3 ?_) | fail)
  refine (tbCopied_any o X _ HH3.out hX).mono ?_
  rintro e w4 ⟨c, rfl, hH4, hb4⟩
  have OS4 := OS3.below hb4 OS3.lt
  have OZ4 := OZ3.below hb4 OZ3.lt
  have HB4 := hide (HB3.out.trans (hb4.mono HB3.out.size))
  have hs3 : W.heap.size + 3 ≤ w3.heap.size := by have := OZ3.lt; omega
  have hs34 : w3.heap.size ≤ w4.heap.size := hb4.size
  have HH4 := hide hH4
  clear hb4 OA3 OS3 OZ3 HB3 HH3 kc hH4
  obtain ⟨w5, hw5, g, hg, w6, hw6, ON, hb6, hs6⟩ : ∃ w5, w4.alloc (.cells #[.int .u64 0, .int .i64 0, .int .i64 0, .int .i64 0, .int .u64 0, .slice none 0 0, .slice none 0 0, .slice none 0 0, .int .i64 0, .int .i64 0, .int .i64 0, .int .i64 0, .int .i64 0, .int .i64 0, .int .i64 0, .int .i64 0, .int .i64 0, .int .i64 0, .slice none 0 0, .slice none 0 0, .int .i64 0, .int .i64 0, .int .i64 0, .slice none 0 0, .slice none 0 0, .int .i64 0, .int .u64 0, .int .i64 0, .int .i64 0, .slice none 0 0, .slice none 0 0, .slice none 0 0, .int .i64 0, .int .i64 0, .int .i64 0, .slice none 0 0] 61) = w5 ∧ ∃ g, w4.heap.size = g ∧ ∃ w6, w5.setRow g (oc (o.relist c)) = w6 ∧ (Obl w5 g 61 (oc Ob.zero)) ∧ Below g w4 w6 ∧ w6.heap.size = g + 1 := by
    refine ⟨_, rfl, _, rfl, _, rfl, Obl.make w4 _ _, below_row ((Below.refl _ _).alloc (Nat.le_refl _) _) (Nat.le_refl _) _, by simp [World.setRow]⟩
  have O6 : Obl w6 g 61 (oc (o.relist c)) := by rw [← hw6]; exact ON.row_same _
  have HG := hide hg
  have OS6 := OS4.below hb6 (by omega)
  have OZ6 := OZ4.below hb6 (by omega)
  have HB6 := hide (HB4.out.trans (hb6.mono (by omega)))
  have HX6 := hide hb6
  clear hb6 OS4 OZ4 HB4
  go_wp2_with (first | (refine store_ob rfl _ _ rfl rfl (c := o.relist c) rfl ON rfl ?_; rw [hw6]) | (refine wpList_val (by rfl) (exec_load_slot0 rfl rfl OS6) ?_) | fail)
  refine (count_any _ s _ HFIN.out).mono ?_
  rintro e w7 ⟨rfl, hb7⟩
  have O7 := O6.below hb7 O6.lt
  have OZ7 := OZ6.below hb7 OZ6.lt
  have HB7 := hide (HB6.out.trans (hb7.mono HB6.out.size))
  have kc : w7.cell? ⟨g, s.off, none⟩ = some (.int .i64 (o.cnt s)) := by rw [O7.cell]; exact Ob.cell_off (o := o.relist c) HFIN.out
  have kf := O7.free s.off
  obtain ⟨w8, hw8⟩ : ∃ w8, w7.setCell ⟨g, s.off, none⟩ (.int .i64 (o.cnt s + 1)) = w8 := ⟨_, rfl⟩
  have O8 : Obl w8 g 61 (oc ((o.relist c).setCnt s (o.cnt s + 1))) := by
    have := O7.put s.off (.int .i64 (o.cnt s + 1))
    rw [← hw8]
    rwa [Ob.put_off HFIN.out] at this
  have OZ8 : Obl w8 (W.heap.size + 2) 61 (oc Ob.zero) := by rw [← hw8]; exact OZ7.put_other (b' := g) (by omega) s.off _
  have HB8 : Hid (Below W.heap.size W w8) := hide (by rw [← hw8]; exact HB7.out.setCell (p := ⟨g, s.off, none⟩) (by simp only; omega) _)
  have HX8 : Hid (Below g w4 w8) := hide (by rw [← hw8]; exact (HX6.out.trans (hb7.mono (by omega))).setCell (p := ⟨g, s.off, none⟩) (Nat.le_refl _) _)
  clear hb7 OS6 OZ6 HB6 O6 O7 OZ7 HB7 ON HX6
  go_wp2_with (first | (rw [hw8]) | (refine load_ob rfl _ rfl rfl O8 ?_) | (refine store_ob rfl _ _ rfl rfl (c := (o.relist c).setCnt s (o.cnt s + 1)) rfl OZ8 rfl ?_) | fail)
  refine bodyPost_ret (ret_ob2 rfl _ rfl (OZ8.row_same _)) rfl ?_
  refine HeldPost.yes HE.out rfl (HH4.out _ ?_ ?_) (below_row HB8.out (by omega) _)
  · have := HX8.out.size
    simpa [World.setRow] using this
  · intro k k1 k2
    rw [setRow_other _ _ _ (by omega)]
    exact HX8.out.block k (by have := HG.out; omega)

set_option maxRecDepth 100000 in
set_option maxHeartbeats 8000000 in
theorem unused_any (o : Ob) (W : World) : Calls Try.prog 57 #[.agg (oc o)] W (BoolPost o.gone W) := by
  obtain ⟨w1, hw, O, hb⟩ : ∃ w1, W.alloc (.cells (oc o) 61) = w1 ∧ Obl w1 W.heap.size 61 (oc o) ∧ Below W.heap.size W w1 := ⟨_, rfl, Obl.make W _ _, (Below.refl _ _).alloc (Nat.le_refl _) _⟩
  have HB := hide hb
  have k1 : w1.cell? ⟨W.heap.size, 1, none⟩ = some (.int .i64 o.kind) := O.cell 1
  have k2 : w1.cell? ⟨W.heap.size, 2, none⟩ = some (.int .i64 o.refs) := O.cell 2
  have k27 : w1.cell? ⟨W.heap.size, 27, none⟩ = some (.int .i64 o.readers) := O.cell 27
  have k28 : w1.cell? ⟨W.heap.size, 28, none⟩ = some (.int .i64 o.writers) := O.cell 28
  clear hb
  by_cases h4 : o.kind = 4
  · have HF : Hid (o.gone = (o.refs == 0)) := hide (by unfold Ob.gone; rw [if_pos h4])
    have z1 : (o.kind == 4) = true := by simpa using h4
    clear h4
    go_enter Try.func57, Try.ntmps57
    go_wp2_with fail
    go_ret
    exact ⟨ret_bool2 HF.out.symm, HB.out⟩
  have z1 : (o.kind == 4) = false := by simpa using h4
  by_cases h5 : o.kind = 5
  · have z2 : (o.kind == 5) = true := by simpa using h5
    cases hr : o.readers == 0
    · have HF : Hid (o.gone = false) := hide (by unfold Ob.gone; rw [if_neg h4, if_pos h5, hr]; rfl)
      clear h4 h5
      go_enter Try.func57, Try.ntmps57
      go_wp2_with fail
      go_ret
      exact ⟨ret_bool2 HF.out.symm, HB.out⟩
    · have HF : Hid (o.gone = (o.writers == 0)) := hide (by unfold Ob.gone; rw [if_neg h4, if_pos h5, hr]; rfl)
      clear h4 h5
      go_enter Try.func57, Try.ntmps57
      go_wp2_with fail
      go_ret
      exact ⟨ret_bool2 HF.out.symm, HB.out⟩
  have z2 : (o.kind == 5) = false := by simpa using h5
  by_cases h7 : o.kind = 7
  · have z3 : (o.kind == 7) = true := by simpa using h7
    have HF : Hid (o.gone = decide ([o.e0, o.e1] = [0, 0])) := hide (by unfold Ob.gone; rw [if_neg h4, if_neg h5, if_pos h7])
    clear h4 h5 h7
    go_enter Try.func57, Try.ntmps57
    go_wp2_with (first | (refine wpList_val (by rfl) (exec_load_ends rfl rfl O) ?_) | (refine wpList_val (by rfl) (exec_build rfl rfl built_ends) ?_) | (refine wpList_val (by rfl) (exec_eql_ends rfl (L := [o.e0, o.e1]) (M := [0, 0]) rfl rfl rfl rfl) ?_) | fail)
    go_ret
    exact ⟨by rw [HF.out]; simp, HB.out⟩
  · have z3 : (o.kind == 7) = false := by simpa using h7
    have HF : Hid (o.gone = false) := hide (by unfold Ob.gone; rw [if_neg h4, if_neg h5, if_neg h7])
    clear h4 h5 h7
    go_enter Try.func57, Try.ntmps57
    go_wp2_with fail
    go_ret
    exact ⟨ret_bool2 HF.out.symm, HB.out⟩

/-- An object with another count, whether nothing refers to it, an error. -/
def DropPost (r : Int) (o : Ob) (s : Tb.Slot) (v : Int) (X : Cont) (w : World) (e : Ending) (w' : World) : Prop :=
  ((r ≠ 0 ∧ e = .returned (.tuple #[.agg (oc Ob.zero), .bool false, .int .i64 r])) ∨ (r = 0 ∧ ∃ c, e = .returned (.tuple #[.agg (oc ((o.relist c).setCnt s v)), .bool (o.setCnt s v).gone, .int .i64 0]) ∧ Holds w' w'.heap.size c X)) ∧ Below w.heap.size w w'
theorem DropPost.no {r i : Int} {o : Ob} {s : Tb.Slot} {v : Int} {X : Cont} {w w' : World} {e : Ending} (h : r = i) (h0 : i ≠ 0) (he : e = .returned (.tuple #[.agg (oc Ob.zero), .bool false, .int .i64 i])) (hb : Below w.heap.size w w') : DropPost r o s v X w e w' := by subst h; exact ⟨.inl ⟨h0, he⟩, hb⟩
theorem DropPost.yes {r : Int} {o c : Ob} {s : Tb.Slot} {v : Int} {X : Cont} {w w' : World} {e : Ending} (h : r = 0) (he : e = .returned (.tuple #[.agg (oc ((o.relist c).setCnt s v)), .bool ((o.relist c).setCnt s v).gone, .int .i64 0])) (hH : Holds w' w'.heap.size c X) (hb : Below w.heap.size w w') : DropPost r o s v X w e w' := by
  refine ⟨.inr ⟨h, c, ?_, hH⟩, hb⟩
  rw [he]
  have : ((o.relist c).setCnt s v).gone = (o.setCnt s v).gone := by
    unfold Ob.setCnt
    split
    · rfl
    · split
      · rfl
      · split
        · split <;> rfl
        · rfl
  rw [this]
theorem results_cell_tt {P : Program} {w : World} {fn : Func} {p u v : Tmp} {ty : TypeId} (hr : fn.results = #[.cell p ty, .tmp u, .tmp v]) (tmps : Array Value) {b : Nat} {t : TypeId} {cs : Array Value} {d : TypeDesc}
    (hp : tmps.getD p undef = .pointer (some ⟨b, 0, none⟩)) (h : Obl w b t cs) (hu : P.underlying ty = some d) (hd : (match d with | .struct _ | .array _ _ => true | _ => false) = true) (hi : (P.info? ty).map (·.size) = some cs.size) :
    (results fn tmps).run P w = .ok (.tuple #[.agg cs, tmps.getD u undef, tmps.getD v undef]) w := by
  have hp' : tmps[p]?.getD undef = .pointer (some ⟨b, 0, none⟩) := by simpa using hp
  simp [results, hr, hp', asAddr, h.load hu hd hi]
theorem ret_ob3 {w : World} {fn : Func} {p u v : Tmp} (hr : fn.results = #[.cell p 61, .tmp u, .tmp v]) (tmps : Array Value) {g : Nat} (hp : tmps.getD p undef = .pointer (some ⟨g, 0, none⟩)) {y : Ob} {t : TypeId} (h : Obl w g t (oc y)) :
    (results fn tmps).run Try.prog w = .ok (.tuple #[.agg (oc y), tmps.getD u undef, tmps.getD v undef]) w := results_cell_tt hr tmps hp h Try.underlying61 rfl obSize
theorem wp_store_ob10 {o : Oper} {a : Act} {w : World} {Q : Exit → Act → World → Prop} {K : Act → World → Prop} {x y : Operand} (ho : o.op = .store 61 x y) {g : Nat} (hx : a.eval x = .pointer (some ⟨g, 0, none⟩)) {c : Ob} (hy : a.eval y = .agg (oc c)) {old : Array Value} {t : TypeId} (h : Obl w g t old) (hold : old.size = 36)
    (hK : K (a.put o.dst undef) (w.setRow g (oc c))) : o.wp Try.prog a w K Q := wp_store_row _ x y ho g (oc c) hx hy t old h obSize hold (oc_one c) hK
set_option maxRecDepth 100000 in
set_option maxHeartbeats 16000000 in
theorem tbDrop_any (o : Ob) (s : Tb.Slot) (X : Cont) (W : World) (h : Holds W W.heap.size o X) (hX : X.Short) (h64 : -9223372036854775808 ≤ o.cnt s ∧ o.cnt s ≤ 9223372036854775807) :
    Calls Try.prog 28 #[.agg (oc o), sta s] W (DropPost (o.dropE s) o s (o.cnt s - 1) X W) := by
  obtain ⟨w1, hw, OA, OS, OZ, hb, hs⟩ := start_osz W o s
  have HB := hide hb
  have HH := hide (h.later hb)
  clear hb h
  go_enter Try.func28, Try.ntmps28
  go_wp2_with (first | (refine load_ob rfl _ rfl rfl OA ?_) | (refine wpList_val (by rfl) (exec_load_slot0 rfl rfl OS) ?_) | fail)
  refine (tbCheck_any o s _).mono ?_
  rintro e w2 ⟨rfl, hb2⟩
  have OA2 := OA.below hb2 OA.lt
  have OS2 := OS.below hb2 OS.lt
  have OZ2 := OZ.below hb2 OZ.lt
  have HB2 := hide (HB.out.trans (hb2.mono HB.out.size))
  have HH2 := hide (HH.out.later hb2)
  clear hb2 OA OS OZ HB HH
  by_cases hf : o.fits s = 0
  case neg =>
    have HF : Hid (o.dropE s = o.fits s) := hide (by unfold Ob.dropE; rw [if_neg hf])
    have HN := hide hf
    have z1 : (o.fits s != 0) = true := by simpa using hf
    clear hf
    go_wp2_with (first | (refine wpList_val (by rfl) (exec_build rfl rfl built_zero) ?_) | (refine store_ob rfl _ _ rfl rfl (c := Ob.zero) rfl OZ2 rfl ?_) | fail)
    refine bodyPost_ret (ret_ob3 rfl _ rfl (OZ2.row_same _)) rfl ?_
    exact DropPost.no HF.out HN.out rfl (below_row HB2.out (by omega) _)
  rw [hf]
  have HF := hide hf
  have hfin := Tb.Slot.ok_fin (Ob.fits_ok hf)
  have HFIN := hide hfin
  clear hf
  have zz : ((0 : Int) != 0) = false := by decide
  go_wp2_with (first | (refine wpList_val (by rfl) (exec_load_slot0 rfl rfl OS2) ?_) | fail)
  refine (count_any _ s _ HFIN.out).mono ?_
  rintro e w3 ⟨rfl, hb3⟩
  have OA3 := OA2.below hb3 OA2.lt
  have OS3 := OS2.below hb3 OS2.lt
  have OZ3 := OZ2.below hb3 OZ2.lt
  have HB3 := hide (HB2.out.trans (hb3.mono HB2.out.size))
  have HH3 := hide (HH2.out.later hb3)
  have kc : w3.cell? ⟨W.heap.size, s.off, none⟩ = some (.int .i64 (o.cnt s)) := by rw [OA3.cell]; exact Ob.cell_off HFIN.out
  clear hb3 OA2 OS2 OZ2 HB2 HH2 hfin
  by_cases hc : o.cnt s < 1
  · have HE : Hid (o.dropE s = 8) := hide (by unfold Ob.dropE; rw [if_pos HF.out, if_pos hc])
    go_wp2_with (first | (refine wpList_val (by rfl) (exec_build rfl rfl built_zero) ?_) | (refine store_ob rfl _ _ rfl rfl (c := Ob.zero) rfl OZ3 rfl ?_) | fail)
    refine bodyPost_ret (ret_ob3 rfl _ rfl (OZ3.row_same _)) rfl ?_
    exact DropPost.no HE.out (by decide) rfl (below_row HB3.out (by omega) _)
  have HE : Hid (o.dropE s = 0) := hide (by unfold Ob.dropE; rw [if_pos HF.out, if_neg hc])
  go_wp2_with (first | (refine load_ob rfl _ rfl rfl OA3 ?_) | fail)
  refine (tbCopied_any o X _ HH3.out hX).mono ?_
  rintro e w4 ⟨c, rfl, hH4, hb4⟩
  have OS4 := OS3.below hb4 OS3.lt
  have OZ4 := OZ3.below hb4 OZ3.lt
  have HB4 := hide (HB3.out.trans (hb4.mono HB3.out.size))
  have hs3 : W.heap.size + 3 ≤ w3.heap.size := by have := OZ3.lt; omega
  have hs34 : w3.heap.size ≤ w4.heap.size := hb4.size
  have HH4 := hide hH4
  clear hb4 OA3 OS3 OZ3 HB3 HH3 kc hH4
  obtain ⟨w5, hw5, g, hg, w6, hw6, ON, hb6, hs6⟩ : ∃ w5, w4.alloc (.cells #[.int .u64 0, .int .i64 0, .int .i64 0, .int .i64 0, .int .u64 0, .slice none 0 0, .slice none 0 0, .slice none 0 0, .int .i64 0, .int .i64 0, .int .i64 0, .int .i64 0, .int .i64 0, .int .i64 0, .int .i64 0, .int .i64 0, .int .i64 0, .int .i64 0, .slice none 0 0, .slice none 0 0, .int .i64 0, .int .i64 0, .int .i64 0, .slice none 0 0, .slice none 0 0, .int .i64 0, .int .u64 0, .int .i64 0, .int .i64 0, .slice none 0 0, .slice none 0 0, .slice none 0 0, .int .i64 0, .int .i64 0, .int .i64 0, .slice none 0 0] 61) = w5 ∧ ∃ g, w4.heap.size = g ∧ ∃ w6, w5.setRow g (oc (o.relist c)) = w6 ∧ (Obl w5 g 61 (oc Ob.zero)) ∧ Below g w4 w6 ∧ w6.heap.size = g + 1 := by
    refine ⟨_, rfl, _, rfl, _, rfl, Obl.make w4 _ _, below_row ((Below.refl _ _).alloc (Nat.le_refl _) _) (Nat.le_refl _) _, by simp [World.setRow]⟩
  have O6 : Obl w6 g 61 (oc (o.relist c)) := by rw [← hw6]; exact ON.row_same _
  have HG := hide hg
  have OS6 := OS4.below hb6 (by omega)
  have OZ6 := OZ4.below hb6 (by omega)
  have HB6 := hide (HB4.out.trans (hb6.mono (by omega)))
  have HX6 := hide hb6
  clear hb6 OS4 OZ4 HB4
  go_wp2_with (first | (refine store_ob rfl _ _ rfl rfl (c := o.relist c) rfl ON rfl ?_; rw [hw6]) | (refine wpList_val (by rfl) (exec_load_slot0 rfl rfl OS6) ?_) | fail)
  refine (count_any _ s _ HFIN.out).mono ?_
  rintro e w7 ⟨rfl, hb7⟩
  have O7 := O6.below hb7 O6.lt
  have OZ7 := OZ6.below hb7 OZ6.lt
  have HB7 := hide (HB6.out.trans (hb7.mono HB6.out.size))
  have kc : w7.cell? ⟨g, s.off, none⟩ = some (.int .i64 (o.cnt s)) := by rw [O7.cell]; exact Ob.cell_off (o := o.relist c) HFIN.out
  have kf := O7.free s.off
  obtain ⟨w8, hw8⟩ : ∃ w8, w7.setCell ⟨g, s.off, none⟩ (.int .i64 (o.cnt s - 1)) = w8 := ⟨_, rfl⟩
  have O8 : Obl w8 g 61 (oc ((o.relist c).setCnt s (o.cnt s - 1))) := by
    have := O7.put s.off (.int .i64 (o.cnt s - 1))
    rw [← hw8]
    rwa [Ob.put_off HFIN.out] at this
  have OZ8 : Obl w8 (W.heap.size + 2) 61 (oc Ob.zero) := by rw [← hw8]; exact OZ7.put_other (b' := g) (by omega) s.off _
  have HB8 : Hid (Below W.heap.size W w8) := hide (by rw [← hw8]; exact HB7.out.setCell (p := ⟨g, s.off, none⟩) (by simp only; omega) _)
  have HX8 : Hid (Below g w4 w8) := hide (by rw [← hw8]; exact (HX6.out.trans (hb7.mono (by omega))).setCell (p := ⟨g, s.off, none⟩) (Nat.le_refl _) _)
  clear hb7 OS6 OZ6 HB6 O6 O7 OZ7 HB7 ON HX6
  go_wp2_with (first | (rw [hw8]) | fail)
  have hgz : W.heap.size + 2 < w8.heap.size := OZ8.lt
  have hgg : g < w8.heap.size := O8.lt
  have hgn : g ≠ W.heap.size + 2 := by omega
  refine region_D (by kernel_rfl) w8.heap.size (W.heap.size + 2) [3] ?_
  obtain ⟨u, hu, OU, OZU, HU, hus⟩ : ∃ u, w8.drew = u ∧ Obl u g 61 (oc ((o.relist c).setCnt s (o.cnt s - 1))) ∧ Obl u (W.heap.size + 2) 61 (oc Ob.zero) ∧ Hid (Below w8.heap.size w8 u) ∧ u.heap.size = w8.heap.size := ⟨_, rfl, O8, OZ8, hide ⟨rfl, rfl, rfl, Nat.le_refl _, fun _ _ => rfl⟩, rfl⟩
  rw [hu]
  clear hu
  refine takeD 0 [0, 3, 4, 5] rfl (by kernel_rfl) (fun _ _ _ h => h) (by rfl) (by intro w' hg; exact exec_load_ob rfl rfl (hg.obl OU (by omega) (by omega))) ?_
  refine takeD 1 [1, 2, 3, 4, 5] rfl (by kernel_rfl) (fun _ _ _ h => h) (by rfl) (by intro w' hg; exact exec_load_ob rfl rfl (hg.obl OU (by omega) (by omega))) ?_
  refine onlyD 2 rfl (by kernel_rfl) (by rfl) ?_
  intro K hK
  go_simp
  refine (unused_any _ _).mono ?_
  rintro e u1 ⟨rfl, hbu⟩
  have OZ9 := OZU.below hbu OZU.lt
  have HU9 : Hid (Below w8.heap.size w8 u1) := hide (HU.out.trans (hbu.mono (by omega)))
  refine hK _ _ (fun _ => Bel.of (hbu.mono (by omega))) ?_
  clear hK K hbu
  refine onlyD 3 rfl (by kernel_rfl) (by rfl) ?_
  intro K hK
  refine wp_store_ob10 rfl rfl (c := (o.relist c).setCnt s (o.cnt s - 1)) rfl OZ9 rfl ?_
  refine hK _ _ (fun h => absurd h (by decide)) ?_
  clear hK K
  refine takeDX 4 rfl (by kernel_rfl) (fun _ _ _ h => h) (by rfl) (by intro w'; go_simp; try with_reducible rfl) ?_
  refine takeDX 5 rfl (by kernel_rfl) (fun _ _ _ h => h) (by rfl) (by intro w'; go_simp; try with_reducible rfl) ?_
  refine doneD (by kernel_rfl) ?_
  go_simp
  go_wp2
  refine bodyPost_ret (ret_ob3 rfl _ rfl (OZ9.row_same _)) rfl ?_
  refine DropPost.yes HE.out rfl (HH4.out _ ?_ ?_) (below_row (HB8.out.trans (HU9.out.mono (by omega))) (by omega) _)
  · have h1 := HX8.out.size
    have h2 := HU9.out.size
    simpa [World.setRow] using (by omega : w4.heap.size ≤ u1.heap.size)
  · intro k k1 k2
    have hk4 : k < w8.heap.size := by have := HX8.out.size; omega
    rw [setRow_other _ _ _ (by omega), HU9.out.block k hk4]
    exact HX8.out.block k (by have := HG.out; omega)
end Go.Proofs.Ytbbibbniphmgbaa
