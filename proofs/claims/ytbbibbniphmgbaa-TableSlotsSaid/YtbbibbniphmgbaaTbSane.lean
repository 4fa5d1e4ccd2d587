/- Layer 10: what the laws share: the sanity check. -/
import Derived.Test.YtbbibbniphmgbaaTbDrop
import Derived.Test.YtbbibbniphmgbaaTbClear
namespace Go.Proofs.Ytbbibbniphmgbaa
open Go.RowKit

theorem built_slot (k t : Int) : Try.prog.built 25 [(0, .int .i64 k), (2, .int .u64 t)] = some #[.int .i64 k, .int .u64 0, .int .u64 t, .int .i64 0] := by kernel_rfl
theorem built_slot3 (k t f : Int) : Try.prog.built 25 [(0, .int .i64 k), (2, .int .u64 t), (3, .int .i64 f)] = some #[.int .i64 k, .int .u64 0, .int .u64 t, .int .i64 f] := by kernel_rfl
theorem built_idk (i k : Int) : Try.prog.built 61 [(0, .int .u64 i), (1, .int .i64 k)] = some (oc { Ob.zero with id := i, kind := k }) := by kernel_rfl
theorem start_sane (w : World) : ∃ w1, w.alloc (.cells #[.int .i64 0, .int .u64 0, .int .u64 0, .int .i64 0, .int .i64 7, .int .u64 0, .int .u64 4, .int .i64 0] 25) = w1 ∧ Slots w1 w1.heap.size (some ⟨w.heap.size, 0, none⟩) 2 [Tb.Slot.zero, ⟨7, 0, 4, 0⟩] ∧ Below w.heap.size w w1 ∧ w1.heap.size = w.heap.size + 1 := by
  refine ⟨_, rfl, ⟨rfl, ⟨rfl, by simp, ?_⟩⟩, (Below.refl _ _).alloc (Nat.le_refl _) _, by simp⟩
  have := (Row.list w [.int .i64 0, .int .u64 0, .int .u64 0, .int .i64 0, .int .i64 7, .int .u64 0, .int .u64 4, .int .i64 0] 25).rd
  rw [World.size_alloc]
  exact this
theorem Ob.zero_bald (i k : Int) : ({ Ob.zero with id := i, kind := k } : Ob).Bald := by constructor <;> rfl
/-- An object stored into a new block. -/
theorem start_zob (w : World) (o : Ob) : ∃ w5, w.alloc (.cells #[.int .u64 0, .int .i64 0, .int .i64 0, .int .i64 0, .int .u64 0, .slice none 0 0, .slice none 0 0, .slice none 0 0, .int .i64 0, .int .i64 0, .int .i64 0, .int .i64 0, .int .i64 0, .int .i64 0, .int .i64 0, .int .i64 0, .int .i64 0, .int .i64 0, .slice none 0 0, .slice none 0 0, .int .i64 0, .int .i64 0, .int .i64 0, .slice none 0 0, .slice none 0 0, .int .i64 0, .int .u64 0, .int .i64 0, .int .i64 0, .slice none 0 0, .slice none 0 0, .slice none 0 0, .int .i64 0, .int .i64 0, .int .i64 0, .slice none 0 0] 61) = w5 ∧ ∃ g, w.heap.size = g ∧ ∃ w6, w5.setRow g (oc o) = w6 ∧ Obl w5 g 61 (oc Ob.zero) ∧ Obl w6 g 61 (oc o) ∧ Below g w w6 ∧ w6.heap.size = g + 1 := by
  have O : Obl (w.alloc (.cells (oc Ob.zero) 61)) w.heap.size 61 (oc Ob.zero) := Obl.make w _ _
  exact ⟨_, rfl, _, rfl, _, rfl, O, O.row_same _, below_row ((Below.refl _ _).alloc (Nat.le_refl _) _) (Nat.le_refl _) _, by simp [World.setRow]⟩
set_option maxRecDepth 100000 in
set_option maxHeartbeats 16000000 in
theorem sane10_any (W : World) : Calls Try.prog 8 #[] W (BoolPost true W) := by
  obtain ⟨w1, hw1, g, hg, w2, hw2, OZ, ON, hb2, hs2⟩ := start_zslot W ⟨7, 0, 4, 0⟩
  obtain ⟨w3, hw3, hR, hb3, hs3⟩ := start_sane w2
  have HR := hide hR
  have HB3 := hide ((hb2.mono (by omega)).trans (hb3.mono (by omega)) : Below W.heap.size W w3)
  have O3 := ON.below hb3 (by omega)
  clear hR hb2 hb3 hs2 hs3
  go_enter Try.func8, Try.ntmps8
  go_wp2_with (first | (refine wpList_val (by rfl) (exec_build (t := 25) (vs := [(0, .int .i64 7), (2, .int .u64 4)]) rfl rfl (built_slot _ _)) ?_) | (refine wpList_val (by rfl) (exec_build (t := 25) (vs := []) rfl rfl built_slot0) ?_) | (refine store_slot rfl _ _ rfl rfl (c := ⟨7, 0, 4, 0⟩) rfl OZ rfl ?_; rw [hw2]) | (refine wpList_val (by rfl) (exec_load_slot0 (y := ⟨7, 0, 4, 0⟩) rfl rfl ON) ?_) | (refine wpList_val (by rfl) (exec_load_slot0 (y := ⟨7, 0, 4, 0⟩) rfl rfl O3) ?_) | fail)
  refine (tbPut_any [Tb.Slot.zero, ⟨7, 0, 4, 0⟩] ⟨7, 0, 4, 0⟩ _ 2 2 _ _ HR.out (Nat.le_refl _) (by omega)).mono ?_
  intro e w4 hp
  obtain ⟨A, n, d, rfl, hR4, hn4, hb4⟩ := hp.got (show Tb.put [Tb.Slot.zero, ⟨7, 0, 4, 0⟩] ⟨7, 0, 4, 0⟩ = ([⟨7, 0, 4, 0⟩, ⟨7, 0, 4, 0⟩], 0, 0) by decide)
  have hn2 : n = 2 := hR4.len.symm
  subst hn2
  have HR4 := hide hR4
  have HN4 := hide hn4
  have O4 := O3.below hb4 O3.lt
  have HB4 := hide (HB3.out.trans (hb4.mono HB3.out.size))
  clear hp hR4 hn4 hb4 O3 hw1 hw2 hw3 OZ ON hg
  go_wp2_with (first | (refine wpList_val (by rfl) (exec_build (t := 25) (vs := [(0, .int .i64 2), (2, .int .u64 4)]) rfl rfl (built_slot _ _)) ?_) | (refine wpList_val (by rfl) (exec_build (t := 61) (vs := [(0, .int .u64 4), (1, .int .i64 5)]) rfl rfl (built_idk _ _)) ?_) | fail)
  refine (tbHold_any { Ob.zero with id := 4, kind := 5 } ⟨2, 0, 4, 0⟩ Cont.none _ (Holds.bald (Ob.zero_bald 4 5) _ _) Cont.none_short (by decide)).mono ?_
  rintro e w5 ⟨⟨h0, _⟩ | ⟨h0, c, rfl, hH⟩, hb5⟩
  · exact absurd (by decide) h0
  have HR5 := hide (HR4.out.later hb5)
  have O5 := O4.below hb5 O4.lt
  have HB5 := hide (HB4.out.trans (hb5.mono HB4.out.size))
  have HH := hide hH
  clear h0 hH hb5 O4
  obtain ⟨o, ho⟩ : ∃ o, (({ Ob.zero with id := 4, kind := 5 } : Ob).relist c).setCnt ⟨2, 0, 4, 0⟩ (({ Ob.zero with id := 4, kind := 5 } : Ob).cnt ⟨2, 0, 4, 0⟩ + 1) = o := ⟨_, rfl⟩
  have hr1 : o.readers = 1 := by rw [← ho]; rfl
  rw [ho]
  obtain ⟨w6, hw6, g7, hg7, w7, hw7, OZ7, ON7, hb7, hs7⟩ := start_zob w5 o
  have HR7 := hide ((HR5.out.below (hb7.mono (by omega))).mono (by omega) : Slots w7 w7.heap.size A 2 _)
  have O7 := O5.below hb7 (by have := O5.lt; omega)
  have HB7 := hide (HB5.out.trans (hb7.mono (by have := HB5.out.size; omega)))
  clear ho hb7 O5 HR5 HH hs7
  go_wp2_with (first | (refine store_ob rfl _ _ rfl rfl (c := o) rfl OZ7 rfl ?_; rw [hw7]) | fail)
  clear hw6 hw7 OZ7 hg7
  refine (tbValid_any _ A 2 d _ HR7.out HN4.out).mono ?_
  rintro e w8 ⟨rfl, hb8⟩
  rw [show decide (Tb.Valid [⟨7, 0, 4, 0⟩, ⟨7, 0, 4, 0⟩]) = true by decide]
  have O8 := O7.below hb8 O7.lt
  have HB8 := hide (HB7.out.trans (hb8.mono HB7.out.size))
  have k27 : w8.cell? ⟨g7, 27, none⟩ = some (.int .i64 1) := ((ON7.below hb8 ON7.lt).cell 27).trans (by show some (Value.int .i64 o.readers) = _; rw [hr1])
  clear hb8 O7
  go_wp2_with (first | (refine wpList_val (by rfl) (exec_load_slot0 (y := ⟨7, 0, 4, 0⟩) rfl rfl O8) ?_) | fail)
  refine (Holder_any ⟨7, 0, 4, 0⟩ _).mono ?_
  rintro e w9 ⟨rfl, hb9⟩
  rw [show (Tb.holder ⟨7, 0, 4, 0⟩).1 = 0 by decide]
  have HB9 := hide (HB8.out.trans (hb9.mono HB8.out.size))
  clear hb9
  go_wp2_with fail
  go_ret
  exact ⟨rfl, HB9.out⟩
end Go.Proofs.Ytbbibbniphmgbaa
