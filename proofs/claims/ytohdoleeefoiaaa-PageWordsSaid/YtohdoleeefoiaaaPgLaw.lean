/- Layer 6, what the laws share: pages laid in blocks, the sanity check. -/
import Derived.Test.YtohdoleeefoiaaaPgMade
namespace Go.Proofs.Ytohdoleeefoiaaa
open Go.RowKit

/-- Block m is the page id, whose words are block g. -/
structure PgAt (w : World) (m g : Nat) (id : Int) (L : List Int) : Prop where
  ob : Obl w m 41 (oc (Ob.page id ⟨some ⟨g, 0, none⟩, 16, 16⟩))
  ws : Obl w g 2 (nv .i64 L).toArray
  len : L.length = 16
section
variable {w w' : World} {m g : Nat} {id : Int} {L : List Int}
theorem PgAt.below (h : PgAt w m g id L) (hb : Below w.heap.size w w') : PgAt w' m g id L := ⟨h.ob.below hb h.ob.lt, h.ws.below hb h.ws.lt, h.len⟩
theorem PgAt.words (h : PgAt w m g id L) : Words w (Ob.page id ⟨some ⟨g, 0, none⟩, 16, 16⟩) L := words_page h.ws h.len
end
theorem page_check {id : Int} (hid : id ≠ 0) (g : Nat) {k : Nat} (hk : k < 16) : (Ob.page id ⟨some ⟨g, 0, none⟩, 16, 16⟩).check (k : Int) = 0 := Ob.check_ok (Ob.page_page hid rfl) (by omega)
theorem page_get {id : Int} (hid : id ≠ 0) (g : Nat) (L : List Int) {k : Nat} (hk : k < 16) : (Ob.page id ⟨some ⟨g, 0, none⟩, 16, 16⟩).get L (k : Int) = L.getD k 0 := by
  unfold Ob.get
  rw [if_pos (page_check hid g hk), Int.toNat_natCast]
theorem getD_set {L : List Int} {k : Nat} (hk : k < L.length) (v : Int) : (L.set k v).getD k 0 = v := by simp [hk]
theorem getD_set_ne {L : List Int} {i k : Nat} (h : i ≠ k) (v : Int) : (L.set i v).getD k 0 = L.getD k 0 := by simp [List.getElem?_set_ne h]
/-- A page that came back, laid in a new block. -/
theorem laid {w w1 : World} {g : Nat} {id : Int} {L : List Int} (hO : Obl w1 g 2 (nv .i64 L).toArray) (hL : L.length = 16) (hb : Below w.heap.size w w1) :
    ∃ w2, w1.alloc (.cells #[.int .u64 0, .int .i64 0, .int .i64 0, .int .i64 0, .int .u64 0, .slice none 0 0, .slice none 0 0, .slice none 0 0, .int .i64 0, .int .i64 0, .int .i64 0, .int .i64 0, .int .i64 0, .int .i64 0, .int .i64 0, .int .i64 0, .int .i64 0, .int .i64 0,
      .slice none 0 0, .slice none 0 0, .int .i64 0, .int .i64 0, .int .i64 0, .slice none 0 0, .slice none 0 0, .int .i64 0, .int .u64 0, .int .i64 0, .int .i64 0, .slice none 0 0, .slice none 0 0, .slice none 0 0, .int .i64 0, .int .i64 0, .int .i64 0, .slice none 0 0] 41) = w2 ∧
    ∃ m, w1.heap.size = m ∧ ∃ w3, w2.setRow m (oc (Ob.page id ⟨some ⟨g, 0, none⟩, 16, 16⟩)) = w3 ∧ Obl w2 m 41 (oc Ob.zero) ∧ PgAt w3 m g id L ∧ Below w.heap.size w w3 := by
  obtain ⟨w2, h1, h2, h3, h4⟩ := start_z w1
  refine ⟨w2, h1, _, rfl, _, rfl, h2, ⟨h2.row_same _, (hO.below h3 hO.lt).row_other (by have := hO.lt; omega) _, hL⟩, below_row (hb.trans (h3.mono hb.size)) hb.size _⟩

set_option maxRecDepth 100000 in
set_option maxHeartbeats 4000000 in
theorem sane_any (W : World) : Calls Try.prog 6 #[] W (BoolPost true W) := by
  go_enter Try.func6, Try.ntmps6
  go_wp2_with fail
  refine (new_any 3 _).mono ?_
  rintro e w1 ⟨g, rfl, OG, hg, hb⟩
  obtain ⟨w2, hw2, m, hm, w3, hw3, OZ, P3, hb3⟩ := laid (id := 3) OG rfl hb
  have HB3 := hide hb3
  clear hb hb3 OG hg
  go_wp2_with (first | (refine store_ob rfl _ _ rfl rfl (c := Ob.page 3 ⟨some ⟨g, 0, none⟩, 16, 16⟩) rfl OZ rfl ?_; rw [hw3]) | (refine load_ob rfl _ rfl rfl P3.ob ?_) | fail)
  refine (get_any _ no16 15 _ P3.words).mono ?_
  rintro e w4 ⟨rfl, hb4⟩
  rw [show (Ob.page 3 ⟨some ⟨g, 0, none⟩, 16, 16⟩).get no16 15 = 0 from page_get (k := 15) (by decide) g no16 (by omega), show (Ob.page 3 ⟨some ⟨g, 0, none⟩, 16, 16⟩).check 15 = 0 from page_check (k := 15) (by decide) g (by omega)]
  have P4 := P3.below hb4
  have HB4 := hide (HB3.out.trans (hb4.mono HB3.out.size))
  clear hb4 HB3 P3 OZ hw3 hw2 hm
  go_wp2_with (first | (refine load_ob rfl _ rfl rfl P4.ob ?_) | fail)
  refine (get_any _ no16 16 _ P4.words).mono ?_
  rintro e w5 ⟨rfl, hb5⟩
  have hc : (Ob.page 3 ⟨some ⟨g, 0, none⟩, 16, 16⟩).check 16 = 2 := by unfold Ob.check; rw [if_pos (Ob.page_page (by decide) rfl)]; rfl
  rw [show (Ob.page 3 ⟨some ⟨g, 0, none⟩, 16, 16⟩).get no16 16 = 0 from by unfold Ob.get; rw [hc]; rfl, hc]
  have P5 := P4.below hb5
  have HB5 := hide (HB4.out.trans (hb5.mono HB4.out.size))
  clear hb5 HB4 P4 hc
  go_wp2_with (first | (refine load_ob rfl _ rfl rfl P5.ob ?_) | fail)
  refine (valid_any _ _).mono ?_
  rintro e w6 ⟨rfl, hb6⟩
  rw [decide_eq_true (Ob.page_page (by decide) rfl)]
  have HB6 := hide (HB5.out.trans (hb6.mono HB5.out.size))
  clear hb6 HB5 P5
  go_wp2_with fail
  go_ret
  exact ⟨rfl, HB6.out⟩

end Go.Proofs.Ytohdoleeefoiaaa
