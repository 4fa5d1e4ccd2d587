/- Layer 6: package page's New, Get, Set, Copy: contracts. -/
import Derived.Test.YtohdoleeefoiaaaPgValid
import Derived.Test.YtohdoleeefoiaaaAgg
import Derived.Deep.OwnRows
import Derived.Laws.CopyOwn
namespace Go.Proofs.Ytohdoleeefoiaaa
open Go.RowKit

def no16 : List Int := [0, 0, 0, 0, 0, 0, 0, 0, 0, 0, 0, 0, 0, 0, 0, 0]
/-- Sixteen words that are 0. -/
theorem wpList_make16 {ops : Array Oper} {rest : List Oper} {o : Oper} {a : Act} {w : World} {Q : Exit → Act → World → Prop} (hgd : o.guard = none) (l c : Operand) (hop : o.op = Op.makeSlice 35 l c) (hl : a.eval l = .int .i64 16) (hc : a.eval c = .int .i64 16) {g : Nat} (hg : w.heap.size = g)
    (hK : ∀ w', Obl w' g 2 (nv .i64 no16).toArray → Below g w w' → w'.heap.size = g + 1 → wpList Try.prog ops Q rest (a.put o.dst (.slice (some ⟨g, 0, none⟩) 16 16)) w') : wpList Try.prog ops Q (o :: rest) a w := by
  obtain ⟨i0, hi, hz0, hz1, hz2⟩ := info_parts (show (Try.prog.info? 2).map (fun i => (i.zero, i.size, i.bytes)) = some (some (.int .i64 0), 1, 8) by kernel_rfl)
  subst hg
  refine wpList_make_row w hgd l c _ hop 2 i0 (.int .i64 0) Try.underlying35 hi hz0 hz1 rfl .i64 .i64 16 hl hc (by rw [hz2]; omega) (by omega) ?_
  refine hK _ ?_ ((Below.refl _ _).alloc (Nat.le_refl _) _) (by simp)
  rw [show madeCells #[Value.int .i64 0] 16 = (nv .i64 no16).toArray from by kernel_rfl]
  exact Obl.make w _ _

/-- Where a function begins that gives an object back. -/
theorem start_z (W : World) : ∃ w1, W.alloc (.cells #[.int .u64 0, .int .i64 0, .int .i64 0, .int .i64 0, .int .u64 0, .slice none 0 0, .slice none 0 0, .slice none 0 0, .int .i64 0, .int .i64 0, .int .i64 0, .int .i64 0, .int .i64 0, .int .i64 0, .int .i64 0, .int .i64 0, .int .i64 0, .int .i64 0,
  .slice none 0 0, .slice none 0 0, .int .i64 0, .int .i64 0, .int .i64 0, .slice none 0 0, .slice none 0 0, .int .i64 0, .int .u64 0, .int .i64 0, .int .i64 0, .slice none 0 0, .slice none 0 0, .slice none 0 0, .int .i64 0, .int .i64 0, .int .i64 0, .slice none 0 0] 41) = w1 ∧
    Obl w1 W.heap.size 41 (oc Ob.zero) ∧ Below W.heap.size W w1 ∧ w1.heap.size = W.heap.size + 1 :=
  ⟨_, rfl, Obl.make W _ (oc Ob.zero), (Below.refl _ _).alloc (Nat.le_refl _) _, by simp⟩
/-- .. and that copies one. -/
theorem start_oz (W : World) (o : Ob) : ∃ w1, (W.alloc (.cells (oc o) 41)).alloc (.cells #[.int .u64 0, .int .i64 0, .int .i64 0, .int .i64 0, .int .u64 0, .slice none 0 0, .slice none 0 0, .slice none 0 0, .int .i64 0, .int .i64 0, .int .i64 0, .int .i64 0, .int .i64 0, .int .i64 0, .int .i64 0, .int .i64 0, .int .i64 0, .int .i64 0,
  .slice none 0 0, .slice none 0 0, .int .i64 0, .int .i64 0, .int .i64 0, .slice none 0 0, .slice none 0 0, .int .i64 0, .int .u64 0, .int .i64 0, .int .i64 0, .slice none 0 0, .slice none 0 0, .slice none 0 0, .int .i64 0, .int .i64 0, .int .i64 0, .slice none 0 0] 41) = w1 ∧
    Obl w1 W.heap.size 41 (oc o) ∧ Obl w1 (W.heap.size + 1) 41 (oc Ob.zero) ∧ Below W.heap.size W w1 ∧ w1.heap.size = W.heap.size + 2 := by
  obtain ⟨w1, h1, h2, h3, h4⟩ := start_z (W.alloc (.cells (oc o) 41))
  rw [World.size_alloc] at h2 h4
  exact ⟨w1, h1, (Obl.make W _ _).below h3 (by simp), h2, ((Below.refl _ _).alloc (Nat.le_refl _) _).trans (h3.mono (by simp)), h4⟩

/-- A page comes back, with words of its own. -/
def PagePost (id : Int) (L : List Int) (w : World) (e : Ending) (w' : World) : Prop := ∃ g, e = .returned (.agg (oc (Ob.page id ⟨some ⟨g, 0, none⟩, 16, 16⟩))) ∧ Obl w' g 2 (nv .i64 L).toArray ∧ w.heap.size ≤ g ∧ Below w.heap.size w w'
set_option maxRecDepth 100000 in
set_option maxHeartbeats 4000000 in
theorem new_any (id : Int) (W : World) : Calls Try.prog 21 #[.int .u64 id] W (PagePost id no16 W) := by
  obtain ⟨w1, hw, O, hb, hs⟩ := start_z W
  have HB := hide hb
  clear hb
  go_enter Try.func21, Try.ntmps21
  go_wp2_with (first | (refine wpList_make16 rfl _ _ rfl rfl rfl hs ?_; intro w2 O2 hb2 hs2; have O' := O.below hb2 (by omega); have H2 := hide O2; clear O2) | (refine store_ob rfl _ _ rfl rfl (c := Ob.page id ⟨some ⟨W.heap.size + 1, 0, none⟩, 16, 16⟩) rfl O' rfl ?_) | fail)
  refine bodyPost_ret (ret_ob rfl _ rfl (O'.row_same _)) rfl ?_
  exact ⟨W.heap.size + 1, rfl, H2.out.row_other (by omega) _, by omega, below_row (HB.out.trans (hb2.mono (by omega))) (Nat.le_refl _) _⟩

/-- What the reference's words at a place are: 0: there; else the error. -/
def Ob.check (o : Ob) (word : Int) : Int := if o.Page then (if 0 ≤ word ∧ word < 16 then 0 else 2) else 1
theorem Ob.check_0 {o : Ob} {word : Int} (h : o.check word = 0) : o.Page ∧ 0 ≤ word ∧ word < 16 := by
  unfold Ob.check at h
  split at h
  · split at h
    · exact ⟨by assumption, by assumption⟩
    · omega
  · omega
theorem Ob.check_ok {o : Ob} {word : Int} (h : o.Page) (h0 : 0 ≤ word ∧ word < 16) : o.check word = 0 := by unfold Ob.check; rw [if_pos h, if_pos h0]
def IntPost (r : Int) (w : World) (e : Ending) (w' : World) : Prop := e = .returned (.int .i64 r) ∧ Below w.heap.size w w'
set_option maxRecDepth 100000 in
set_option maxHeartbeats 4000000 in
theorem check_any (o : Ob) (word : Int) (W : World) : Calls Try.prog 36 #[.agg (oc o), .int .i64 word] W (IntPost (o.check word) W) := by
  obtain ⟨w1, hw, O, hb⟩ : ∃ w1, W.alloc (.cells (oc o) 41) = w1 ∧ Obl w1 W.heap.size 41 (oc o) ∧ Below W.heap.size W w1 := ⟨_, rfl, Obl.make W _ _, (Below.refl _ _).alloc (Nat.le_refl _) _⟩
  have HB := hide hb
  clear hb
  go_enter Try.func36, Try.ntmps36
  go_wp2_with (first | (refine load_ob rfl _ rfl rfl O ?_) | fail)
  refine (valid_any o _).mono ?_
  rintro e w2 ⟨rfl, hb2⟩
  have HF := hide (HB.out.trans (hb2.mono HB.out.size))
  clear hb2
  by_cases hv : o.Page
  · rw [decide_eq_true hv]
    by_cases h0 : 0 ≤ word
    · by_cases h1 : word < 16
      · have HC : Hid (o.check word = 0) := hide (by unfold Ob.check; rw [if_pos hv, if_pos ⟨h0, h1⟩])
        go_wp2
        go_ret
        exact ⟨by rw [HC.out]; rfl, HF.out⟩
      · have HC : Hid (o.check word = 2) := hide (by unfold Ob.check; rw [if_pos hv, if_neg (fun h => h1 h.2)])
        go_wp2
        go_ret
        exact ⟨by rw [HC.out]; rfl, HF.out⟩
    · have HC : Hid (o.check word = 2) := hide (by unfold Ob.check; rw [if_pos hv, if_neg (fun h => h0 h.1)])
      go_wp2
      go_ret
      exact ⟨by rw [HC.out]; rfl, HF.out⟩
  · have HC : Hid (o.check word = 1) := hide (by unfold Ob.check; rw [if_neg hv])
    rw [decide_eq_false hv]
    go_wp2
    go_ret
    exact ⟨by rw [HC.out]; rfl, HF.out⟩

/-- The words of an object, if it is a page. -/
def Words (w : World) (o : Ob) (L : List Int) : Prop := o.words.n = 16 → Nums .i64 w w.heap.size o.words.A 16 L
theorem Words.below {w w' : World} {o : Ob} {L : List Int} (h : Words w o L) (hb : Below w.heap.size w w') : Words w' o L := fun hn => ((h hn).below hb).mono hb.size
theorem words_page {w : World} {g : Nat} {id : Int} {L : List Int} (h : Obl w g 2 (nv .i64 L).toArray) (hL : L.length = 16) : Words w (Ob.page id ⟨some ⟨g, 0, none⟩, 16, 16⟩) L := fun _ =>
  ⟨hL, ⟨by rw [nv_length]; omega, (fun h => by cases h), fun _ => ⟨g, 0, rfl, h.lt, fun j u hu => by rw [h.cell, Nat.zero_add, List.getElem?_toArray]; exact hu⟩⟩⟩
/-- A number and an error. -/
def GetPost (v r : Int) (w : World) (e : Ending) (w' : World) : Prop := e = .returned (.tuple #[.int .i64 v, .int .i64 r]) ∧ Below w.heap.size w w'
def Ob.get (o : Ob) (L : List Int) (word : Int) : Int := if o.check word = 0 then L.getD word.toNat 0 else 0
set_option maxRecDepth 100000 in
set_option maxHeartbeats 4000000 in
theorem get_any (o : Ob) (L : List Int) (word : Int) (W : World) (hL : Words W o L) : Calls Try.prog 12 #[.agg (oc o), .int .i64 word] W (GetPost (o.get L word) (o.check word) W) := by
  obtain ⟨w1, hw, O, hb⟩ : ∃ w1, W.alloc (.cells (oc o) 41) = w1 ∧ Obl w1 W.heap.size 41 (oc o) ∧ Below W.heap.size W w1 := ⟨_, rfl, Obl.make W _ _, (Below.refl _ _).alloc (Nat.le_refl _) _⟩
  have HB := hide hb
  have HL := hide (hL.below hb)
  clear hb hL
  go_enter Try.func12, Try.ntmps12
  go_wp2_with (first | (refine load_ob rfl _ rfl rfl O ?_) | fail)
  refine (check_any o word _).mono ?_
  rintro e w2 ⟨rfl, hb2⟩
  have HF := hide (HB.out.trans (hb2.mono HB.out.size))
  have HL2 := hide (HL.out.below hb2)
  have O2 := O.below hb2 O.lt
  clear hb2 HL hw
  by_cases hv : o.check word = 0
  · obtain ⟨hp, h0, h1⟩ := Ob.check_0 hv
    have HC := hide hv
    have HQ : Hid (o.get L word = L.getD word.toNat 0) := hide (by unfold Ob.get; rw [if_pos hv])
    rw [hv]
    obtain ⟨k, rfl⟩ := Int.eq_ofNat_of_zero_le h0
    have hn := hp.2.2.1
    obtain ⟨b, f, hl, hA, hlt, hc⟩ := (HL2.out hn).at_ (i := k) (by omega)
    have k23 : w2.cell? ⟨W.heap.size, 23, none⟩ = some (.slice (some ⟨b, f, none⟩) 16 o.words.c) := (O2.cell 23).trans (by show some (Value.slice o.words.A o.words.n o.words.c) = _; rw [hn, hA])
    have hget : L.getD k 0 = L[k] := Cd.getD_at _ _ hl
    have HG := hide hget
    obtain ⟨v, hvv⟩ : ∃ v, L[k] = v := ⟨_, rfl⟩
    rw [hvv] at hc HG
    have HN := hide hn
    clear hvv hget hn hp hA hv
    go_wp2
    go_ret2
    exact ⟨by rw [HC.out, HQ.out, Int.toNat_natCast, HG.out]; rfl, HF.out⟩
  · have HQ : Hid (o.get L word = 0) := hide (by unfold Ob.get; rw [if_neg hv])
    obtain ⟨r, hr⟩ : ∃ r, o.check word = r := ⟨_, rfl⟩
    have HR := hide hr
    rw [hr] at hv ⊢
    have b0 : (r != 0) = true := by simpa using hv
    have b1 : (r == 0) = false := by simpa using hv
    clear hr hv
    go_wp2
    go_ret2
    exact ⟨by rw [HR.out, HQ.out]; rfl, HF.out⟩
end Go.Proofs.Ytohdoleeefoiaaa
