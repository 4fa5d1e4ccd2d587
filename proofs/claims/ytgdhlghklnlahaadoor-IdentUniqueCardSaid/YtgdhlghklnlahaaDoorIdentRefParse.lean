/- Layer 3: the document's own answer to Parse. -/
import Derived.Test.YtgdhlghklnlahaaDoorIdentParse
namespace Go.Proofs.YtgdhlghklnlahaaDoor
open Go.RowKit

namespace Id
theorem no46_num {l : List UInt8} (h : l.dropWhile (Ct.no 46) ≠ []) : num l = (0, 5) := by
  unfold num
  split
  · rfl
  · rename_i hn
    have hn' : Wd.neg l = false := by simpa using hn
    have hm : (46 : UInt8) ∈ l := by
      have hh := List.head?_dropWhile_not (Ct.no 46) l
      cases hd : l.dropWhile (Ct.no 46) with
      | nil => exact absurd hd h
      | cons c r =>
        rw [hd] at hh
        simp only [List.head?_cons, Ct.no, decide_eq_false_iff_not, ne_eq, Decidable.not_not] at hh
        have : c ∈ l := (List.dropWhile_sublist (Ct.no 46)).subset (by rw [hd]; simp)
        simp_all
    apply Wd.number_no
    have hb : Wd.body l = l := Wd.body_pos hn'
    refine Wd.isNum_bad (c := 46) ?_ (by rw [hb]; exact hm) (by decide)
    rintro rfl
    revert hm; decide
theorem num_nil : num [] = (0, 5) := by decide
theorem three_5a {p q r : Int × Nat} (h : p.2 = 5 ∨ q.2 = 5 ∨ r.2 = 5) : three p q r = (0, 5) := by unfold three; rw [if_pos h]
/-- Not three parts. -/
theorem parse_not {l : List UInt8} (h : (Ct.parts 46 l).length ≠ 3) : parse l = (0, 5) := by
  unfold parse
  by_cases h1 : l.dropWhile (Ct.no 46) = []
  · have ha : Ct.after 46 l = [] := by unfold Ct.after; rw [h1]; rfl
    rw [ha]
    exact three_5a (.inr (.inl (by show (num []).2 = 5; rw [num_nil])))
  · rw [Ct.parts_some _ _ h1] at h
    generalize Ct.after 46 l = r at *
    by_cases h2 : r.dropWhile (Ct.no 46) = []
    · have ha : Ct.after 46 r = [] := by unfold Ct.after; rw [h2]; rfl
      rw [ha]
      exact three_5a (.inr (.inr (by rw [num_nil])))
    · rw [Ct.parts_some _ _ h2] at h
      generalize Ct.after 46 r = c at *
      have h3 : c.dropWhile (Ct.no 46) ≠ [] := by
        intro h3
        rw [Ct.parts_none _ _ h3] at h
        simp at h
      exact three_5a (.inr (.inr (by rw [no46_num h3])))
theorem parse_three {l a b c : List UInt8} (h : Ct.parts 46 l = [a, b, c]) : parse l = three (num a) (num b) (num c) := by
  unfold parse
  by_cases h1 : l.dropWhile (Ct.no 46) = []
  · rw [Ct.parts_none _ _ h1] at h; simp at h
  · rw [Ct.parts_some _ _ h1] at h
    by_cases h2 : (Ct.after 46 l).dropWhile (Ct.no 46) = []
    · rw [Ct.parts_none _ _ h2] at h; simp at h
    · rw [Ct.parts_some _ _ h2] at h
      by_cases h3 : (Ct.after 46 (Ct.after 46 l)).dropWhile (Ct.no 46) = []
      · rw [Ct.parts_none _ _ h3] at h
        simp only [List.cons.injEq, and_true] at h
        obtain ⟨rfl, rfl, rfl⟩ := h
        rfl
      · rw [Ct.parts_some _ _ h3] at h
        simp only [List.cons.injEq] at h
        have := congrArg List.length h.2.2.2
        have h4 := Ct.partsG_pos 46 [] (Ct.after 46 (Ct.after 46 (Ct.after 46 l)))
        unfold Ct.parts at this
        simp only [List.length_nil] at this
        omega
/-- What the check of one part says. -/
theorem part_cases (s : ByteArray) : ((Wd.number s.data.toList).2 = 5 ∧ (num s.data.toList).2 = 5) ∨ ∃ h : 0 < s.size, (Wd.number s.data.toList).2 ≠ 5 ∧ (((((s[0]'h).toNat : Int) == 45) = true ∧ (num s.data.toList).2 = 5) ∨ ((((s[0]'h).toNat : Int) == 45) = false ∧ num s.data.toList = Wd.number s.data.toList)) := by
  by_cases h5 : (Wd.number s.data.toList).2 = 5
  · left
    refine ⟨h5, ?_⟩
    unfold num
    split
    · rfl
    · exact h5
  · right
    have h0 : 0 < s.size := by
      rcases Nat.eq_zero_or_pos s.size with h | h
      · exfalso
        apply h5
        have : s.data.toList = [] := List.eq_nil_of_length_eq_zero (by rw [← Lib.size_eq]; exact h)
        rw [this]; decide
      · exact h
    refine ⟨h0, h5, ?_⟩
    have hd := drop_cons s 0 h0
    rw [List.drop_zero] at hd
    have hn : Wd.neg s.data.toList = decide (s[0] = 45) := by rw [hd, Wd.neg_cons]
    unfold num
    rw [hn]
    by_cases h : s[0] = 45
    · left
      rw [h]
      exact ⟨rfl, rfl⟩
    · right
      have : s[0].toNat ≠ 45 := ne_nat h
      refine ⟨by simp; omega, ?_⟩
      rw [if_neg (by simpa using h)]
def big (r : Int × Nat) : Bool := decide (r.2 ≠ 0) || decide (1099511627775 < r.1)
end Id

/-- Where the second reading of three numbers stands. -/
def Q3 (p q r : Int × Nat) (k : Nat) (o : Bool) (x y z : Int) : Prop :=
  (k = 0 ∧ o = false ∧ x = 0 ∧ y = 0 ∧ z = 0) ∨
  (k = 1 ∧ p.2 ≠ 5 ∧ o = Id.big p ∧ x = p.1 ∧ y = 0 ∧ z = 0) ∨
  (k = 2 ∧ p.2 ≠ 5 ∧ q.2 ≠ 5 ∧ o = (Id.big p || Id.big q) ∧ x = p.1 ∧ y = q.1 ∧ z = 0) ∨
  (k = 3 ∧ p.2 ≠ 5 ∧ q.2 ≠ 5 ∧ r.2 ≠ 5 ∧ o = (Id.big p || Id.big q || Id.big r) ∧ x = p.1 ∧ y = q.1 ∧ z = r.1)
theorem Q3.s0 {p q r : Int × Nat} {o : Bool} {x y z v : Int} {e : Nat} (h : Q3 p q r 0 o x y z) (hpe : p = (v, e)) (hp : e ≠ 5) : Q3 p q r 1 (o || Id.big (v, e)) v y z := by
  subst hpe
  rcases h with ⟨_, rfl, rfl, rfl, rfl⟩ | ⟨h, _⟩ | ⟨h, _⟩ | ⟨h, _⟩
  · exact .inr (.inl ⟨rfl, hp, by simp, rfl, rfl, rfl⟩)
  all_goals omega
theorem Q3.s1 {p q r : Int × Nat} {o : Bool} {x y z v : Int} {e : Nat} (h : Q3 p q r 1 o x y z) (hpe : q = (v, e)) (hq : e ≠ 5) : Q3 p q r 2 (o || Id.big (v, e)) x v z := by
  subst hpe
  rcases h with ⟨h, _⟩ | ⟨_, hp, rfl, rfl, rfl, rfl⟩ | ⟨h, _⟩ | ⟨h, _⟩
  · omega
  · exact .inr (.inr (.inl ⟨rfl, hp, hq, rfl, rfl, rfl, rfl⟩))
  · omega
  · omega
theorem Q3.s2 {p q r : Int × Nat} {o : Bool} {x y z v : Int} {e : Nat} (h : Q3 p q r 2 o x y z) (hpe : r = (v, e)) (hr : e ≠ 5) : Q3 p q r 3 (o || Id.big (v, e)) x y v := by
  subst hpe
  rcases h with ⟨h, _⟩ | ⟨h, _⟩ | ⟨_, hp, hq, rfl, rfl, rfl, rfl⟩ | ⟨h, _⟩
  · omega
  · omega
  · exact .inr (.inr (.inr ⟨rfl, hp, hq, hr, rfl, rfl, rfl, rfl⟩))
  · omega
theorem Q3.done {p q r : Int × Nat} {o : Bool} {x y z : Int} (h : Q3 p q r 3 o x y z) : x = p.1 ∧ y = q.1 ∧ z = r.1 ∧ ((o = true ∧ Id.three p q r = (0, 2)) ∨ (o = false ∧ Id.three p q r = Id.mk p.1 q.1 r.1)) := by
  rcases h with ⟨h, _⟩ | ⟨h, _⟩ | ⟨h, _⟩ | ⟨_, hp, hq, hr, rfl, rfl, rfl, rfl⟩
  · omega
  · omega
  · omega
  refine ⟨rfl, rfl, rfl, ?_⟩
  unfold Id.three
  rw [if_neg (by omega)]
  by_cases h : p.2 ≠ 0 ∨ q.2 ≠ 0 ∨ r.2 ≠ 0
  · left
    rw [if_pos h]
    refine ⟨?_, rfl⟩
    unfold Id.big
    rcases h with h | h | h <;> simp [h]
  · rw [if_neg h]
    have h' : p.2 = 0 ∧ q.2 = 0 ∧ r.2 = 0 := by omega
    obtain ⟨h1, h2, h3⟩ := h'
    by_cases hb : 1099511627775 < p.1 ∨ 1099511627775 < q.1 ∨ 1099511627775 < r.1
    · left
      refine ⟨?_, ?_⟩
      · unfold Id.big
        rcases hb with h | h | h <;> simp [h]
      · unfold Id.mk
        rw [if_neg]
        intro hh
        simp only [Bool.and_eq_true] at hh
        have h4 := Id.ogn_iff.1 hh.1
        have h5 := Id.okS_iff.1 hh.2
        omega
    · right
      refine ⟨?_, rfl⟩
      unfold Id.big
      rw [h1, h2, h3, decide_eq_false (p := 1099511627775 < p.1) (by omega), decide_eq_false (p := 1099511627775 < q.1) (by omega), decide_eq_false (p := 1099511627775 < r.1) (by omega)]
      rfl

theorem big_cases (o : Bool) (v : Int) (e : Nat) : (o = true ∧ (o || Id.big (v, e)) = true) ∨ (o = false ∧ ((e : Int) != 0) = true ∧ (o || Id.big (v, e)) = true) ∨ (o = false ∧ ((e : Int) != 0) = false ∧ decide ((1099511627775 : Int) < v) = true ∧ (o || Id.big (v, e)) = true) ∨ (o = false ∧ ((e : Int) != 0) = false ∧ decide ((1099511627775 : Int) < v) = false ∧ (o || Id.big (v, e)) = false) := by
  cases o with
  | true => left; exact ⟨rfl, by simp⟩
  | false =>
    right
    unfold Id.big
    by_cases h : e = 0
    · right
      subst h
      cases decide ((1099511627775 : Int) < v) with
      | true => left; exact ⟨rfl, rfl, rfl, rfl⟩
      | false => right; exact ⟨rfl, rfl, rfl, rfl⟩
    · left
      refine ⟨rfl, by simp; omega, ?_⟩
      rw [decide_eq_true h]; rfl

/-- Where the reading of the parts stands. -/
def P3 (L : List UInt8) (f k : Nat) (out : List (List UInt8)) : Prop :=
  (k ≤ L.length ∧ f ≤ k ∧ out ++ Ct.partsG 46 ((L.drop f).take (k - f)) (L.drop k) = Ct.parts 46 L) ∨ (k = L.length + 1 ∧ out = Ct.parts 46 L)

set_option maxRecDepth 100000 in
set_option maxHeartbeats 2000000 in
theorem refParse_any (s : ByteArray) (w : World) (hs : s.size ≤ 1048576) : Calls Tryd.prog 14 #[.string s] w fun e w' => ∃ v er, Id.parse s.data.toList = (v, er) ∧ e = .returned (.tuple #[.int .u64 v, .int .i64 (er : Int)]) ∧ Below w.heap.size w w' := by
  have hsz := hide (Lib.size_eq s)
  have hn0 := World.ownsRow_nil w w.heap.size 9 1
  go_enter Tryd.func14, Tryd.ntmps14
  go_wp2_with fail
  go_loopw [4, 5, 6] (fun s4 s5 s6 wr => ∃ (k f n c : Nat) (A : Option Addr) (out : List (List UInt8)), s4 = .slice A n c ∧ s5 = .int .i64 (f : Int) ∧ s6 = .int .i64 (k : Int) ∧ f ≤ k ∧ k ≤ s.size + 1 ∧ n ≤ k ∧ wr.ownsRow w.heap.size 9 1 (.slice A n c) n (sv out) ∧ Below w.heap.size w wr ∧ Hid (P3 s.data.toList f k out)) (fun _ _ s6 _ => s.size + 1 - (intOf s6).toNat)
  case atStart => exact ⟨0, 0, 0, 0, none, [], rfl, rfl, rfl, by omega, by omega, by omega, hn0, Below.refl _ _, hide (.inl ⟨by omega, by omega, rfl⟩)⟩
  case round =>
    obtain ⟨k, f, n, c, A, out, rfl, rfl, rfl, hfk, hk, hnf, hown, hb, HH⟩ := hrel
    have hB : w.heap.size ≤ wr.heap.size := hb.size
    by_cases hlt : k < s.size
    · have Hd := hide (drop_cons s k hlt)
      have eks : ((k : Int) == (s.size : Int)) = false := by simp; omega
      by_cases h46 : s[k] = 46
      · have n1 : (s[k].toNat : Int) = 46 := by rw [h46]; rfl
        have H2 : Hid (P3 s.data.toList (k + 1) (k + 1) (out ++ [(s.data.toList.drop f).take (k - f)])) := hide (by
          rcases HH.out with ⟨h1, h2, h3⟩ | ⟨h1, _⟩
          · left
            refine ⟨by rw [← hsz.out]; omega, Nat.le_refl _, ?_⟩
            rw [← h3, Hd.out, h46, Ct.partsG_yes]
            simp
          · rw [← hsz.out] at h1; omega)
        have E1 := Lib.extract_eq s f k
        clear h46
        go_wp2_with (at_builtin; refine wpList_append_rd rfl (.tmp 29) (.tmp 34) _ rfl strTy rfl (hown.alloc _) rfl (Row.new _ _ _) (by simp [Value.oneCell']) (by unfold maxLen; omega) (by omega) (by simp; omega) ?_; intro A3 c3 w3 hown3 hgrow3 hat3)
        have hb3 : Below w.heap.size w w3 := below_own (hb.alloc hB _) (hown.alloc _) hgrow3 (by simp; omega)
        rw [sv_snoc] at hown3
        go_roundw
        case rel => exact ⟨k + 1, k + 1, n + 1, c3, A3, _, rfl, by go_num, by go_num, by omega, by omega, by omega, hown3, hb3, H2⟩
        case measure => simp [intOf]; omega
      · have e46 : ((s[k].toNat : Int) == 46) = false := by
          have n1 : s[k].toNat ≠ 46 := ne_nat h46
          simp; omega
        have H2 : Hid (P3 s.data.toList f (k + 1) out) := hide (by
          rcases HH.out with ⟨h1, h2, h3⟩ | ⟨h1, _⟩
          · left
            refine ⟨by rw [← hsz.out]; omega, by omega, ?_⟩
            rw [← h3, Ct.part_snoc hfk Hd.out, Hd.out, Ct.partsG_no _ _ _ _ h46]
          · rw [← hsz.out] at h1; omega)
        clear h46
        go_wp2
        go_roundw
        case rel => exact ⟨k + 1, f, n, c, A, out, rfl, rfl, by go_num, by omega, by omega, by omega, hown, hb, H2⟩
        case measure => simp [intOf]; omega
    · by_cases hke : k = s.size
      · subst hke
        have eks : ((s.size : Int) == (s.size : Int)) = true := by simp
        have H2 : Hid (P3 s.data.toList (s.size + 1) (s.size + 1) (out ++ [(s.data.toList.drop f).take (s.size - f)])) := hide (by
          rcases HH.out with ⟨h1, h2, h3⟩ | ⟨h1, _⟩
          · right
            refine ⟨by rw [← hsz.out], ?_⟩
            have D0 : s.data.toList.drop s.size = [] := List.drop_eq_nil_of_le (by rw [← hsz.out]; exact Nat.le_refl _)
            rw [← h3, D0]
            rfl
          · rw [← hsz.out] at h1; omega)
        have E1 := Lib.extract_eq s f s.size
        go_wp2_with (at_builtin; refine wpList_append_rd rfl (.tmp 29) (.tmp 34) _ rfl strTy rfl (hown.alloc _) rfl (Row.new _ _ _) (by simp [Value.oneCell']) (by unfold maxLen; omega) (by omega) (by simp; omega) ?_; intro A3 c3 w3 hown3 hgrow3 hat3)
        have hb3 : Below w.heap.size w w3 := below_own (hb.alloc hB _) (hown.alloc _) hgrow3 (by simp; omega)
        rw [sv_snoc] at hown3
        go_roundw
        case rel => exact ⟨s.size + 1, s.size + 1, n + 1, c3, A3, _, rfl, by go_num, by go_num, by omega, by omega, by omega, hown3, hb3, H2⟩
        case measure => simp [intOf]
      · obtain rfl : k = s.size + 1 := by omega
        have HO : Hid (out = Ct.parts 46 s.data.toList) := hide (by
          rcases HH.out with ⟨h1, h2, h3⟩ | ⟨_, h2⟩
          · rw [← hsz.out] at h1; omega
          · exact h2)
        have hlen := own_strs hown
        clear HH
        by_cases h3 : n = 3
        · subst h3
          obtain ⟨a, b, c', rfl⟩ : ∃ a b c', out = [a, b, c'] := by
            match out, hlen with
            | [a, b, c'], _ => exact ⟨a, b, c', rfl⟩
          obtain ⟨s0, rfl⟩ : ∃ s0 : ByteArray, a = s0.data.toList := ⟨⟨a.toArray⟩, rfl⟩
          obtain ⟨s1, rfl⟩ : ∃ s1 : ByteArray, b = s1.data.toList := ⟨⟨b.toArray⟩, rfl⟩
          obtain ⟨s2, rfl⟩ : ∃ s2 : ByteArray, c' = s2.data.toList := ⟨⟨c'.toArray⟩, rfl⟩
          have HP := hide (Id.parse_three HO.out.symm)
          have hz : s0.size ≤ 1048576 ∧ s1.size ≤ 1048576 ∧ s2.size ≤ 1048576 := by
            have := Ct.parts_le 46 s.data.toList
            rw [← HO.out, ← hsz.out] at this
            simp only [Lib.size_eq]
            exact ⟨Nat.le_trans (this _ (by simp)) hs, Nat.le_trans (this _ (by simp)) hs, Nat.le_trans (this _ (by simp)) hs⟩
          obtain ⟨z0, z1, z2⟩ := hz
          have N0 := hide (fun w => refNumber_any s0 w z0)
          have N1 := hide (fun w => refNumber_any s1 w z1)
          have N2 := hide (fun w => refNumber_any s2 w z2)
          have G0 := hide (Id.part_cases s0)
          have G1 := hide (Id.part_cases s1)
          have G2 := hide (Id.part_cases s2)
          generalize Wd.number s0.data.toList = r0 at *
          generalize Wd.number s1.data.toList = r1 at *
          generalize Wd.number s2.data.toList = r2 at *
          obtain ⟨v0, e0⟩ := r0
          obtain ⟨v1, e1⟩ := r1
          obtain ⟨v2, e2⟩ := r2
          have hS := Strs.of_own hown
          obtain ⟨g, oo, _, rfl, hg, c0⟩ := hS.at_ (k := 0) (by omega)
          obtain ⟨_, _, _, he1, _, c1⟩ := hS.at_ (k := 1) (by omega)
          obtain ⟨_, _, _, he2, _, c2⟩ := hS.at_ (k := 2) (by omega)
          simp only [Option.some.injEq, Addr.mk.injEq, and_true] at he1 he2
          obtain ⟨rfl, rfl⟩ := he1
          obtain ⟨rfl, rfl⟩ := he2
          have c0 : wr.cell? ⟨g, oo, none⟩ = some (.string s0) := c0
          have c1 : wr.cell? ⟨g, oo + 1, none⟩ = some (.string s1) := c1
          have c2 : wr.cell? ⟨g, oo + 2, none⟩ = some (.string s2) := c2
          have hbw := hb
          have ON := Obl.make wr 53 #[.int .i64 0, .int .i64 0, .int .i64 0]
          have hbk0 : Below wr.heap.size wr (wr.alloc (.cells #[.int .i64 0, .int .i64 0, .int .i64 0] 53)) := (Below.refl _ _).alloc (Nat.le_refl _) _
          clear hS hown hb hlen HO z0 z1 z2
          go_wp2_with fail
          go_loopw [8, 43] (fun s8 s43 wk => ∃ (k : Nat) (o : Bool) (x y z : Int), s8 = .bool o ∧ s43 = .int .i64 (k : Int) ∧ k ≤ 3 ∧ Obl wk wr.heap.size 53 #[.int .i64 x, .int .i64 y, .int .i64 z] ∧ Below wr.heap.size wr wk ∧ Hid (Q3 (Id.num s0.data.toList) (Id.num s1.data.toList) (Id.num s2.data.toList) k o x y z)) (fun _ s43 _ => 3 - (intOf s43).toNat)
          case atStart => exact ⟨0, false, 0, 0, 0, rfl, rfl, by omega, ON, hbk0, hide (.inl ⟨rfl, rfl, rfl, rfl, rfl⟩)⟩
          case round =>
            clear ON hbk0
            obtain ⟨k, o, x, y, z, rfl, rfl, hk, ON, hbk, HH⟩ := hrel
            rcases (show k = 0 ∨ k = 1 ∨ k = 2 ∨ k = 3 by omega) with rfl | rfl | rfl | rfl
            · have nlt := ON.lt
              have hcell := (hbk.cell (p := ⟨g, oo, none⟩) hg).trans c0
              have fcell := ON.free 0
              go_wp2_with fail
              refine (N0.out _).mono ?_
              rintro e w1 ⟨rfl, hb1⟩
              have ON1 := ON.below hb1 nlt
              have hbk1 := hbk.trans (hb1.mono hbk.size)
              have z0 := ON1.free 0
              have q0 := ON1.cell 0
              simp at q0
              clear ON hbk hb1 nlt
              rcases G0.out with ⟨hc, hn⟩ | ⟨hpos, hc, ⟨h45, hn⟩ | ⟨h45, hn⟩⟩
              · obtain rfl : e0 = 5 := hc
                have HF := hide (Id.three_5a (p := Id.num s0.data.toList) (q := Id.num s1.data.toList) (r := Id.num s2.data.toList) (.inl hn))
                clear hn HH
                go_wp2
                go_ret2
                exact ⟨0, 5, by rw [HP.out, HF.out], rfl, hbw.trans (hbk1.mono hbw.size)⟩
              · have e5 : ((e0 : Int) == 5) = false := by simp; omega
                have HF := hide (Id.three_5a (p := Id.num s0.data.toList) (q := Id.num s1.data.toList) (r := Id.num s2.data.toList) (.inl hn))
                clear hn HH hc
                go_wp2
                go_ret2
                exact ⟨0, 5, by rw [HP.out, HF.out], rfl, hbw.trans (hbk1.mono hbw.size)⟩
              · have e5 : ((e0 : Int) == 5) = false := by simp; omega
                have HS := hide (HH.out.s0 hn hc)
                have HB := big_cases o v0 e0
                clear HH hc hn
                rcases HB with ⟨rfl, HB⟩ | ⟨rfl, g1, HB⟩ | ⟨rfl, g1, g2, HB⟩ | ⟨rfl, g1, g2, HB⟩
                all_goals
                  rw [HB] at HS
                  clear HB
                  go_wp2_with fail
                  go_roundw
                  case rel => exact ⟨1, _, v0, y, z, rfl, by go_num, by omega, ON1.put 0 _, hbk1.setCell (by simp) _, HS⟩
                  case measure => simp [intOf]
            · have nlt := ON.lt
              have hcell := (hbk.cell (p := ⟨g, oo + 1, none⟩) hg).trans c1
              have fcell := ON.free 1
              go_wp2_with fail
              refine (N1.out _).mono ?_
              rintro e w1 ⟨rfl, hb1⟩
              have ON1 := ON.below hb1 nlt
              have hbk1 := hbk.trans (hb1.mono hbk.size)
              have z0 := ON1.free 1
              have q0 := ON1.cell 1
              simp at q0
              clear ON hbk hb1 nlt
              rcases G1.out with ⟨hc, hn⟩ | ⟨hpos, hc, ⟨h45, hn⟩ | ⟨h45, hn⟩⟩
              · obtain rfl : e1 = 5 := hc
                have HF := hide (Id.three_5a (p := Id.num s0.data.toList) (q := Id.num s1.data.toList) (r := Id.num s2.data.toList) (.inr (.inl hn)))
                clear hn HH
                go_wp2
                go_ret2
                exact ⟨0, 5, by rw [HP.out, HF.out], rfl, hbw.trans (hbk1.mono hbw.size)⟩
              · have e5 : ((e1 : Int) == 5) = false := by simp; omega
                have HF := hide (Id.three_5a (p := Id.num s0.data.toList) (q := Id.num s1.data.toList) (r := Id.num s2.data.toList) (.inr (.inl hn)))
                clear hn HH hc
                go_wp2
                go_ret2
                exact ⟨0, 5, by rw [HP.out, HF.out], rfl, hbw.trans (hbk1.mono hbw.size)⟩
              · have e5 : ((e1 : Int) == 5) = false := by simp; omega
                have HS := hide (HH.out.s1 hn hc)
                have HB := big_cases o v1 e1
                clear HH hc hn
                rcases HB with ⟨rfl, HB⟩ | ⟨rfl, g1, HB⟩ | ⟨rfl, g1, g2, HB⟩ | ⟨rfl, g1, g2, HB⟩
                all_goals
                  rw [HB] at HS
                  clear HB
                  go_wp2_with fail
                  go_roundw
                  case rel => exact ⟨2, _, x, v1, z, rfl, by go_num, by omega, ON1.put 1 _, hbk1.setCell (by simp) _, HS⟩
                  case measure => simp [intOf]
            · have nlt := ON.lt
              have hcell := (hbk.cell (p := ⟨g, oo + 2, none⟩) hg).trans c2
              have fcell := ON.free 2
              go_wp2_with fail
              refine (N2.out _).mono ?_
              rintro e w1 ⟨rfl, hb1⟩
              have ON1 := ON.below hb1 nlt
              have hbk1 := hbk.trans (hb1.mono hbk.size)
              have z0 := ON1.free 2
              have q0 := ON1.cell 2
              simp at q0
              clear ON hbk hb1 nlt
              rcases G2.out with ⟨hc, hn⟩ | ⟨hpos, hc, ⟨h45, hn⟩ | ⟨h45, hn⟩⟩
              · obtain rfl : e2 = 5 := hc
                have HF := hide (Id.three_5a (p := Id.num s0.data.toList) (q := Id.num s1.data.toList) (r := Id.num s2.data.toList) (.inr (.inr hn)))
                clear hn HH
                go_wp2
                go_ret2
                exact ⟨0, 5, by rw [HP.out, HF.out], rfl, hbw.trans (hbk1.mono hbw.size)⟩
              · have e5 : ((e2 : Int) == 5) = false := by simp; omega
                have HF := hide (Id.three_5a (p := Id.num s0.data.toList) (q := Id.num s1.data.toList) (r := Id.num s2.data.toList) (.inr (.inr hn)))
                clear hn HH hc
                go_wp2
                go_ret2
                exact ⟨0, 5, by rw [HP.out, HF.out], rfl, hbw.trans (hbk1.mono hbw.size)⟩
              · have e5 : ((e2 : Int) == 5) = false := by simp; omega
                have HS := hide (HH.out.s2 hn hc)
                have HB := big_cases o v2 e2
                clear HH hc hn
                rcases HB with ⟨rfl, HB⟩ | ⟨rfl, g1, HB⟩ | ⟨rfl, g1, g2, HB⟩ | ⟨rfl, g1, g2, HB⟩
                all_goals
                  rw [HB] at HS
                  clear HB
                  go_wp2_with fail
                  go_roundw
                  case rel => exact ⟨3, _, x, y, v2, rfl, by go_num, by omega, ON1.put 2 _, hbk1.setCell (by simp) _, HS⟩
                  case measure => simp [intOf]
            · have hd := HH.out.done
              have q0 := ON.cell 0
              have q1 := ON.cell 1
              have q2 := ON.cell 2
              simp at q0 q1 q2
              obtain ⟨hx, hy, hzz, hd⟩ := hd
              rcases hd with ⟨rfl, h3⟩ | ⟨rfl, h3⟩
              · have H3 := hide h3
                clear h3 hx hy hzz HH
                go_wp2
                go_ret2
                exact ⟨0, 2, by rw [HP.out, H3.out], rfl, hbw.trans (hbk.mono hbw.size)⟩
              · have H3 := hide h3
                rw [← hx, ← hy, ← hzz] at H3
                clear h3 hx hy hzz HH
                have HM := hide (refMake_any x y z)
                generalize Id.mk x y z = m at *
                obtain ⟨v, er⟩ := m
                go_wp2_with fail
                refine (HM.out _).mono ?_
                rintro e w4 ⟨rfl, rfl⟩
                go_wp2
                go_ret2
                exact ⟨v, er, by rw [HP.out, H3.out], rfl, hbw.trans (hbk.mono hbw.size)⟩
        · have e3 : ((n : Int) != 3) = true := by simp; omega
          have HP := hide (Id.parse_not (l := s.data.toList) (by rw [← HO.out, hlen]; exact h3))
          clear hlen h3
          go_wp2
          go_ret2
          exact ⟨0, 5, HP.out, rfl, hb⟩
end Go.Proofs.YtgdhlghklnlahaaDoor
