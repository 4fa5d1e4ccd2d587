/- Layer 1, bytes that are got: contracts of pack.GetBytes and of the document's own answer. -/
import Derived.Test.YtgjomhcnncdfkaaPackGet
import Derived.Test.YtgjomhcnncdfkaaRegion
namespace Go.Proofs.Ytgjomhcnncdfkaa
open Go.RowKit

namespace Pk
/-- What is known of GetInt's results. -/
theorem getInt_range (l : List UInt8) (p : Int) : (getInt l p).2.2 = 0 ∧ 0 ≤ p ∧ p < (getInt l p).2.1 ∧ (getInt l p).2.1 ≤ l.length ∨ ((getInt l p).2.2 ≠ 0 ∧ (getInt l p).1 = 0 ∧ (getInt l p).2.1 = 0) := by
  unfold getInt
  split
  · right; simp
  · rename_i h
    cases hd : dec 0 0 (l.drop p.toNat) with
    | inl e =>
      right
      have he : e = 4 ∨ e = 5 := by
        have gen : ∀ (l : List UInt8) (k acc : Nat), dec k acc l = .inl e → e = 4 ∨ e = 5 := by
          intro l
          induction l with
          | nil => intro k acc h; simp only [dec, Sum.inl.injEq] at h; omega
          | cons c r ih =>
            intro k acc h
            rw [dec_cons] at h
            split at h
            · simp only [Sum.inl.injEq] at h; omega
            · split at h
              · exact ih _ _ h
              · split at h
                · simp only [Sum.inl.injEq] at h; omega
                · cases h
        exact gen _ _ _ hd
      simp only [res]
      exact ⟨by omega, trivial, trivial⟩
    | inr r =>
      obtain ⟨n, t⟩ := r
      left
      obtain ⟨u, h1, h2, h3, h4, -⟩ := enc_dec _ _ _ _ _ hd (by simp)
      have := enc_pos u
      have h5 := h3
      rw [List.length_drop] at h5
      simp only [res]
      exact ⟨trivial, by omega, by omega, by omega⟩

/-- The three results of GetBytes, out of those of GetInt. -/
def getB (l : List UInt8) (m to e : Int) : List UInt8 × Int × Int :=
  if e ≠ 0 then ([], 0, e)
  else if m < 0 then ([], 0, 5)
  else if (l.length : Int) - to < m then ([], 0, 4)
  else ((l.drop to.toNat).take m.toNat, to + m, 0)
def getBytes (l : List UInt8) (p : Int) : List UInt8 × Int × Int := getB l (getInt l p).1 (getInt l p).2.1 (getInt l p).2.2
end Pk

/-- How the three results of GetBytes come back. -/
def GotBytes (w : World) (r : List UInt8 × Int × Int) (e : Ending) (w' : World) : Prop :=
  ∃ A n c, e = .returned (.tuple #[.slice A n c, .int .i64 r.2.1, .int .i64 r.2.2]) ∧ n = r.1.length ∧ n ≤ c ∧ Bytes w' w'.heap.size A n r.1 ∧ Later w w'

theorem getBytes_any (A : Option Addr) (n c : Nat) (l : List UInt8) (p : Int) (w : World) (hr : Bytes w w.heap.size A n l) (hc : n ≤ c) (_hcm : c ≤ 9223372036854775807) (hn : n ≤ 1048576) (h1 : -9223372036854775808 ≤ p) (h2 : p ≤ 9223372036854775807) :
    Calls Try.prog 17 #[.slice A n c, .int .i64 p] w (GotBytes w (Pk.getBytes l p)) := by
  have hrange := Pk.getInt_range l p
  have hgi := getInt_any A n c l p w w.heap.size hr hn h1 h2
  unfold Pk.getBytes
  generalize Pk.getInt l p = g at *
  obtain ⟨m, to, er⟩ := g
  have Hgi := hide hgi
  clear hgi
  simp only at hrange ⊢
  rcases hrange with ⟨rfl, hp0, hp1, hp2⟩ | ⟨he, rfl, rfl⟩
  · have hlen := hr.len
    rcases (show m < 0 ∨ (0 ≤ m ∧ (n : Int) - to < m) ∨ (0 ≤ m ∧ m ≤ (n : Int) - to) by omega) with hm | ⟨hm, hm'⟩ | ⟨hm, hm'⟩
    · have hb : Pk.getB l m to 0 = ([], 0, 5) := by unfold Pk.getB; rw [if_neg (by simp), if_pos hm]
      rw [hb]
      clear hb hlen
      have hmd : decide (m < 0) = true := by simp; omega
      go_enter Try.func17, Try.ntmps17
      go_wp2_with fail
      refine Hgi.out.mono ?_
      rintro e w' ⟨rfl, rfl⟩
      go_wp2_with fail
      go_ret3
      exact ⟨none, 0, 0, rfl, rfl, by omega, Bytes.nil, Later.refl _⟩
    · have hb : Pk.getB l m to 0 = ([], 0, 4) := by unfold Pk.getB; rw [if_neg (by simp), if_neg (by omega), if_pos (by omega)]
      rw [hb]
      have hto : to ≤ n := by omega
      clear hb hlen hp2
      have hmd : decide (m < 0) = false := by simp; omega
      go_enter Try.func17, Try.ntmps17
      go_wp2_with fail
      refine Hgi.out.mono ?_
      rintro e w' ⟨rfl, rfl⟩
      go_wp2_with fail
      go_ret3
      exact ⟨none, 0, 0, rfl, rfl, by omega, Bytes.nil, Later.refl _⟩
    · obtain ⟨t, rfl⟩ := Int.eq_ofNat_of_zero_le (show 0 ≤ to by omega)
      obtain ⟨k, rfl⟩ := Int.eq_ofNat_of_zero_le hm
      have hb : Pk.getB l k t 0 = ((l.drop t).take k, (t : Int) + (k : Int), 0) := by unfold Pk.getB; rw [if_neg (by simp), if_neg (by omega), if_neg (by omega)]; rfl
      rw [hb]
      have hto : t + k ≤ n := by omega
      clear hb hlen hp2 hm hm'
      have hmd : decide ((k : Int) < 0) = false := by simp
      obtain ⟨b, o, _, hA, hbB, _⟩ := hr.at_ (k := 0) (by omega)
      subst hA
      have hcut : Row w w.heap.size 1 (some ⟨b, o + t, none⟩) k (bv ((l.drop t).take k)) := by
        refine ⟨by rw [bv_length, List.length_take, List.length_drop, hr.len]; omega, by simp, ?_⟩
        have := (hr.row.rd.drop_ t).take_ k
        simpa only [bv, List.map_take, List.map_drop] using this
      have hown0 : (w.alloc (.cells #[] 5)).ownsRow w.heap.size 5 1 (.slice (some ⟨w.heap.size, 0, none⟩) 0 0) 0 (bv []) := World.ownsRow_made w #[] 0 (Nat.le_refl _) (by unfold maxLen; omega) rfl
      by_cases hct : c = t
      · subst hct
        obtain rfl : k = 0 := by omega
        go_enter Try.func17, Try.ntmps17
        go_wp2_with fail
        refine Hgi.out.mono ?_
        rintro e w' ⟨rfl, rfl⟩
        go_wp2_with (at_builtin; refine wpList_append_rd rfl (.tmp 32) (.tmp 36) _ rfl byteTy rfl hown0 rfl (Row.nil (w := w.alloc _) (B := 0) (size := 1) (A := some ⟨b, o, none⟩)) (by simp) (by unfold maxLen; omega) (by omega) (by simp) ?_; intro A2 c2 w2 hown2 hgrow2 hat2)
        go_ret3
        have hb2 : Below w.heap.size w w2 := below_own ((Below.refl _ _).alloc (Nat.le_refl _) _) hown0 hgrow2 (by simp)
        simp only [Nat.zero_add, List.append_nil] at hown2
        exact ⟨A2, _, c2, rfl, rfl, own_cap hown2, (Bytes.of_own hown2), hb2⟩
      · have hct' : ¬ t = c := fun h => hct h.symm
        have hcut' : Row w w.heap.size 1 (some ⟨b, o + t, none⟩) (t + k - t) (bv ((l.drop t).take k)) := by rw [Nat.add_sub_cancel_left]; exact hcut
        go_enter Try.func17, Try.ntmps17
        go_wp2_with fail
        refine Hgi.out.mono ?_
        rintro e w' ⟨rfl, rfl⟩
        go_wp2_with (at_builtin; refine wpList_append_rd rfl (.tmp 32) (.tmp 36) _ rfl byteTy rfl hown0 rfl (hcut'.alloc (Nat.le_refl _) _) (bv_one _) (by unfold maxLen; omega) (by omega) (by simp) ?_; intro A2 c2 w2 hown2 hgrow2 hat2)
        go_ret3
        have hb2 : Below w.heap.size w w2 := below_own ((Below.refl _ _).alloc (Nat.le_refl _) _) hown0 hgrow2 (by simp)
        simp only [Nat.add_sub_cancel_left, Nat.zero_add, bv_nil_append] at hown2
        exact ⟨A2, _, c2, rfl, by rw [List.length_take, List.length_drop, hr.len]; omega, own_cap hown2, (Bytes.of_own hown2), hb2⟩
  · have hne : (er != 0) = true := by rw [bne_iff_ne]; exact he
    have hb : Pk.getB l 0 0 er = ([], 0, er) := by unfold Pk.getB; rw [if_pos he]
    rw [hb]
    clear he hb
    go_enter Try.func17, Try.ntmps17
    go_wp2_with fail
    refine Hgi.out.mono ?_
    rintro e w' ⟨rfl, rfl⟩
    go_wp2_with fail
    go_ret3
    exact ⟨none, 0, 0, rfl, rfl, by omega, Bytes.nil, Later.refl _⟩

theorem refGetBytes_any (A : Option Addr) (n c : Nat) (l : List UInt8) (p : Int) (w : World) (hr : Bytes w w.heap.size A n l) (hc : n ≤ c) (_hcm : c ≤ 9223372036854775807) (hn : n ≤ 1048576) (h1 : -9223372036854775808 ≤ p) (h2 : p ≤ 9223372036854775807) :
    Calls Try.prog 18 #[.slice A n c, .int .i64 p] w (GotBytes w (Pk.getBytes l p)) := by
  have hrange := Pk.getInt_range l p
  have hgi := refGetInt_any A n c l p w w.heap.size hr hn h1 h2
  unfold Pk.getBytes
  generalize Pk.getInt l p = g at *
  obtain ⟨m, to, er⟩ := g
  have Hgi := hide hgi
  clear hgi
  simp only at hrange ⊢
  rcases hrange with ⟨rfl, hp0, hp1, hp2⟩ | ⟨he, rfl, rfl⟩
  · have hlen := hr.len
    rcases (show m < 0 ∨ (0 ≤ m ∧ (n : Int) - to < m) ∨ (0 ≤ m ∧ m ≤ (n : Int) - to) by omega) with hm | ⟨hm, hm'⟩ | ⟨hm, hm'⟩
    · have hb : Pk.getB l m to 0 = ([], 0, 5) := by unfold Pk.getB; rw [if_neg (by simp), if_pos hm]
      rw [hb]
      clear hb hlen
      have hmd : decide (m < 0) = true := by simp; omega
      go_enter Try.func18, Try.ntmps18
      go_wp2_with fail
      refine Hgi.out.mono ?_
      rintro e w' ⟨rfl, rfl⟩
      go_wp2_with fail
      go_ret3
      exact ⟨none, 0, 0, rfl, rfl, by omega, Bytes.nil, Later.refl _⟩
    · have hb : Pk.getB l m to 0 = ([], 0, 4) := by unfold Pk.getB; rw [if_neg (by simp), if_neg (by omega), if_pos (by omega)]
      rw [hb]
      have hto : to ≤ n := by omega
      clear hb hlen hp2
      have hmd : decide (m < 0) = false := by simp; omega
      go_enter Try.func18, Try.ntmps18
      go_wp2_with fail
      refine Hgi.out.mono ?_
      rintro e w' ⟨rfl, rfl⟩
      go_wp2_with fail
      go_ret3
      exact ⟨none, 0, 0, rfl, rfl, by omega, Bytes.nil, Later.refl _⟩
    · obtain ⟨t, rfl⟩ := Int.eq_ofNat_of_zero_le (show 0 ≤ to by omega)
      obtain ⟨k, rfl⟩ := Int.eq_ofNat_of_zero_le hm
      have hb : Pk.getB l k t 0 = ((l.drop t).take k, (t : Int) + (k : Int), 0) := by unfold Pk.getB; rw [if_neg (by simp), if_neg (by omega), if_neg (by omega)]; rfl
      rw [hb]
      have hto : t + k ≤ n := by omega
      clear hb hlen hp2 hm hm'
      have hmd : decide ((k : Int) < 0) = false := by simp
      obtain ⟨b, o, _, hA, hbB, _⟩ := hr.at_ (k := 0) (by omega)
      subst hA
      have hcut : Row w w.heap.size 1 (some ⟨b, o + t, none⟩) k (bv ((l.drop t).take k)) := by
        refine ⟨by rw [bv_length, List.length_take, List.length_drop, hr.len]; omega, by simp, ?_⟩
        have := (hr.row.rd.drop_ t).take_ k
        simpa only [bv, List.map_take, List.map_drop] using this
      have hown0 : w.ownsRow w.heap.size 5 1 (.slice none 0 0) 0 (bv []) := World.ownsRow_nil _ _ _ _
      by_cases hct : c = t
      · subst hct
        obtain rfl : k = 0 := by omega
        go_enter Try.func18, Try.ntmps18
        go_wp2_with fail
        refine Hgi.out.mono ?_
        rintro e w' ⟨rfl, rfl⟩
        go_wp2_with (at_builtin; refine wpList_append_rd rfl (.const (.slice none 0 0)) (.tmp 36) _ rfl byteTy rfl hown0 rfl (Row.nil (w := w) (B := 0) (size := 1) (A := some ⟨b, o, none⟩)) (by simp) (by unfold maxLen; omega) (by omega) (Nat.le_refl _) ?_; intro A2 c2 w2 hown2 hgrow2 hat2)
        go_ret3
        have hb2 : Below w.heap.size w w2 := below_own (Below.refl _ _) hown0 hgrow2 (Nat.le_refl _)
        simp only [Nat.zero_add, List.append_nil] at hown2
        exact ⟨A2, _, c2, rfl, rfl, own_cap hown2, (Bytes.of_own hown2), hb2⟩
      · have hct' : ¬ t = c := fun h => hct h.symm
        have hcut' : Row w w.heap.size 1 (some ⟨b, o + t, none⟩) (t + k - t) (bv ((l.drop t).take k)) := by rw [Nat.add_sub_cancel_left]; exact hcut
        go_enter Try.func18, Try.ntmps18
        go_wp2_with fail
        refine Hgi.out.mono ?_
        rintro e w' ⟨rfl, rfl⟩
        go_wp2_with (at_builtin; refine wpList_append_rd rfl (.const (.slice none 0 0)) (.tmp 36) _ rfl byteTy rfl hown0 rfl hcut' (bv_one _) (by unfold maxLen; omega) (by omega) (Nat.le_refl _) ?_; intro A2 c2 w2 hown2 hgrow2 hat2)
        go_ret3
        have hb2 : Below w.heap.size w w2 := below_own (Below.refl _ _) hown0 hgrow2 (Nat.le_refl _)
        simp only [Nat.add_sub_cancel_left, Nat.zero_add, bv_nil_append] at hown2
        exact ⟨A2, _, c2, rfl, by rw [List.length_take, List.length_drop, hr.len]; omega, own_cap hown2, (Bytes.of_own hown2), hb2⟩
  · have hne : (er != 0) = true := by rw [bne_iff_ne]; exact he
    have hb : Pk.getB l 0 0 er = ([], 0, er) := by unfold Pk.getB; rw [if_pos he]
    rw [hb]
    clear he hb
    go_enter Try.func18, Try.ntmps18
    go_wp2_with fail
    refine Hgi.out.mono ?_
    rintro e w' ⟨rfl, rfl⟩
    go_wp2_with fail
    go_ret3
    exact ⟨none, 0, 0, rfl, rfl, by omega, Bytes.nil, Later.refl _⟩
end Go.Proofs.Ytgjomhcnncdfkaa
