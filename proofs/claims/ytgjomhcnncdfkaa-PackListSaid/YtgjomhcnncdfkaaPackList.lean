/- PackList: numbers which are put one after the other are got in the same order, and fewer bytes are needed for numbers near 0. No condition. -/
import Derived.Test.YtgjomhcnncdfkaaPackBack
namespace Go.Proofs.Ytgjomhcnncdfkaa
open Go.RowKit

namespace Pk
def encL : List Int → List UInt8
  | [] => []
  | x :: r => enc (zig x) ++ encL r
theorem encL_append : ∀ a b : List Int, encL (a ++ b) = encL a ++ encL b
  | [], _ => rfl
  | x :: a, b => by simp only [List.cons_append, encL, List.append_assoc, encL_append a b]
theorem encL_take {l : List Int} {k : Nat} (h : k < l.length) : encL (l.take (k + 1)) = encL (l.take k) ++ enc (zig l[k]) := by
  rw [List.take_succ_eq_append_getElem h, encL_append]
  simp only [encL, List.append_nil]
theorem encL_split {l : List Int} {k : Nat} (h : k < l.length) : encL l = encL (l.take k) ++ (enc (zig l[k]) ++ encL (l.drop (k + 1))) := by
  conv => lhs; rw [← List.take_append_drop k l, encL_append, List.drop_eq_getElem_cons h]
  rfl
theorem getInt_end (l : List UInt8) : getInt l l.length = (0, 0, 4) := by
  unfold getInt
  rw [if_neg (by omega)]
  simp [dec, res]
theorem tdiv2 (x : Int) (h1 : -9223372036854775808 ≤ x) (h2 : x ≤ 9223372036854775807) : -9223372036854775808 ≤ x.tdiv 2 ∧ x.tdiv 2 ≤ 9223372036854775807 := by
  rcases (show 0 ≤ x ∨ x < 0 by omega) with h | h
  · rw [Int.tdiv_eq_ediv_of_nonneg h]; omega
  · obtain ⟨m, rfl⟩ : ∃ m, x = -m := ⟨-x, by omega⟩
    rw [Int.neg_tdiv, Int.tdiv_eq_ediv_of_nonneg (by omega)]; omega
theorem enc_one_zig (x : Int) : (enc (zig x)).length = 1 ↔ -64 ≤ x ∧ x < 64 := by
  rw [enc_one]
  unfold zig
  split <;> omega
end Pk

/-- The slice of address A and n int64 reads as l. -/
def Ints (w : World) (B : Nat) (A : Option Addr) (n : Nat) (l : List Int) : Prop := l.length = n ∧ (∀ x ∈ l, (Lit.int .i64 x).wf = true) ∧ Row w B 1 A n (l.map (Value.int .i64))
theorem Ints.len {w : World} {B n : Nat} {A : Option Addr} {l : List Int} (h : Ints w B A n l) : l.length = n := h.1
theorem Ints.below {w w' : World} {B n : Nat} {A : Option Addr} {l : List Int} (h : Ints w B A n l) (hb : Below B w w') : Ints w' B A n l := ⟨h.1, h.2.1, h.2.2.below hb⟩
theorem Ints.at_ {w : World} {B n : Nat} {A : Option Addr} {l : List Int} (h : Ints w B A n l) {k : Nat} (hk : k < n) :
    ∃ b o, ∃ hl : k < l.length, A = some ⟨b, o, none⟩ ∧ b < B ∧ w.cell? ⟨b, o + k, none⟩ = some (.int .i64 l[k]) ∧ -9223372036854775808 ≤ l[k] ∧ l[k] ≤ 9223372036854775807 := by
  have hl : k < l.length := by rw [h.1]; exact hk
  obtain ⟨b, o, e, hb, hc⟩ := h.2.2.rd.at_ (k := k) (u := .int .i64 l[k]) (by simp [hl])
  exact ⟨b, o, hl, e, hb, hc, wf_i64 (h.2.1 _ (List.getElem_mem hl))⟩
theorem Ints.of_row {w : World} {a : Option Addr} {len cap : Nat} {zs : List Int} (h : IsRow .i64 w a len cap zs) : ∃ l, Ints w w.heap.size a len l := by
  obtain ⟨l, h1, h2, h3⟩ := h.ints
  exact ⟨l, h1, h2, h3⟩

set_option maxRecDepth 100000 in
set_option maxHeartbeats 1600000 in
theorem packList_any (A : Option Addr) (n c : Nat) (l : List Int) (w : World) (hr : Ints w w.heap.size A n l) (hn : n ≤ 9223372036854775807) :
    Calls Try.prog 7 #[.slice A n c] w fun e w' => e = .returned (.bool true) ∧ Below w.heap.size w w' := by
  rcases (show 60 < n ∨ n ≤ 60 by omega) with h | h
  · have hd1 : decide ((60 : Int) < (n : Int)) = true := by simp; omega
    go_enter Try.func7, Try.ntmps7
    go_wp2_with fail
    refine (sane_any _).mono ?_
    rintro e w1 ⟨rfl, hb1⟩
    go_wp2_with fail
    go_ret
    exact ⟨rfl, hb1⟩
  have hd1 : decide ((60 : Int) < (n : Int)) = false := by simp; omega
  go_enter Try.func7, Try.ntmps7
  go_wp2_with fail
  refine (sane_any _).mono ?_
  rintro e w1 ⟨rfl, hb1⟩
  have hr1 := hr.below hb1
  go_wp2_with fail
  go_loopw [3, 22] (fun s3 s22 wr => ∃ k A' m c', s22 = .int .i64 ((k : Nat) : Int) ∧ s3 = .slice A' m c' ∧ k ≤ n ∧ m ≤ 10 * k ∧ Bytes wr wr.heap.size A' m (Pk.encL (l.take k)) ∧ Below w1.heap.size w1 wr) (fun _ s22 _ => n - (intOf s22).toNat)
  case atStart => exact ⟨0, none, 0, 0, rfl, rfl, by omega, by omega, Bytes.nil, Below.refl _ _⟩
  case round =>
    obtain ⟨k, A', m, c', rfl, rfl, hk, hm, hby, hbel⟩ := hrel
    by_cases hkn : k < n
    · obtain ⟨b, o, hkl, hA, hb, hc, hx1, hx2⟩ := (hr1.below (hbel.mono hb1.size)).at_ hkn
      subst hA
      have Het := hide (Pk.encL_take hkl)
      have hlen := Pk.enc_len10 (Pk.zig_lt hx1 hx2)
      generalize l[k] = x at *
      go_wp2_with (go_at_call 9; refine (putInt_any A' m c' _ x _ hx1 hx2 hby (by omega)).mono ?_; rintro e w2 ⟨A2, n2, c2, rfl, rfl, hown2, hb2⟩)
      go_roundw
      case rel => exact ⟨k + 1, A2, _, c2, by go_num, rfl, by omega, by omega, by rw [Het.out]; exact Bytes.of_own hown2, Later.trans hbel hb2⟩
      case measure => simp [intOf]; omega
    · have hB : Bytes wr wr.heap.size A' m (Pk.encL l) := by rwa [List.take_of_length_le (by rw [hr1.len]; omega)] at hby
      have hm' : m ≤ 600 := by omega
      have hb1' : Below w.heap.size w wr := hb1.trans (hbel.mono hb1.size)
      have hrr := hr.below hb1'
      clear hby hbel hr1 hm hr hb1
      obtain ⟨v, rfl⟩ : ∃ v, v = wr := ⟨_, rfl⟩
      go_wp2_with fail
      go_loopw [6, 32] (fun s6 s32 wr => ∃ k : Nat, s32 = .int .i64 ((k : Nat) : Int) ∧ s6 = .int .i64 (((Pk.encL (l.take k)).length : Nat) : Int) ∧ k ≤ n ∧ Below v.heap.size v wr) (fun _ s32 _ => n - (intOf s32).toNat)
      case atStart => exact ⟨0, rfl, rfl, by omega, Below.refl _ _⟩
      case round =>
        obtain ⟨k, rfl, rfl, hk, hbel⟩ := hrel
        by_cases hkn : k < n
        · obtain ⟨b, o, hkl, hA, hb, hc, hx1, hx2⟩ := (hrr.below (hbel.mono hb1'.size)).at_ hkn
          subst hA
          have Het := hide (Pk.encL_take hkl)
          have hz := Pk.zig_lt hx1 hx2
          have hlen := Pk.enc_len10 hz
          have hG : Pk.getInt (Pk.encL l) ((Pk.encL (l.take k)).length : Nat) = (l[k], ((Pk.encL (l.take k)).length : Int) + ((Pk.enc (Pk.zig l[k])).length : Int), 0) := by
            rw [Pk.encL_split hkl]; exact Pk.getInt_put _ _ _ hx1 hx2
          have hle : (Pk.encL (l.take k)).length ≤ m := by
            rw [← hB.len, Pk.encL_split hkl]; simp
          have Hhalf := hide (Pk.enc_mono _ _ (Pk.zig_half l[k]))
          have Hone := hide (Pk.enc_one_zig l[k])
          have hpos := Pk.enc_pos (Pk.zig l[k])
          generalize hx : l[k] = x at *
          obtain ⟨u, hu⟩ : ∃ u, u = (Pk.enc (Pk.zig x)).length := ⟨_, rfl⟩
          obtain ⟨a, ha⟩ : ∃ a, a = (Pk.encL (l.take k)).length := ⟨_, rfl⟩
          rw [← hu] at hlen hpos hG Hhalf Hone
          rw [← ha] at hle hG ⊢
          have Hu := hide hu
          have Ha := hide ha
          have HG := hide hG
          clear hu ha hG hx
          have hdl : decide ((a : Int) + (u : Int) - (a : Int) < 1) = false := by simp; omega
          have hcase : (((a : Int) + (u : Int) - (a : Int) == 1) = true ∧ decide (-64 ≤ x) = true ∧ decide (x < 64) = true) ∨ (((a : Int) + (u : Int) - (a : Int) == 1) = false ∧ decide (-64 ≤ x) = false) ∨
              (((a : Int) + (u : Int) - (a : Int) == 1) = false ∧ decide (-64 ≤ x) = true ∧ decide (x < 64) = false) := by
            have := Hone.out
            rcases (show (-64 ≤ x ∧ x < 64) ∨ x < -64 ∨ 64 ≤ x by omega) with h | h | h
            · exact .inl ⟨by have := this.2 h; simp; omega, by simp; omega, by simp; omega⟩
            · exact .inr (.inl ⟨by have : u ≠ 1 := fun hu => by have := this.1 hu; omega
                                   simp; omega, by simp; omega⟩)
            · exact .inr (.inr ⟨by have : u ≠ 1 := fun hu => by have := this.1 hu; omega
                                   simp; omega, by simp; omega, by simp; omega⟩)
          have hx3 : -9223372036854775808 ≤ x.tdiv 2 ∧ x.tdiv 2 ≤ 9223372036854775807 := Pk.tdiv2 x hx1 hx2
          rcases hcase with ⟨ht1, ht2, ht3⟩ | ⟨ht1, ht2⟩ | ⟨ht1, ht2, ht3⟩
          all_goals
            go_wp2_with fail
            refine (getInt_is HG.out ((hB.below hbel).mono hbel.size) (by omega) (by omega) (by omega)).mono ?_
            rintro e w' ⟨rfl, rfl⟩
            go_wp2_with fail
            refine (putInt_any none 0 0 [] (x.tdiv 2) _ hx3.1 hx3.2 Bytes.nil (by omega)).mono ?_
            rintro e w2 ⟨A2, n2, c2, rfl, hn2, hown2, hb2⟩
            have hn2' : n2 ≤ u := by have := Hhalf.out; omega
            have hnd : decide ((a : Int) + (u : Int) - (a : Int) < (n2 : Int)) = false := by simp; omega
            clear hn2
            go_wp2_with fail
            go_roundw
            case rel => exact ⟨k + 1, by go_num, by rw [Het.out, List.length_append, ← Ha.out, ← Hu.out]; go_num, by omega, Later.trans hbel hb2⟩
            case measure => simp [intOf]; omega
        · rw [List.take_of_length_le (by rw [hrr.len]; omega), hB.len]
          have HG : Hid (Pk.getInt (Pk.encL l) (m : Int) = (0, 0, 4)) := hide (by rw [← hB.len]; exact Pk.getInt_end _)
          go_wp2_with fail
          refine (getInt_is HG.out ((hB.below hbel).mono hbel.size) (by omega) (by omega) (by omega)).mono ?_
          rintro e w' ⟨rfl, rfl⟩
          go_wp2_with fail
          go_ret
          exact ⟨rfl, hb1'.trans (Below.mono hbel hb1'.size)⟩
end Go.Proofs.Ytgjomhcnncdfkaa
