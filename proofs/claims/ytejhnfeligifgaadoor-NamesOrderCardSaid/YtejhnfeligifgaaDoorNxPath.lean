/- Layer 9: a path is its parts between slashes. Plain mathematics. | Layer 9: package names' letters and parts: contracts. | Layer 9: package names' Path: a contract. -/
import Derived.Test.YtejhnfeligifgaaDoorNxMath
import Derived.Lib.SplitLaws
import Derived.Test.YtejhnfeligifgaaDoorNmEntry
import Derived.Deep.QuietTactic
import Derived.Test.YtejhnfeligifgaaDoorShelf
namespace Go.Proofs.YtejhnfeligifgaaDoor
open Go.RowKit

namespace Nx
/-- A letter of a path. -/
def Letter (c : Nat) : Prop := (97 ≤ c ∧ c ≤ 122) ∨ (48 ≤ c ∧ c ≤ 57) ∨ c = 45 ∨ c = 95
instance (c : Nat) : Decidable (Letter c) := by unfold Letter; infer_instance
/-- What may stand behind a slash. -/
def Part (p : List UInt8) : Prop := p ≠ [] ∧ ∀ c ∈ p, Letter c.toNat
instance (p : List UInt8) : Decidable (Part p) := by unfold Part; infer_instance
theorem split_slash (t : List UInt8) : Lib.split (47 :: t) [47] = [] :: Lib.split t [47] := by
  unfold Lib.split
  rw [Lib.count_cons_eq, Nat.add_comm]
  have hix : Lib.index ((47 : UInt8) :: t) [47] = ((0 : Nat) : Int) := by rw [Lib.index]; simp [List.isPrefixOf]
  rw [Lib.splitK, hix]
  rw [if_neg (by decide)]
  simp
theorem split_other (c : UInt8) (t : List UInt8) (h : c ≠ 47) : ∃ p r, Lib.split t [47] = p :: r ∧ Lib.split (c :: t) [47] = (c :: p) :: r := by
  unfold Lib.split
  rw [Lib.count_cons_ne c 47 t h]
  have hp : ([47] : List UInt8).isPrefixOf (c :: t) = false := by simp [List.isPrefixOf, Ne.symm h]
  have hix : Lib.index (c :: t) [47] = if Lib.index t [47] == -1 then -1 else Lib.index t [47] + 1 := by rw [Lib.index, hp]; simp
  cases Lib.count t [47] with
  | zero => exact ⟨t, [], rfl, rfl⟩
  | succ k =>
    by_cases hm : Lib.index t [47] = -1
    · refine ⟨t, [], ?_, ?_⟩
      · rw [Lib.splitK, if_pos (by simpa using hm)]
      · rw [Lib.splitK, hix, if_pos (by rw [hm]; rfl)]
    · have hge := Lib.index_ge t [47]
      obtain ⟨j, hj⟩ : ∃ j : Nat, Lib.index t [47] = j := ⟨(Lib.index t [47]).toNat, by omega⟩
      have hix' : Lib.index (c :: t) [47] = ((j + 1 : Nat) : Int) := by rw [hix, if_neg (fun e => hm (beq_iff_eq.1 e)), hj]; omega
      refine ⟨t.take j, Lib.splitK [47] 0 k (t.drop (j + 1)), ?_, ?_⟩
      · rw [Lib.splitK, hj, if_neg (fun e => by have := beq_iff_eq.1 e; omega)]
        simp
      · rw [Lib.splitK, hix', if_neg (fun e => by have := beq_iff_eq.1 e; omega)]
        simp
/-- Each byte may follow the one before it, from p on; and the last is no slash. -/
def Chain (p : Nat) : List UInt8 → Prop
  | [] => p ≠ 47
  | c :: t => Step p c.toNat ∧ Chain c.toNat t
theorem step_slash {p : Nat} : Step p 47 ↔ p ≠ 47 := ⟨fun h e => h.1 ⟨rfl, e⟩, fun h => ⟨fun e => h e.2, .inl rfl⟩⟩
theorem step_letter {p c : Nat} (h : c ≠ 47) : Step p c ↔ Letter c := by unfold Step Letter; omega
theorem chain_parts (t : List UInt8) (p : Nat) : Chain p t ↔ ∃ a r, Lib.split t [47] = a :: r ∧ (p = 47 → a ≠ []) ∧ (∀ c ∈ a, Letter c.toNat) ∧ ∀ q ∈ r, Part q := by
  induction t generalizing p with
  | nil =>
    constructor
    · intro h
      exact ⟨[], [], rfl, fun e => absurd e h, (fun c hc => by cases hc), (fun q hq => by cases hq)⟩
    · rintro ⟨a, r, h, h1, _⟩ e
      have : a = [] := by
        have h0 : Lib.split [] [47] = [[]] := rfl
        rw [h0] at h
        injection h with h _
        exact h.symm
      exact h1 e this
  | cons c t ih =>
    by_cases hc : c = 47
    · subst hc
      have h47 : (47 : UInt8).toNat = 47 := rfl
      rw [split_slash]
      unfold Chain
      rw [h47, step_slash, ih]
      constructor
      · rintro ⟨hp, a, r, h, h1, h2, h3⟩
        refine ⟨[], a :: r, by rw [h], fun e => absurd e hp, (fun c hc => by cases hc), fun q hq => ?_⟩
        rcases List.mem_cons.1 hq with rfl | hq
        · exact ⟨h1 rfl, h2⟩
        · exact h3 q hq
      · rintro ⟨a, r, h, h1, _, h3⟩
        injection h with ha hr
        subst ha
        refine ⟨fun e => h1 e rfl, ?_⟩
        cases hs : Lib.split t [47] with
        | nil => unfold Lib.split at hs; cases hk : Lib.count t [47] with
          | zero => rw [hk] at hs; cases hs
          | succ k => rw [hk, Lib.splitK] at hs; split at hs <;> cases hs
        | cons b s =>
          rw [hs] at hr
          subst hr
          have := h3 b (by simp)
          exact ⟨b, s, rfl, fun _ => this.1, this.2, fun q hq => h3 q (by simp [hq])⟩
    · have hcn : c.toNat ≠ 47 := fun e => hc (UInt8.toNat_inj.1 e)
      obtain ⟨a, r, h, h'⟩ := split_other c t hc
      rw [h']
      unfold Chain
      rw [step_letter hcn, ih, h]
      constructor
      · rintro ⟨hl, a', r', he, h1, h2, h3⟩
        injection he with ha hr
        subst ha hr
        refine ⟨c :: a, r, rfl, fun _ => by simp, fun x hx => ?_, h3⟩
        rcases List.mem_cons.1 hx with rfl | hx
        · exact hl
        · exact h2 x hx
      · rintro ⟨a', r', he, h1, h2, h3⟩
        injection he with ha hr
        subst ha hr
        exact ⟨h2 c (by simp), a, r, rfl, fun e => absurd e hcn, fun x hx => h2 x (by simp [hx]), h3⟩
theorem chain_at (t : List UInt8) (p : UInt8) : Chain p.toNat t ↔ (((p :: t).getD t.length 0).toNat ≠ 47 ∧ ∀ i, i < t.length + 1 → 1 ≤ i → Step ((p :: t).getD (i - 1) 0).toNat ((p :: t).getD i 0).toNat) := by
  induction t generalizing p with
  | nil =>
    unfold Chain
    constructor
    · intro h
      exact ⟨h, fun i h1 h2 => by simp at h1; omega⟩
    · intro h
      exact h.1
  | cons c t ih =>
    unfold Chain
    rw [ih]
    constructor
    · rintro ⟨h0, h1, h2⟩
      refine ⟨by simpa using h1, fun i hi h1i => ?_⟩
      by_cases hi1 : i = 1
      · subst hi1; exact h0
      · obtain ⟨j, rfl⟩ : ∃ j, i = j + 2 := ⟨i - 2, by omega⟩
        have := h2 (j + 1) (by simp at hi ⊢; omega) (by omega)
        simpa using this
    · rintro ⟨h1, h2⟩
      refine ⟨by simpa using h2 1 (by simp) (by omega), by simpa using h1, fun i hi h1i => ?_⟩
      obtain ⟨j, rfl⟩ : ∃ j, i = j + 1 := ⟨i - 1, by omega⟩
      have := h2 (j + 2) (by simp at hi ⊢; omega) (by omega)
      simpa using this
theorem split_ne (t : List UInt8) : Lib.split t [47] ≠ [] := by
  unfold Lib.split
  cases Lib.count t [47] with
  | zero => intro h; cases h
  | succ k => rw [Lib.splitK]; split <;> (intro h; cases h)
theorem split_le (t : List UInt8) : ∀ q ∈ Lib.split t [47], q.length ≤ t.length := by
  induction t with
  | nil =>
    intro q hq
    rw [show Lib.split [] [47] = [[]] from rfl] at hq
    rw [List.mem_singleton.1 hq]
    exact Nat.le_refl _
  | cons c t ih =>
    intro q hq
    by_cases hc : c = 47
    · subst hc
      rw [split_slash] at hq
      rcases List.mem_cons.1 hq with rfl | hq
      · simp
      · have := ih q hq
        simp; omega
    · obtain ⟨p, r, h, h'⟩ := split_other c t hc
      rw [h'] at hq
      rw [h] at ih
      rcases List.mem_cons.1 hq with rfl | hq
      · have := ih p (by simp)
        simp; omega
      · have := ih q (by simp [hq])
        simp; omega
/-- A path is a slash, and parts with slashes between. -/
theorem path_parts (t : List UInt8) : Path (47 :: t) ↔ t.length ≤ 127 ∧ ∀ q ∈ Lib.split t [47], Part q := by
  have hch : Chain (47 : UInt8).toNat t ↔ ∀ q ∈ Lib.split t [47], Part q := by
    rw [chain_parts]
    constructor
    · rintro ⟨a, r, h, h1, h2, h3⟩ q hq
      rw [h] at hq
      rcases List.mem_cons.1 hq with rfl | hq
      · exact ⟨h1 rfl, h2⟩
      · exact h3 q hq
    · intro h
      cases hs : Lib.split t [47] with
      | nil => exact absurd hs (split_ne t)
      | cons a r =>
        rw [hs] at h
        have ha := h a (by simp)
        exact ⟨a, r, rfl, fun _ => ha.1, ha.2, fun q hq => h q (by simp [hq])⟩
  rw [← hch, chain_at]
  unfold Path
  simp only [List.length_cons, Nat.add_sub_cancel]
  constructor
  · rintro ⟨⟨_, h1⟩, _, h2, h3⟩
    exact ⟨by omega, h2, h3⟩
  · rintro ⟨h1, h2, h3⟩
    refine ⟨⟨?_, by omega⟩, rfl, h2, h3⟩
    cases t with
    | nil => exact absurd rfl h2
    | cons c t => simp
theorem path_slash {s : List UInt8} (h : Path s) : ∃ t, s = 47 :: t := by
  cases s with
  | nil => exact absurd h.1.1 (by decide)
  | cons c t => exact ⟨t, by have h0 : c.toNat = 47 := h.2.1; rw [show c = 47 from UInt8.toNat_inj.1 h0]⟩
end Nx
end Go.Proofs.YtejhnfeligifgaaDoor
namespace Go.Proofs.YtejhnfeligifgaaDoor
open Go.RowKit

/-- The library's own variable that its search reads. -/
def Mx (w : World) : Prop := ∃ m : Int, w.cell? ⟨0, 0, none⟩ = some (.int .i64 m)
theorem Mx.below {w w' : World} (h : Mx w) (hb : Below w.heap.size w w') : Mx w' := by
  obtain ⟨m, hm⟩ := h
  exact ⟨m, (hb.cell (World.block_lt_of_cell? w _ hm)).trans hm⟩
theorem Mx.belowLe {w w' : World} {B : Nat} (h : Mx w) (hb : Below B w w') (hB : w.heap.size ≤ B) : Mx w' := h.below (hb.mono hB)
set_option maxRecDepth 100000 in
set_option maxHeartbeats 4000000 in
theorem nxLetter_any (c : Nat) (W : World) (hc : c < 256) : Calls Tryd.prog 78 #[.int .u8 (c : Int)] W (YesNo (decide (Nx.Letter c)) W) := by
  by_cases a : (97 : Int) ≤ (c : Int)
  · by_cases b : (c : Int) ≤ 122
    · have HF := hide (YesNo.yes (p := Nx.Letter c) (by unfold Nx.Letter; omega) W)
      go_enter Tryd.func78, Tryd.ntmps78
      go_wp2_with fail
      go_ret
      exact HF.out
    · have d : (48 : Int) ≤ (c : Int) := by omega
      have e : ¬ (c : Int) ≤ 57 := by omega
      have n45 : ((c : Int) == 45) = false := by simp; omega
      have n95 : ((c : Int) == 95) = false := by simp; omega
      have HF := hide (YesNo.no (p := Nx.Letter c) (by unfold Nx.Letter; omega) W)
      go_enter Tryd.func78, Tryd.ntmps78
      go_wp2_with fail
      go_ret
      exact HF.out
  · by_cases d : (48 : Int) ≤ (c : Int)
    · by_cases e : (c : Int) ≤ 57
      · have HF := hide (YesNo.yes (p := Nx.Letter c) (by unfold Nx.Letter; omega) W)
        go_enter Tryd.func78, Tryd.ntmps78
        go_wp2_with fail
        go_ret
        exact HF.out
      · have n45 : ((c : Int) == 45) = false := by simp; omega
        by_cases n95 : (c : Int) = 95
        · have e95 : ((c : Int) == 95) = true := by simpa using n95
          have HF := hide (YesNo.yes (p := Nx.Letter c) (by unfold Nx.Letter; omega) W)
          clear n95
          go_enter Tryd.func78, Tryd.ntmps78
          go_wp2_with fail
          go_ret
          exact HF.out
        · have e95 : ((c : Int) == 95) = false := by simpa using n95
          have HF := hide (YesNo.no (p := Nx.Letter c) (by unfold Nx.Letter; omega) W)
          go_enter Tryd.func78, Tryd.ntmps78
          go_wp2_with fail
          go_ret
          exact HF.out
    · have n95 : ((c : Int) == 95) = false := by simp; omega
      by_cases n45 : (c : Int) = 45
      · have e45 : ((c : Int) == 45) = true := by simpa using n45
        have HF := hide (YesNo.yes (p := Nx.Letter c) (by unfold Nx.Letter; omega) W)
        clear n45
        go_enter Tryd.func78, Tryd.ntmps78
        go_wp2_with fail
        go_ret
        exact HF.out
      · have e45 : ((c : Int) == 45) = false := by simpa using n45
        have HF := hide (YesNo.no (p := Nx.Letter c) (by unfold Nx.Letter; omega) W)
        go_enter Tryd.func78, Tryd.ntmps78
        go_wp2_with fail
        go_ret
        exact HF.out
set_option maxRecDepth 100000 in
set_option maxHeartbeats 4000000 in
theorem nxPart_any (s : ByteArray) (W : World) (hs : s.size ≤ 9223372036854775807) : Calls Tryd.prog 50 #[.string s] W (YesNo (decide (Nx.Part s.data.toList)) W) := by
  have hs' : (s.size : Int) ≤ 9223372036854775807 := by omega
  have hlen : s.data.toList.length = s.size := by rw [Lib.size_eq]
  have HX := hide (show ∀ i (h : i < s.size), ¬ Nx.Letter s[i].toNat → YesNo (decide (Nx.Part s.data.toList)) W (.returned (.bool false)) W from fun i h hn => YesNo.no (fun hp => hn (hp.2 _ (by
    have := str_at h
    exact List.mem_of_getElem? this))) W)
  obtain ⟨b, hb⟩ : ∃ b, s.toList.isEmpty = b := ⟨_, rfl⟩
  have HY := hide (show (∀ i (h : i < s.size), Nx.Letter s[i].toNat) → YesNo (decide (Nx.Part s.data.toList)) W (.returned (.bool (!b))) W from fun h => by
    have hl : ∀ c ∈ s.data.toList, Nx.Letter c.toNat := fun c hc => by
      obtain ⟨i, hi, rfl⟩ := List.getElem_of_mem hc
      have h1 : i < s.size := by omega
      have h2 := str_at h1
      rw [List.getElem?_eq_getElem hi] at h2
      injection h2 with h2
      rw [h2]
      exact h i h1
    cases b with
    | true => exact YesNo.no (fun hp => hp.1 (by rw [Lib.toList_data] at hb; simpa using hb)) W
    | false => exact YesNo.yes ⟨(fun e => by rw [Lib.toList_data, e] at hb; cases hb), hl⟩ W)
  clear hlen
  go_enter Tryd.func50, Tryd.ntmps50
  go_wp2_with fail
  go_loop [6] (fun s6 => ∃ k : Nat, s6 = .int .i64 (k : Int) ∧ k ≤ s.size ∧ Hid (∀ i (h : i < s.size), i < k → Nx.Letter s[i].toNat)) (fun s6 => s.size - (intOf s6).toNat)
  case atStart => exact ⟨0, rfl, by omega, hide (fun i _ h => by omega)⟩
  case round =>
    obtain ⟨k, rfl, hk, HK⟩ := hrel
    by_cases hlt : k < s.size
    · have hlt' : (k : Int) < (s.size : Int) := by omega
      have hc := u8_lt s[k]
      have HX1 := hide (HX.out k hlt)
      have HK1 : Hid (Nx.Letter s[k].toNat → ∀ i (h : i < s.size), i < k + 1 → Nx.Letter s[i].toNat) := hide (fun h i hi h1 => by
        rcases Nat.lt_or_eq_of_le (Nat.le_of_lt_succ h1) with h3 | rfl
        · exact HK.out i hi h3
        · exact h)
      clear HX HK HY
      have HL := hide (nxLetter_any s[k].toNat W (by omega))
      go_wp2_with (go_at_call 78; refine HL.out.mono ?_)
      rintro e w2 ⟨rfl, rfl⟩
      by_cases hl : Nx.Letter s[k].toNat
      · rw [decide_eq_true hl]
        have HF := hide (HK1.out hl)
        clear HX1 HK1 hl HL
        go_wp2_with fail
        go_round
        case rel => exact ⟨k + 1, by go_num, by omega, HF⟩
        case measure => simp [intOf]; omega
      · rw [decide_eq_false hl]
        have HF := hide (HX1.out hl)
        clear HX1 HK1 hl HL
        go_wp2_with fail
        go_ret
        exact HF.out
    · obtain rfl : k = s.size := by omega
      have HF := hide (HY.out (fun i h => HK.out i h h))
      clear HX HK HY
      go_wp2_with fail
      go_ret
      exact HF.out
end Go.Proofs.YtejhnfeligifgaaDoor
namespace Go.Proofs.YtejhnfeligifgaaDoor
open Go.RowKit

/-- A block that holds strings. -/
theorem strs_cell {w : World} {L : List ByteArray} {t : TypeId} {k : Nat} (h : k < L.length) : (w.alloc (.cells (L.map Value.string).toArray t)).cell? ⟨w.heap.size, k, none⟩ = some (.string L[k]) := by
  rw [World.cell?_alloc_at (w := w) _ _ w.heap.size k rfl]
  simp [h]
set_option maxRecDepth 100000 in
set_option maxHeartbeats 4000000 in
theorem nxPath_any (s : ByteArray) (W : World) (HM0 : Mx W) (hs : s.size ≤ 9223372036854775807) : Calls Tryd.prog 19 #[.string s] W (BoolPost (decide (Nx.Path s.data.toList)) W) := by
  have hs' : (s.size : Int) ≤ 9223372036854775807 := by omega
  have hlen : s.data.toList.length = s.size := by rw [Lib.size_eq]
  by_cases h3 : 128 < s.size
  · have h3' : (128 : Int) < (s.size : Int) := by omega
    have HF : Hid (BoolPost (decide (Nx.Path s.data.toList)) W (.returned (.bool false)) W) := hide ⟨by rw [decide_eq_false (fun h => by have := h.1.2; omega)], Below.refl _ _⟩
    go_enter Tryd.func19, Tryd.ntmps19
    go_wp2_with fail
    go_ret
    exact HF.out
  have h3' : ¬ (128 : Int) < (s.size : Int) := by omega
  by_cases hsl : ∃ t, s.data.toList = 47 :: t
  case neg =>
    have HF : Hid (BoolPost (decide (Nx.Path s.data.toList)) W (.returned (.bool false)) W) := hide ⟨by rw [decide_eq_false (fun h => hsl (Nx.path_slash h))], Below.refl _ _⟩
    have HP := hide (show Lib.hasPrefix s.data.toList (⟨#[47]⟩ : ByteArray).data.toList = false from by
      cases hl : s.data.toList with
      | nil => rfl
      | cons c t =>
        have hc : c ≠ 47 := fun e => hsl ⟨t, by rw [hl, e]⟩
        simp [Lib.hasPrefix, List.isPrefixOf, Ne.symm hc])
    clear hsl hlen
    go_enter Tryd.func19, Tryd.ntmps19
    go_wp2_with (go_at_call 48; refine (Tryd.strings_HasPrefix s ⟨#[47]⟩ _).mono ?_; rintro e w2 ⟨rfl, q2⟩; rw [q2, HP.out]; clear q2 w2)
    go_ret
    exact HF.out
  obtain ⟨l, hl⟩ := hsl
  have hl1 : l.length + 1 = s.size := by rw [← hlen, hl]; rfl
  have HP := hide (show Lib.hasPrefix s.data.toList (⟨#[47]⟩ : ByteArray).data.toList = true from by rw [hl]; simp [Lib.hasPrefix, List.isPrefixOf])
  obtain ⟨t, ht⟩ : ∃ t, s.extract 1 s.size = t := ⟨_, rfl⟩
  have htl : t.data.toList = l := by
    rw [← ht, Lib.extract_to_end, hl]; rfl
  have hts : t.size = l.length := by rw [← htl, Lib.size_eq]
  obtain ⟨m, hm⟩ := HM0
  obtain ⟨L, hL⟩ : ∃ L, Lib.splitB ⟨#[47]⟩ 0 (Lib.countB t ⟨#[47]⟩) t = L := ⟨_, rfl⟩
  have hLl : L.length = Lib.countB t ⟨#[47]⟩ + 1 := by rw [← hL]; exact Lib.splitB_all ⟨#[47]⟩ (by decide) 0 _ t rfl
  have hLd : L.map (·.data.toList) = Lib.split l [47] := by
    rw [← hL, Lib.splitB_data, ← htl]; rfl
  have hcl := Lib.countB_le ⟨#[47]⟩ (by decide) t.size t (Nat.le_refl _)
  have hLs : ∀ (k : Nat) (h : k < L.length), L[k].size ≤ 9223372036854775807 := fun k h => by
    have h1 : L[k].data.toList ∈ Lib.split l [47] := by rw [← hLd]; exact List.mem_map.2 ⟨_, List.getElem_mem h, rfl⟩
    have h2 := Nx.split_le l _ h1
    rw [← Lib.size_eq] at h2
    omega
  have HY : Hid ((∀ (k : Nat) (h : k < L.length), Nx.Part L[k].data.toList) → decide (Nx.Path s.data.toList) = true) := hide (fun h => decide_eq_true (by
    rw [hl, Nx.path_parts]
    refine ⟨by omega, fun q hq => ?_⟩
    rw [← hLd] at hq
    obtain ⟨x, hx, rfl⟩ := List.mem_map.1 hq
    obtain ⟨k, hk, rfl⟩ := List.getElem_of_mem hx
    exact h k hk))
  have HX : Hid (∀ (k : Nat) (h : k < L.length), ¬ Nx.Part L[k].data.toList → decide (Nx.Path s.data.toList) = false) := hide (fun k h hn => decide_eq_false (fun hp => by
    rw [hl, Nx.path_parts, ← hLd] at hp
    exact hn (hp.2 _ (List.mem_map.2 ⟨_, List.getElem_mem h, rfl⟩))))
  obtain ⟨N, hN⟩ : ∃ N, Lib.countB t ⟨#[47]⟩ + 1 = N := ⟨_, rfl⟩
  rw [hN] at hLl
  have hNb : N ≤ 200 := by omega
  have HS : Hid (∀ w : World, w.cell? ⟨0, 0, none⟩ = some (.int .i64 m) → Calls Tryd.prog 49 #[.string t, .string ⟨#[47]⟩] w fun e w' => e = .returned (.slice (some ⟨w.heap.size, 0, none⟩) N N) ∧ w' = w.alloc (.cells (L.map Value.string).toArray 9)) := hide (fun w hw => by
    have h := Tryd.strings_Split t ⟨#[47]⟩ m w (by omega) hw (by decide)
    rw [hL, hN] at h
    exact h)
  have HW := hide (show Below W.heap.size W (W.alloc (.cells (L.map Value.string).toArray 9)) from (Below.refl _ _).alloc (Nat.le_refl _) _)
  have HC := hide (fun (k : Nat) (h : k < L.length) => strs_cell (w := W) (t := 9) h)
  obtain ⟨w1, hw1⟩ : ∃ w1, W.alloc (.cells (L.map Value.string).toArray 9) = w1 := ⟨_, rfl⟩
  rw [hw1] at HW HC
  have hsz1 : w1.heap.size = W.heap.size + 1 := by rw [← hw1]; simp
  have HM := hide hm
  have hs1 : (1 : Int) ≤ (s.size : Int) := by omega
  clear hl hl1 hlen htl hts hL hLd hN hcl hm
  go_enter Tryd.func19, Tryd.ntmps19
  go_wp2_with (first | (go_at_call 48; refine (Tryd.strings_HasPrefix s ⟨#[47]⟩ _).mono ?_; rintro e w2 ⟨rfl, q2⟩; rw [q2, HP.out]; clear q2 w2) | (go_at_call 49; refine (HS.out _ HM.out).mono ?_; rintro e w2 ⟨rfl, q2⟩; rw [q2, hw1]; clear q2 w2) | fail)
  go_loop [17] (fun s17 => ∃ k : Nat, s17 = .int .i64 (k : Int) ∧ k ≤ N ∧ Hid (∀ (i : Nat) (h : i < L.length), i < k → Nx.Part L[i].data.toList)) (fun s17 => N - (intOf s17).toNat)
  case atStart => exact ⟨0, rfl, by omega, hide (fun j _ h => by omega)⟩
  case round =>
    obtain ⟨k, rfl, hk, HK⟩ := hrel
    by_cases hlt : k < N
    · have hlt' : (k : Int) < (N : Int) := by omega
      have hkl : k < L.length := by omega
      have c1 := HC.out k hkl
      have hsx := hLs k hkl
      have HX1 := hide (HX.out k hkl)
      have HK1 : Hid (Nx.Part L[k].data.toList → ∀ (i : Nat) (h : i < L.length), i < k + 1 → Nx.Part L[i].data.toList) := hide (fun h0 j h h1 => by
        rcases Nat.lt_or_eq_of_le (Nat.le_of_lt_succ h1) with h3 | rfl
        · exact HK.out j h h3
        · exact h0)
      generalize L[k] = x at *
      have HQ := hide (fun W' => nxPart_any x W' hsx)
      by_cases hp : Nx.Part x.data.toList
      · have HF := hide (HK1.out hp)
        have HD := hide (decide_eq_true hp)
        clear HX1 HK1 HX HY HK hp
        go_wp2_with (go_at_call 50; refine (HQ.out _).mono ?_; rintro e w2 ⟨rfl, q2⟩; rw [q2, HD.out]; clear q2 w2)
        go_round
        case rel => exact ⟨k + 1, by go_num, by omega, HF⟩
        case measure => simp [intOf]; omega
      · have HF := hide (HX1.out hp)
        have HD := hide (decide_eq_false hp)
        clear HX1 HK1 HX HY HK hp
        go_wp2_with (go_at_call 50; refine (HQ.out _).mono ?_; rintro e w2 ⟨rfl, q2⟩; rw [q2, HD.out]; clear q2 w2)
        go_ret
        exact ⟨ret_bool HF.out.symm, HW.out⟩
    · obtain rfl : k = N := by omega
      have HF := hide (HY.out (fun i h => HK.out i h (by omega)))
      clear HX HY HK
      go_wp2_with fail
      go_ret
      exact ⟨ret_bool HF.out.symm, HW.out⟩
end Go.Proofs.YtejhnfeligifgaaDoor
