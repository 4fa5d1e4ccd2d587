/- The reference of name spaces: which strings are paths: a contract. | Layer 9, how entries lie in memory, with what they hold. | The reference of name spaces: which are right, copies: contracts (written by tools/mkentry.py). -/
import Derived.Test.YtddbohnappogkaaObMem
import Derived.Test.YtddbohnappogkaaNxMath
import Derived.Test.YtddbohnappogkaaObOwn
import Derived.Test.YtddbohnappogkaaIdTy
namespace Go.Proofs.Ytddbohnappogkaa
open Go.RowKit

/-- Some answer, and nothing else. -/
def BoolSame (w : World) (e : Ending) (w' : World) : Prop := ∃ v, e = .returned (.bool v) ∧ w' = w
/-- A counter from lo to n. -/
def AtPlace (lo n : Nat) (s : Value) : Prop := ∃ k : Nat, s = .int .i64 (k : Int) ∧ lo ≤ k ∧ k ≤ n
theorem str_getD {s : ByteArray} {k : Nat} (h : k < s.size) : s.data.toList.getD k 0 = s[k] := by rw [List.getD_eq_getElem?_getD, str_at h]; rfl
/-- A yes or no, and nothing else. -/
def YesNo (b : Bool) (w : World) (e : Ending) (w' : World) : Prop := e = .returned (.bool b) ∧ w' = w
theorem YesNo.no {p : Prop} [Decidable p] (h : ¬ p) (w : World) : YesNo (decide p) w (.returned (.bool false)) w := ⟨by rw [decide_eq_false h], rfl⟩
theorem YesNo.yes {p : Prop} [Decidable p] (h : p) (w : World) : YesNo (decide p) w (.returned (.bool true)) w := ⟨by rw [decide_eq_true h], rfl⟩
set_option maxRecDepth 100000 in
set_option maxHeartbeats 8000000 in
theorem refPath_any (s : ByteArray) (W : World) (hs : s.size ≤ 9223372036854775807) : Calls Try.prog 53 #[.string s] W (YesNo (decide (Nx.Path s.data.toList)) W) := by
  have hs' : (s.size : Int) ≤ 9223372036854775807 := by omega
  have hlen : s.data.toList.length = s.size := by rw [Lib.size_eq]
  by_cases h2 : s.size < 2
  · have h2' : (s.size : Int) < 2 := by omega
    have HF := hide (YesNo.no (p := Nx.Path s.data.toList) (fun h => by have := h.1.1; omega) W)
    go_enter Try.func53, Try.ntmps53
    go_wp2_with fail
    go_ret
    exact HF.out
  · have h2' : ¬ (s.size : Int) < 2 := by omega
    by_cases h3 : 128 < s.size
    · have h3' : (128 : Int) < (s.size : Int) := by omega
      have HF := hide (YesNo.no (p := Nx.Path s.data.toList) (fun h => by have := h.1.2; omega) W)
      go_enter Try.func53, Try.ntmps53
      go_wp2_with fail
      go_ret
      exact HF.out
    · have h3' : ¬ (128 : Int) < (s.size : Int) := by omega
      have hp0 : 0 < s.size := by omega
      have hp1 : (0 : Int) < (s.size : Int) := by omega
      have hl1 : s.size - 1 < s.size := by omega
      by_cases f47 : (s[0].toNat : Int) = 47
      case neg =>
        have f47' : ((s[0].toNat : Int) == 47) = false := by simpa using f47
        have f47'' : ((s[0].toNat : Int) != 47) = true := by simpa using f47
        have HF := hide (YesNo.no (p := Nx.Path s.data.toList) (fun h => by have := h.2.1; rw [str_getD hp0] at this; omega) W)
        go_enter Try.func53, Try.ntmps53
        go_wp2_with fail
        go_ret
        exact HF.out
      by_cases l47 : (s[s.size - 1].toNat : Int) = 47
      case pos =>
        have l47' : ((s[s.size - 1].toNat : Int) == 47) = true := by simpa using l47
        have HF := hide (YesNo.no (p := Nx.Path s.data.toList) (fun h => by have := h.2.2.1; rw [hlen, str_getD hl1] at this; omega) W)
        go_enter Try.func53, Try.ntmps53
        go_wp2_with fail
        go_ret
        exact HF.out
      have l47' : ((s[s.size - 1].toNat : Int) == 47) = false := by simpa using l47
      have HY := hide (show (∀ i, i < s.size → 1 ≤ i → Nx.Step (s.data.toList.getD (i - 1) 0).toNat (s.data.toList.getD i 0).toNat) → YesNo (decide (Nx.Path s.data.toList)) W (.returned (.bool true)) W from fun h => YesNo.yes ⟨⟨by omega, by omega⟩, by rw [str_getD hp0]; omega, by rw [hlen, str_getD hl1]; omega, by rw [hlen]; exact h⟩ W)
      have HX := hide (show ∀ i, i < s.size → 1 ≤ i → ¬ Nx.Step (s.data.toList.getD (i - 1) 0).toNat (s.data.toList.getD i 0).toNat → YesNo (decide (Nx.Path s.data.toList)) W (.returned (.bool false)) W from fun i h1 h2 h => YesNo.no (fun hp => h (hp.2.2.2 i (by rw [hlen]; exact h1) h2)) W)
      clear hlen
      go_enter Try.func53, Try.ntmps53
      go_wp2_with fail
      go_loop [3] (fun s3 => ∃ k : Nat, s3 = .int .i64 (k : Int) ∧ 1 ≤ k ∧ k ≤ s.size ∧ Hid (∀ i, i < k → 1 ≤ i → Nx.Step (s.data.toList.getD (i - 1) 0).toNat (s.data.toList.getD i 0).toNat)) (fun s3 => s.size - (intOf s3).toNat)
      case atStart => exact ⟨1, rfl, by omega, by omega, hide (fun i h1 h2 => by omega)⟩
      case round =>
        obtain ⟨k, rfl, hk1, hk, HK⟩ := hrel
        by_cases hlt : k < s.size
        · have hlt' : (k : Int) < (s.size : Int) := by omega
          have hk1' : (1 : Int) ≤ (k : Int) := by omega
          have hc := u8_lt s[k]
          have hk1m : k - 1 < s.size := by omega
          have hcp := u8_lt s[k - 1]
          have HX1 : Hid (¬ Nx.Step s[k - 1].toNat s[k].toNat → YesNo (decide (Nx.Path s.data.toList)) W (.returned (.bool false)) W) := hide (fun h => HX.out k hlt hk1 (by rw [str_getD hlt, str_getD hk1m]; exact h))
          have HK1 : Hid (Nx.Step s[k - 1].toNat s[k].toNat → ∀ i, i < k + 1 → 1 ≤ i → Nx.Step (s.data.toList.getD (i - 1) 0).toNat (s.data.toList.getD i 0).toNat) := hide (fun h i h1 h2 => by
            rcases Nat.lt_or_eq_of_le (Nat.le_of_lt_succ h1) with h3 | rfl
            · exact HK.out i h3 h2
            · rw [str_getD hlt, str_getD hk1m]; exact h)
          clear HX HK
          by_cases h47 : (s[k].toNat : Int) = 47
          · have e47 : ((s[k].toNat : Int) == 47) = true := by simpa using h47
            by_cases p47 : (s[k - 1].toNat : Int) = 47
            · have q47 : ((s[k - 1].toNat : Int) == 47) = true := by simpa using p47
              have hno : ¬ Nx.Step s[k - 1].toNat s[k].toNat := fun h => h.1 ⟨by omega, by omega⟩
              have HF := hide (HX1.out hno)
              clear HX1 HK1 hno
              go_wp2_with fail
              go_ret
              exact HF.out
            · have q47 : ((s[k - 1].toNat : Int) == 47) = false := by simpa using p47
              have hyes : Nx.Step s[k - 1].toNat s[k].toNat := ⟨fun h => p47 (by omega), .inl (by omega)⟩
              have HF := hide (HK1.out hyes)
              clear HX1 HK1 hyes
              go_wp2_with fail
              go_round
              case rel => exact ⟨k + 1, by go_num, by omega, by omega, HF⟩
              case measure => simp [intOf]; omega
          have e47 : ((s[k].toNat : Int) == 47) = false := by simpa using h47
          by_cases h45 : (s[k].toNat : Int) = 45
          · have e45 : ((s[k].toNat : Int) == 45) = true := by simpa using h45
            have n45 : ((s[k].toNat : Int) != 45) = false := by simpa using h45
            have HF := hide (HK1.out ⟨fun h => by omega, by omega⟩)
            clear HX1 HK1
            go_wp2_with fail
            go_round
            case rel => exact ⟨k + 1, by go_num, by omega, by omega, HF⟩
            case measure => simp [intOf]; omega
          · have e45 : ((s[k].toNat : Int) == 45) = false := by simpa using h45
            have n45 : ((s[k].toNat : Int) != 45) = true := by simpa using h45
            by_cases h95 : (s[k].toNat : Int) = 95
            · have e95 : ((s[k].toNat : Int) == 95) = true := by simpa using h95
              have n95 : ((s[k].toNat : Int) != 95) = false := by simpa using h95
              have HF := hide (HK1.out ⟨fun h => by omega, by omega⟩)
              clear HX1 HK1
              go_wp2_with fail
              go_round
              case rel => exact ⟨k + 1, by go_num, by omega, by omega, HF⟩
              case measure => simp [intOf]; omega
            · have e95 : ((s[k].toNat : Int) == 95) = false := by simpa using h95
              have n95 : ((s[k].toNat : Int) != 95) = true := by simpa using h95
              by_cases l97 : (s[k].toNat : Int) < 97
              · skip
                by_cases l48 : (s[k].toNat : Int) < 48
                · skip
                  have HF := hide (HX1.out (fun h => by have := h.2; omega))
                  clear HX1 HK1
                  go_wp2_with fail
                  go_ret
                  exact HF.out
                · skip
                  by_cases g57 : 57 < (s[k].toNat : Int)
                  · skip
                    have HF := hide (HX1.out (fun h => by have := h.2; omega))
                    clear HX1 HK1
                    go_wp2_with fail
                    go_ret
                    exact HF.out
                  · skip
                    have HF := hide (HK1.out ⟨fun h => by omega, by omega⟩)
                    clear HX1 HK1
                    go_wp2_with fail
                    go_round
                    case rel => exact ⟨k + 1, by go_num, by omega, by omega, HF⟩
                    case measure => simp [intOf]; omega
              · skip
                by_cases g122 : 122 < (s[k].toNat : Int)
                · skip
                  have l48 : ¬ (s[k].toNat : Int) < 48 := by omega
                  have g57 : 57 < (s[k].toNat : Int) := by omega
                  have HF := hide (HX1.out (fun h => by have := h.2; omega))
                  clear HX1 HK1
                  go_wp2_with fail
                  go_ret
                  exact HF.out
                · skip
                  have HF := hide (HK1.out ⟨fun h => by omega, by omega⟩)
                  clear HX1 HK1
                  go_wp2_with fail
                  go_round
                  case rel => exact ⟨k + 1, by go_num, by omega, by omega, HF⟩
                  case measure => simp [intOf]; omega
        · obtain rfl : k = s.size := by omega
          have HF := hide (HY.out HK.out)
          clear HY HK
          go_wp2_with fail
          go_ret
          exact HF.out
theorem path_any (s : ByteArray) (W : World) (hs : s.size ≤ 9223372036854775807) : Calls Try.prog 53 #[.string s] W (BoolSame W) :=
  (refPath_any s W hs).mono fun _ _ h => ⟨_, h⟩
end Go.Proofs.Ytddbohnappogkaa
namespace Go.Proofs.Ytddbohnappogkaa
open Go.RowKit

/-- The slice of address A and n entries reads as l, and l holds E. -/
def Ents (w : World) (B : Nat) (A : Option Addr) (n : Nat) (l : List Nm) (E : List Nx.Ent) : Prop :=
  Nms w B A n l ∧ E.length = n ∧ ∀ (k : Nat) (h : k < l.length) (h' : k < E.length), l[k].path = E[k].path ∧ l[k].kind = E[k].kind ∧ Nums .u64 w B l[k].ids.A l[k].ids.n E[k].ids
section
variable {w w' : World} {B B' n : Nat} {A : Option Addr} {l : List Nm} {E : List Nx.Ent}
theorem Ents.nms (h : Ents w B A n l E) : Nms w B A n l := h.1
theorem Ents.len (h : Ents w B A n l E) : E.length = n := h.2.1
theorem Ents.nil : Ents w B A 0 [] [] := ⟨Nms.nil, rfl, fun k h => by simp at h⟩
theorem Ents.mono (h : Ents w B A n l E) (hB : B ≤ B') : Ents w B' A n l E := ⟨h.1.mono hB, h.2.1, fun k h1 h2 => ⟨(h.2.2 k h1 h2).1, (h.2.2 k h1 h2).2.1, (h.2.2 k h1 h2).2.2.mono hB⟩⟩
theorem Ents.below (h : Ents w B A n l E) (hb : Below B w w') : Ents w' B A n l E := ⟨h.1.below hb, h.2.1, fun k h1 h2 => ⟨(h.2.2 k h1 h2).1, (h.2.2 k h1 h2).2.1, (h.2.2 k h1 h2).2.2.below hb⟩⟩
theorem Ents.later (h : Ents w w.heap.size A n l E) (hb : Below w.heap.size w w') : Ents w' w'.heap.size A n l E := (h.below hb).mono hb.size
/-- Entries hold something. -/
theorem Nms.ents (h : Nms w B A n l) : ∃ E, Ents w B A n l E := by
  have h0 := h.1
  have hall : ∀ m, m ≤ l.length → ∃ E : List Nx.Ent, E.length = m ∧ ∀ (k : Nat) (h : k < l.length) (h' : k < E.length), l[k].path = E[k].path ∧ l[k].kind = E[k].kind ∧ Nums .u64 w B l[k].ids.A l[k].ids.n E[k].ids := by
    intro m
    induction m with
    | zero => exact fun _ => ⟨[], rfl, fun k h1 h2 => by simp at h2⟩
    | succ m ih =>
      intro hm
      obtain ⟨E, hE, hk⟩ := ih (by omega)
      obtain ⟨I, hI⟩ := h.2.2 _ (List.getElem_mem (show m < l.length by omega))
      refine ⟨E ++ [⟨l[m].path, l[m].kind, I⟩], by simp [hE], fun k h1 h2 => ?_⟩
      by_cases hkm : k < m
      · rw [List.getElem_append_left (by omega)]
        exact hk k h1 (by omega)
      · have : k = m := by simp [hE] at h2; omega
        subst this
        rw [List.getElem_append_right (by omega)]
        simp only [hE, Nat.sub_self, List.getElem_cons_zero]
        exact ⟨trivial, trivial, hI⟩
  obtain ⟨E, hE, hk⟩ := hall l.length (Nat.le_refl _)
  exact ⟨E, h, by omega, hk⟩
theorem Ents.ent (h : Ents w B A n l E) {k : Nat} (hk : k < n) : ∃ (h1 : k < l.length) (h2 : k < E.length), (⟨l[k].path, l[k].kind, E[k].ids⟩ : Nx.Ent) = E[k] ∧ Nums .u64 w B l[k].ids.A l[k].ids.n E[k].ids := by
  have h1 : k < l.length := by have := h.1.1; omega
  have h2 : k < E.length := by have := h.2.1; omega
  obtain ⟨a, b, c⟩ := h.2.2 k h1 h2
  exact ⟨h1, h2, by rw [a, b], c⟩
end
/-- A name space. -/
def Ob.Names (o : Ob) (E : List Nx.Ent) : Prop := o.kind = 10 ∧ o.id = 1 ∧ o.names.n ≤ 256 ∧ Nx.Space E ∧ ({ o with names := ⟨none, 0, 0⟩ } : Ob).Clear
instance (o : Ob) (E : List Nx.Ent) : Decidable (o.Names E) := by unfold Ob.Names; infer_instance
end Go.Proofs.Ytddbohnappogkaa
namespace Go.Proofs.Ytddbohnappogkaa
open Go.RowKit

theorem nmSize : (Try.prog.info? 56).map (·.size) = some 3 := by kernel_rfl
/-- Some answer; what was there is there. -/
def SomeAns (w : World) (e : Ending) (w' : World) : Prop := ∃ v, e = .returned (.bool v) ∧ Below w.heap.size w w'
def AtK (n : Nat) (s : Value) : Prop := ∃ k : Nat, s = .int .i64 (k : Int) ∧ k ≤ n
set_option maxRecDepth 100000 in
set_option maxHeartbeats 8000000 in
theorem refEntry_any (x : Nm) (B : Nat) (I : List Int) (W : World) (hI : Nums .u64 W B x.ids.A x.ids.n I) (hB : B ≤ W.heap.size) (hn : x.ids.n ≤ 9223372036854775807) (hp : x.path.length ≤ 9223372036854775807) : Calls Try.prog 50 #[nma x] W (BoolPost (decide (Nx.Ent.Ok ⟨x.path, x.kind, I⟩)) W) := by
  obtain ⟨path, kd, ids⟩ := x
  obtain ⟨A, n, c⟩ := ids
  simp only at hI hn hp
  obtain ⟨s, hs⟩ : ∃ s : ByteArray, s = ⟨path.toArray⟩ := ⟨_, rfl⟩
  have hsz : s.size ≤ 9223372036854775807 := by rw [hs, ba_size]; exact hp
  show Calls Try.prog 50 #[.agg #[.string ⟨path.toArray⟩, .int .i64 kd, .slice A n c]] W (BoolPost (decide (Nx.Ent.Ok ⟨path, kd, I⟩)) W)
  rw [← hs]
  obtain ⟨w1, hw, O, hb⟩ : ∃ w1, W.alloc (.cells #[.string s, .int .i64 kd, .slice A n c] 56) = w1 ∧ Obl w1 W.heap.size 56 #[.string s, .int .i64 kd, .slice A n c] ∧ Below W.heap.size W w1 := ⟨_, rfl, Obl.make W _ _, (Below.refl _ _).alloc (Nat.le_refl _) _⟩
  have HB := hide hb
  have hI1 := hI.belowLe hb hB
  have k0 : w1.cell? ⟨W.heap.size, 0, none⟩ = some (.string s) := O.cell 0
  have k1 : w1.cell? ⟨W.heap.size, 1, none⟩ = some (.int .i64 kd) := O.cell 1
  have k2 : w1.cell? ⟨W.heap.size, 2, none⟩ = some (.slice A n c) := O.cell 2
  have hn' : (n : Int) ≤ 9223372036854775807 := by omega
  have hl := O.lt
  have hIl : I.length = n := hI.1
  have hpl : s.data.toList = path := by rw [hs]
  have HNO := hide (show ∀ w, Below W.heap.size W w → ¬ Nx.Ent.Ok ⟨path, kd, I⟩ → BoolPost (decide (Nx.Ent.Ok ⟨path, kd, I⟩)) W (.returned (.bool false)) w from fun w hb h => ⟨by rw [decide_eq_false h], hb⟩)
  have HKD := hide (show Nx.Ent.Ok ⟨path, kd, I⟩ → ((kd = 3 ∨ kd = 6 ∨ kd = 8 ∨ kd = 9) ∧ I.length = 1) ∨ (kd = 2 ∧ 1 ≤ I.length ∧ I.length ≤ 16) from fun h => h.1)
  have HID := hide (show ∀ k (h : k < I.length), I[k] = 0 → ¬ Nx.Ent.Ok ⟨path, kd, I⟩ from fun k h hz hok => hok.2.1 _ (List.getElem_mem h) hz)
  have HOK := hide (show (((kd = 3 ∨ kd = 6 ∨ kd = 8 ∨ kd = 9) ∧ I.length = 1) ∨ (kd = 2 ∧ 1 ≤ I.length ∧ I.length ≤ 16)) → (∀ k (h : k < I.length), I[k] ≠ 0) → decide (Nx.Ent.Ok ⟨path, kd, I⟩) = decide (Nx.Path s.data.toList) from fun h1 h2 => decide_eq_decide.2 ⟨fun h => by rw [hpl]; exact h.2.2, fun h => ⟨h1, fun x hx => by obtain ⟨k, hk, rfl⟩ := List.getElem_of_mem hx; exact h2 k hk, by rw [hpl] at h; exact h⟩⟩)
  have HIL := hide hIl
  clear hb hI O hs hp hIl hpl
  by_cases h3 : kd = 3
  case pos =>
    subst h3
    by_cases h1 : n = 1
    · subst h1
      have HG := hide (HOK.out (by have := HIL.out; omega))
      clear HKD HOK
      go_enter Try.func50, Try.ntmps50
      go_wp2_with fail
      go_loop [31] (fun s31 => ∃ k : Nat, s31 = .int .i64 (k : Int) ∧ k ≤ 1 ∧ Hid (∀ j (h : j < I.length), j < k → I[j] ≠ 0)) (fun s31 => 1 - (intOf s31).toNat)
      case atStart => exact ⟨0, rfl, by omega, hide (fun j _ h => by omega)⟩
      case round =>
        obtain ⟨k, rfl, hk, HK⟩ := hrel
        by_cases hlt : k < 1
        · have hlt' : (k : Int) < 1 := by omega
          obtain ⟨b1, f1, hl1, rfl, hb1, c1⟩ := hI1.at_ hlt
          have HZ := hide (HID.out k hl1)
          have HY : Hid (I[k] ≠ 0 → ∀ j (h : j < I.length), j < k + 1 → I[j] ≠ 0) := hide (fun h0 j h h1 => by
            rcases Nat.lt_or_eq_of_le (Nat.le_of_lt_succ h1) with h3 | rfl
            · exact HK.out j h h3
            · exact h0)
          clear HK HID
          obtain ⟨v, hv0⟩ : ∃ v, I[k] = v := ⟨_, rfl⟩
          rw [hv0] at c1 HZ HY
          clear hv0
          by_cases hv : v = 0
          · have HF := hide (HNO.out _ HB.out (HZ.out hv))
            clear HZ HY HNO
            subst hv
            go_wp2_with fail
            go_ret
            exact HF.out
          · have hv' : (v == 0) = false := by simpa using hv
            have HF := hide (HY.out hv)
            clear HZ HY
            go_wp2_with fail
            go_round
            case rel => exact ⟨k + 1, by go_num, by omega, HF⟩
            case measure => simp [intOf]; omega
        · obtain rfl : k = 1 := by omega
          have HF := hide (HG.out (fun j h => HK.out j h (by have := HIL.out; omega)))
          clear HG HK HID HNO
          go_wp2_with fail
          refine (refPath_any s _ hsz).mono ?_
          rintro e w2 ⟨rfl, rfl⟩
          rw [← HF.out]
          obtain ⟨bv, hbv⟩ : ∃ bv, decide (Nx.Ent.Ok ⟨path, 3, I⟩) = bv := ⟨_, rfl⟩
          have HV := hide hbv
          rw [hbv]
          clear hbv HF
          go_wp2_with fail
          go_ret
          exact ⟨ret_bool HV.out.symm, HB.out⟩
    · have h1' : ((n : Int) == 1) = false := by simp; omega
      have h1'' : ((n : Int) != 1) = true := by simp; omega
      have HF := hide (HNO.out _ HB.out (fun h => by have := HKD.out h; have := HIL.out; omega))
      clear HNO HKD HID HOK
      go_enter Try.func50, Try.ntmps50
      go_wp2_with fail
      go_ret
      exact HF.out
  have q3 : (kd == 3) = false := by simpa using h3
  by_cases h6 : kd = 6
  case pos =>
    subst h6
    by_cases h1 : n = 1
    · subst h1
      have HG := hide (HOK.out (by have := HIL.out; omega))
      clear HKD HOK
      go_enter Try.func50, Try.ntmps50
      go_wp2_with fail
      go_loop [31] (fun s31 => ∃ k : Nat, s31 = .int .i64 (k : Int) ∧ k ≤ 1 ∧ Hid (∀ j (h : j < I.length), j < k → I[j] ≠ 0)) (fun s31 => 1 - (intOf s31).toNat)
      case atStart => exact ⟨0, rfl, by omega, hide (fun j _ h => by omega)⟩
      case round =>
        obtain ⟨k, rfl, hk, HK⟩ := hrel
        by_cases hlt : k < 1
        · have hlt' : (k : Int) < 1 := by omega
          obtain ⟨b1, f1, hl1, rfl, hb1, c1⟩ := hI1.at_ hlt
          have HZ := hide (HID.out k hl1)
          have HY : Hid (I[k] ≠ 0 → ∀ j (h : j < I.length), j < k + 1 → I[j] ≠ 0) := hide (fun h0 j h h1 => by
            rcases Nat.lt_or_eq_of_le (Nat.le_of_lt_succ h1) with h3 | rfl
            · exact HK.out j h h3
            · exact h0)
          clear HK HID
          obtain ⟨v, hv0⟩ : ∃ v, I[k] = v := ⟨_, rfl⟩
          rw [hv0] at c1 HZ HY
          clear hv0
          by_cases hv : v = 0
          · have HF := hide (HNO.out _ HB.out (HZ.out hv))
            clear HZ HY HNO
            subst hv
            go_wp2_with fail
            go_ret
            exact HF.out
          · have hv' : (v == 0) = false := by simpa using hv
            have HF := hide (HY.out hv)
            clear HZ HY
            go_wp2_with fail
            go_round
            case rel => exact ⟨k + 1, by go_num, by omega, HF⟩
            case measure => simp [intOf]; omega
        · obtain rfl : k = 1 := by omega
          have HF := hide (HG.out (fun j h => HK.out j h (by have := HIL.out; omega)))
          clear HG HK HID HNO
          go_wp2_with fail
          refine (refPath_any s _ hsz).mono ?_
          rintro e w2 ⟨rfl, rfl⟩
          rw [← HF.out]
          obtain ⟨bv, hbv⟩ : ∃ bv, decide (Nx.Ent.Ok ⟨path, 6, I⟩) = bv := ⟨_, rfl⟩
          have HV := hide hbv
          rw [hbv]
          clear hbv HF
          go_wp2_with fail
          go_ret
          exact ⟨ret_bool HV.out.symm, HB.out⟩
    · have h1' : ((n : Int) == 1) = false := by simp; omega
      have h1'' : ((n : Int) != 1) = true := by simp; omega
      have HF := hide (HNO.out _ HB.out (fun h => by have := HKD.out h; have := HIL.out; omega))
      clear HNO HKD HID HOK
      go_enter Try.func50, Try.ntmps50
      go_wp2_with fail
      go_ret
      exact HF.out
  have q6 : (kd == 6) = false := by simpa using h6
  by_cases h8 : kd = 8
  case pos =>
    subst h8
    by_cases h1 : n = 1
    · subst h1
      have HG := hide (HOK.out (by have := HIL.out; omega))
      clear HKD HOK
      go_enter Try.func50, Try.ntmps50
      go_wp2_with fail
      go_loop [31] (fun s31 => ∃ k : Nat, s31 = .int .i64 (k : Int) ∧ k ≤ 1 ∧ Hid (∀ j (h : j < I.length), j < k → I[j] ≠ 0)) (fun s31 => 1 - (intOf s31).toNat)
      case atStart => exact ⟨0, rfl, by omega, hide (fun j _ h => by omega)⟩
      case round =>
        obtain ⟨k, rfl, hk, HK⟩ := hrel
        by_cases hlt : k < 1
        · have hlt' : (k : Int) < 1 := by omega
          obtain ⟨b1, f1, hl1, rfl, hb1, c1⟩ := hI1.at_ hlt
          have HZ := hide (HID.out k hl1)
          have HY : Hid (I[k] ≠ 0 → ∀ j (h : j < I.length), j < k + 1 → I[j] ≠ 0) := hide (fun h0 j h h1 => by
            rcases Nat.lt_or_eq_of_le (Nat.le_of_lt_succ h1) with h3 | rfl
            · exact HK.out j h h3
            · exact h0)
          clear HK HID
          obtain ⟨v, hv0⟩ : ∃ v, I[k] = v := ⟨_, rfl⟩
          rw [hv0] at c1 HZ HY
          clear hv0
          by_cases hv : v = 0
          · have HF := hide (HNO.out _ HB.out (HZ.out hv))
            clear HZ HY HNO
            subst hv
            go_wp2_with fail
            go_ret
            exact HF.out
          · have hv' : (v == 0) = false := by simpa using hv
            have HF := hide (HY.out hv)
            clear HZ HY
            go_wp2_with fail
            go_round
            case rel => exact ⟨k + 1, by go_num, by omega, HF⟩
            case measure => simp [intOf]; omega
        · obtain rfl : k = 1 := by omega
          have HF := hide (HG.out (fun j h => HK.out j h (by have := HIL.out; omega)))
          clear HG HK HID HNO
          go_wp2_with fail
          refine (refPath_any s _ hsz).mono ?_
          rintro e w2 ⟨rfl, rfl⟩
          rw [← HF.out]
          obtain ⟨bv, hbv⟩ : ∃ bv, decide (Nx.Ent.Ok ⟨path, 8, I⟩) = bv := ⟨_, rfl⟩
          have HV := hide hbv
          rw [hbv]
          clear hbv HF
          go_wp2_with fail
          go_ret
          exact ⟨ret_bool HV.out.symm, HB.out⟩
    · have h1' : ((n : Int) == 1) = false := by simp; omega
      have h1'' : ((n : Int) != 1) = true := by simp; omega
      have HF := hide (HNO.out _ HB.out (fun h => by have := HKD.out h; have := HIL.out; omega))
      clear HNO HKD HID HOK
      go_enter Try.func50, Try.ntmps50
      go_wp2_with fail
      go_ret
      exact HF.out
  have q8 : (kd == 8) = false := by simpa using h8
  by_cases h9 : kd = 9
  case pos =>
    subst h9
    by_cases h1 : n = 1
    · subst h1
      have HG := hide (HOK.out (by have := HIL.out; omega))
      clear HKD HOK
      go_enter Try.func50, Try.ntmps50
      go_wp2_with fail
      go_loop [31] (fun s31 => ∃ k : Nat, s31 = .int .i64 (k : Int) ∧ k ≤ 1 ∧ Hid (∀ j (h : j < I.length), j < k → I[j] ≠ 0)) (fun s31 => 1 - (intOf s31).toNat)
      case atStart => exact ⟨0, rfl, by omega, hide (fun j _ h => by omega)⟩
      case round =>
        obtain ⟨k, rfl, hk, HK⟩ := hrel
        by_cases hlt : k < 1
        · have hlt' : (k : Int) < 1 := by omega
          obtain ⟨b1, f1, hl1, rfl, hb1, c1⟩ := hI1.at_ hlt
          have HZ := hide (HID.out k hl1)
          have HY : Hid (I[k] ≠ 0 → ∀ j (h : j < I.length), j < k + 1 → I[j] ≠ 0) := hide (fun h0 j h h1 => by
            rcases Nat.lt_or_eq_of_le (Nat.le_of_lt_succ h1) with h3 | rfl
            · exact HK.out j h h3
            · exact h0)
          clear HK HID
          obtain ⟨v, hv0⟩ : ∃ v, I[k] = v := ⟨_, rfl⟩
          rw [hv0] at c1 HZ HY
          clear hv0
          by_cases hv : v = 0
          · have HF := hide (HNO.out _ HB.out (HZ.out hv))
            clear HZ HY HNO
            subst hv
            go_wp2_with fail
            go_ret
            exact HF.out
          · have hv' : (v == 0) = false := by simpa using hv
            have HF := hide (HY.out hv)
            clear HZ HY
            go_wp2_with fail
            go_round
            case rel => exact ⟨k + 1, by go_num, by omega, HF⟩
            case measure => simp [intOf]; omega
        · obtain rfl : k = 1 := by omega
          have HF := hide (HG.out (fun j h => HK.out j h (by have := HIL.out; omega)))
          clear HG HK HID HNO
          go_wp2_with fail
          refine (refPath_any s _ hsz).mono ?_
          rintro e w2 ⟨rfl, rfl⟩
          rw [← HF.out]
          obtain ⟨bv, hbv⟩ : ∃ bv, decide (Nx.Ent.Ok ⟨path, 9, I⟩) = bv := ⟨_, rfl⟩
          have HV := hide hbv
          rw [hbv]
          clear hbv HF
          go_wp2_with fail
          go_ret
          exact ⟨ret_bool HV.out.symm, HB.out⟩
    · have h1' : ((n : Int) == 1) = false := by simp; omega
      have h1'' : ((n : Int) != 1) = true := by simp; omega
      have HF := hide (HNO.out _ HB.out (fun h => by have := HKD.out h; have := HIL.out; omega))
      clear HNO HKD HID HOK
      go_enter Try.func50, Try.ntmps50
      go_wp2_with fail
      go_ret
      exact HF.out
  have q9 : (kd == 9) = false := by simpa using h9
  by_cases h2 : kd = 2
  case pos =>
    subst h2
    by_cases h1 : n < 1
    · have h1' : (n : Int) < 1 := by omega
      have HF := hide (HNO.out _ HB.out (fun h => by have := HKD.out h; have := HIL.out; omega))
      clear HNO HKD HID HOK
      go_enter Try.func50, Try.ntmps50
      go_wp2_with fail
      go_ret
      exact HF.out
    · have h1' : ¬ (n : Int) < 1 := by omega
      by_cases h16 : 16 < n
      · have h16' : (16 : Int) < (n : Int) := by omega
        have HF := hide (HNO.out _ HB.out (fun h => by have := HKD.out h; have := HIL.out; omega))
        clear HNO HKD HID HOK
        go_enter Try.func50, Try.ntmps50
        go_wp2_with fail
        go_ret
        exact HF.out
      · have h16' : ¬ (16 : Int) < (n : Int) := by omega
        have HG := hide (HOK.out (by have := HIL.out; omega))
        clear HKD HOK
        go_enter Try.func50, Try.ntmps50
        go_wp2_with fail
        go_loop [31] (fun s31 => ∃ k : Nat, s31 = .int .i64 (k : Int) ∧ k ≤ n ∧ Hid (∀ j (h : j < I.length), j < k → I[j] ≠ 0)) (fun s31 => n - (intOf s31).toNat)
        case atStart => exact ⟨0, rfl, by omega, hide (fun j _ h => by omega)⟩
        case round =>
          obtain ⟨k, rfl, hk, HK⟩ := hrel
          by_cases hlt : k < n
          · have hlt' : (k : Int) < (n : Int) := by omega
            obtain ⟨b1, f1, hl1, rfl, hb1, c1⟩ := hI1.at_ hlt
            have HZ := hide (HID.out k hl1)
            have HY : Hid (I[k] ≠ 0 → ∀ j (h : j < I.length), j < k + 1 → I[j] ≠ 0) := hide (fun h0 j h h1 => by
              rcases Nat.lt_or_eq_of_le (Nat.le_of_lt_succ h1) with h3 | rfl
              · exact HK.out j h h3
              · exact h0)
            clear HK HID
            obtain ⟨v, hv0⟩ : ∃ v, I[k] = v := ⟨_, rfl⟩
            rw [hv0] at c1 HZ HY
            clear hv0
            by_cases hv : v = 0
            · have HF := hide (HNO.out _ HB.out (HZ.out hv))
              clear HZ HY HNO
              subst hv
              go_wp2_with fail
              go_ret
              exact HF.out
            · have hv' : (v == 0) = false := by simpa using hv
              have HF := hide (HY.out hv)
              clear HZ HY
              go_wp2_with fail
              go_round
              case rel => exact ⟨k + 1, by go_num, by omega, HF⟩
              case measure => simp [intOf]; omega
          · obtain rfl : k = n := by omega
            have HF := hide (HG.out (fun j h => HK.out j h (by have := HIL.out; omega)))
            clear HG HK HID HNO
            go_wp2_with fail
            refine (refPath_any s _ hsz).mono ?_
            rintro e w2 ⟨rfl, rfl⟩
            rw [← HF.out]
            obtain ⟨bv, hbv⟩ : ∃ bv, decide (Nx.Ent.Ok ⟨path, 2, I⟩) = bv := ⟨_, rfl⟩
            have HV := hide hbv
            rw [hbv]
            clear hbv HF
            go_wp2_with fail
            go_ret
            exact ⟨ret_bool HV.out.symm, HB.out⟩
  have q2 : (kd == 2) = false := by simpa using h2
  have HF := hide (HNO.out _ HB.out (fun h => by have := HKD.out h; have := HIL.out; omega))
  clear HNO HKD HID HOK
  go_enter Try.func50, Try.ntmps50
  go_wp2_with fail
  go_ret
  exact HF.out

theorem entry_any (x : Nm) (B : Nat) (I : List Int) (W : World) (hI : Nums .u64 W B x.ids.A x.ids.n I) (hB : B ≤ W.heap.size) (hn : x.ids.n ≤ 9223372036854775807) (hp : x.path.length ≤ 9223372036854775807) : Calls Try.prog 50 #[nma x] W (SomeAns W) :=
  (refEntry_any x B I W hI hB hn hp).mono fun _ _ h => ⟨_, h⟩
/-- Entries, loaded and stored whole. -/
def nc (x : Nm) : Array Value := #[.string ⟨x.path.toArray⟩, .int .i64 x.kind, .slice x.ids.A x.ids.n x.ids.c]
theorem nc_one (x : Nm) : (nc x).all (·.oneCell') = true := by simp [nc, Value.oneCell']
section
variable {ops : Array Oper} {rest : List Oper} {o : Oper} {a : Act} {w : World} {Q : Exit → Act → World → Prop}
theorem load_nm (hgd : o.guard = none) (x : Operand) (ho : o.op = .load 56 x) {g : Nat} (hx : a.eval x = .pointer (some ⟨g, 0, none⟩)) {y : Nm} {t : TypeId} (h : Obl w g t (nc y))
    (hK : wpList Try.prog ops Q rest (a.put o.dst (.agg (nc y))) w) : wpList Try.prog ops Q (o :: rest) a w :=
  wpList_load_row hgd _ x ho g hx t (nc y) (0, 0) _ h Try.underlying56 rfl nmSize hK
theorem store_nm (hgd : o.guard = none) (x y : Operand) (ho : o.op = .store 56 x y) {g : Nat} (hx : a.eval x = .pointer (some ⟨g, 0, none⟩)) {c : Nm} (hy : a.eval y = .agg (nc c)) {old : Array Value} {t : TypeId} (h : Obl w g t old) (hold : old.size = 3)
    (hK : wpList Try.prog ops Q rest (a.put o.dst undef) (w.setRow g (nc c))) : wpList Try.prog ops Q (o :: rest) a w :=
  wpList_store_row hgd _ x y ho g (nc c) hx hy t old h nmSize hold (nc_one c) hK
theorem exec_load_nm {x : Operand} (ho : o.op = .load 56 x) {g : Nat} (hx : a.eval x = .pointer (some ⟨g, 0, none⟩)) {t : TypeId} {y : Nm} (h : Obl w g t (nc y)) :
    (execOp a.eval o).run Try.prog w = .ok (.value (.agg (nc y))) w := exec_load_row ho hx h rfl Try.underlying56 nmSize
theorem ret_nm {fn : Func} {p : Tmp} (hr : fn.results = #[.cell p 56]) (tmps : Array Value) {g : Nat} (hp : tmps.getD p undef = .pointer (some ⟨g, 0, none⟩)) {y : Nm} {t : TypeId} (h : Obl w g t (nc y)) :
    (results fn tmps).run Try.prog w = .ok (.agg (nc y)) w := results_cell_1 hr tmps hp h Try.underlying56 rfl nmSize
theorem ret_nm2 {fn : Func} {p u : Tmp} (hr : fn.results = #[.cell p 56, .tmp u]) (tmps : Array Value) {g : Nat} (hp : tmps.getD p undef = .pointer (some ⟨g, 0, none⟩)) {y : Nm} {t : TypeId} (h : Obl w g t (nc y)) :
    (results fn tmps).run Try.prog w = .ok (.tuple #[.agg (nc y), tmps.getD u undef]) w := results_cell_2 hr tmps hp h Try.underlying56 rfl nmSize
end
/-- An entry that came back, its identifiers copied. -/
def CopiedIs (x : Nm) (I : List Int) (w : World) (e : Ending) (w' : World) : Prop := ∃ A c, e = .returned (.agg (nc ⟨x.path, x.kind, ⟨A, x.ids.n, c⟩⟩)) ∧ w'.ownsRow w.heap.size 22 1 (.slice A x.ids.n c) x.ids.n (nv .u64 I) ∧ Below w.heap.size w w'
def CopiedPost (x : Nm) (w : World) (e : Ending) (w' : World) : Prop := ∃ A c I, e = .returned (.agg (nc ⟨x.path, x.kind, ⟨A, x.ids.n, c⟩⟩)) ∧ w'.ownsRow w.heap.size 22 1 (.slice A x.ids.n c) x.ids.n (nv .u64 I) ∧ Below w.heap.size w w'
set_option maxRecDepth 100000 in
set_option maxHeartbeats 4000000 in
theorem copiedIs_any (x : Nm) (B : Nat) (I : List Int) (W : World) (hI : Nums .u64 W B x.ids.A x.ids.n I) (hB : B ≤ W.heap.size) (hn : x.ids.n ≤ 1000) : Calls Try.prog 54 #[.agg (nc x)] W (CopiedIs x I W) := by
  obtain ⟨path, kd, ids⟩ := x
  obtain ⟨A, n, c⟩ := ids
  simp only at hI hn
  obtain ⟨w1, hw, O, OR, hb, hs⟩ : ∃ w1, (W.alloc (.cells (nc ⟨path, kd, ⟨A, n, c⟩⟩) 56)).alloc (.cells #[.string ⟨#[]⟩, .int .i64 0, .slice none 0 0] 56) = w1 ∧ Obl w1 W.heap.size 56 (nc ⟨path, kd, ⟨A, n, c⟩⟩) ∧ Obl w1 (W.heap.size + 1) 56 #[.string ⟨#[]⟩, .int .i64 0, .slice none 0 0] ∧ Below W.heap.size W w1 ∧ w1.heap.size = W.heap.size + 2 := by
    refine ⟨_, rfl, (Obl.make W _ _).alloc _, ?_, ((Below.refl _ _).alloc (Nat.le_refl _) _).alloc (by simp) _, by simp⟩
    have := Obl.make (W.alloc (.cells (nc ⟨path, kd, ⟨A, n, c⟩⟩) 56)) 56 #[.string ⟨#[]⟩, .int .i64 0, .slice none 0 0]
    rwa [World.size_alloc] at this
  have HB := hide hb
  have hI1 := hI.belowLe hb hB
  have k2 : w1.cell? ⟨W.heap.size, 2, none⟩ = some (.slice A n c) := O.cell 2
  have hIl := hI.1
  clear hb hI
  go_enter Try.func54, Try.ntmps54
  go_wp2_with (first | (at_builtin; refine wpList_append_rd rfl _ _ _ rfl idTy (A := none) (n := 0) (c := 0) (xs := []) (base := w1.heap.size) rfl own_none (S := A) (m := n) (d := c) (news := nv .u64 I) rfl hI1.2 (nv_one _ _) (by unfold maxLen; omega) (by omega) (Nat.le_refl _) ?_; intro A3 c3 w3 hown3 hg3 _; have hb3 := below_none hg3; have O3 := O.below hb3 O.lt; have OR3 := OR.below hb3 OR.lt; have z3 := O3.free 2; have k3 : w3.cell? ⟨W.heap.size, 2, none⟩ = some (.slice A n c) := O3.cell 2; rw [Nat.zero_add, List.nil_append] at hown3; have O4 : Obl (w3.setCell ⟨W.heap.size, 2, none⟩ (.slice A3 n c3)) W.heap.size 56 (nc ⟨path, kd, ⟨A3, n, c3⟩⟩) := O3.put 2 _; have OR4 := OR3.put_other (b' := W.heap.size) (by omega) 2 (.slice A3 n c3); have HO4 := hide (own_keep hown3 (keep_put (m := W.heap.size) (by omega) 2 (.slice A3 n c3))); have HB4 := hide ((HB.out.trans (hb3.mono (by omega))).setCell (p := ⟨W.heap.size, 2, none⟩) (Nat.le_refl _) (.slice A3 n c3)); obtain ⟨w4, hw4⟩ : ∃ w4, w3.setCell ⟨W.heap.size, 2, none⟩ (.slice A3 n c3) = w4 := ⟨_, rfl⟩; rw [hw4] at O4 OR4 HO4 HB4; clear hown3 O3 OR3 hb3 hg3) | (refine load_nm rfl _ rfl rfl O4 ?_) | (refine store_nm rfl _ _ rfl rfl (c := ⟨path, kd, ⟨A3, n, c3⟩⟩) rfl OR4 rfl ?_) | fail)
  refine bodyPost_ret (ret_nm rfl _ rfl (OR4.row_same _)) rfl ?_
  exact ⟨A3, c3, rfl, own_weaken (own_keep HO4.out (keep_row (m := W.heap.size + 1) (by omega) _)) (by omega), below_row HB4.out (by omega) _⟩
theorem copied_any (x : Nm) (B : Nat) (I : List Int) (W : World) (hI : Nums .u64 W B x.ids.A x.ids.n I) (hB : B ≤ W.heap.size) (hn : x.ids.n ≤ 1000) : Calls Try.prog 54 #[.agg (nc x)] W (CopiedPost x W) :=
  (copiedIs_any x B I W hI hB hn).mono fun _ _ ⟨A, c, he, ho, hb⟩ => ⟨A, c, I, he, ho, hb⟩
end Go.Proofs.Ytddbohnappogkaa
