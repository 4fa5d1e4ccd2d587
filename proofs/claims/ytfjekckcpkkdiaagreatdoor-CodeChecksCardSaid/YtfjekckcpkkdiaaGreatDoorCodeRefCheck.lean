/- Layer 4, the document's own answer to Check: contracts. -/
import Derived.Test.YtfjekckcpkkdiaaGreatDoorCodeCheck
namespace Go.Proofs.YtfjekckcpkkdiaaGreatDoor
open Go.RowKit

/-- A name and the letters of operands. -/
def FormPost (o : Cd.Opn) (w : World) (e : Ending) (w' : World) : Prop := e = .returned (.tuple #[.string ⟨o.name.toArray⟩, .string ⟨o.form.toArray⟩]) ∧ Below w.heap.size w w'
theorem names_at {k : Nat} (hk : k < 13) : (sv (Cd.tbl.map (·.name)))[k]? = some (.string ⟨(Cd.opn (k : Int)).name.toArray⟩) := by
  rw [sv_at (by rw [List.length_map]; exact hk), List.getElem_map, Cd.opn_nat k hk]
  rfl
theorem forms_at {k : Nat} (hk : k < 13) : (sv (Cd.tbl.map (·.form)))[k]? = some (.string ⟨(Cd.opn (k : Int)).form.toArray⟩) := by
  rw [sv_at (by rw [List.length_map]; exact hk), List.getElem_map, Cd.opn_nat k hk]
  rfl
theorem opn_none {op : Int} (h : op < 0 ∨ 12 < op) : Cd.opn op = Cd.none_ := by unfold Cd.opn; rw [if_neg (by omega)]

set_option maxRecDepth 100000 in
set_option maxHeartbeats 1000000 in
theorem form_any (op : Int) (w : World) : Calls Tryz.prog 33 #[.int .i64 op] w (FormPost (Cd.opn op) w) := by
  by_cases h0 : op < 0
  · rw [opn_none (.inl h0)]
    go_enter Tryz.func33, Tryz.ntmps33
    go_wp2
    go_ret2
    refine ⟨rfl, ?_⟩
    go_grown
  · by_cases h12 : 12 < op
    · rw [opn_none (.inr h12)]
      go_enter Tryz.func33, Tryz.ntmps33
      go_wp2
      go_ret2
      refine ⟨rfl, ?_⟩
      go_grown
    · obtain ⟨k, rfl⟩ := Int.eq_ofNat_of_zero_le (show 0 ≤ op by omega)
      have hk : k < 13 := by omega
      have c1 : ((w.alloc (.cells #[.string ⟨#[110, 111, 112]⟩, .string ⟨#[115, 101, 116]⟩, .string ⟨#[109, 111, 118, 101]⟩, .string ⟨#[97, 100, 100]⟩, .string ⟨#[115, 117, 98]⟩, .string ⟨#[109, 117, 108]⟩, .string ⟨#[108, 101, 115, 115]⟩, .string ⟨#[101, 113, 117, 97, 108]⟩, .string ⟨#[106, 117, 109, 112]⟩, .string ⟨#[105, 102]⟩, .string ⟨#[108, 111, 97, 100]⟩, .string ⟨#[115, 116, 111, 114, 101]⟩, .string ⟨#[99, 97, 108, 108]⟩] 9)).alloc (.cells #[.string ⟨#[]⟩, .string ⟨#[114, 110]⟩, .string ⟨#[114, 114]⟩, .string ⟨#[114, 114, 114]⟩, .string ⟨#[114, 114, 114]⟩, .string ⟨#[114, 114, 114]⟩, .string ⟨#[114, 114, 114]⟩, .string ⟨#[114, 114, 114]⟩, .string ⟨#[116]⟩, .string ⟨#[114, 116]⟩, .string ⟨#[114, 114, 110]⟩, .string ⟨#[114, 114, 110]⟩, .string ⟨#[110]⟩] 9)).cell? ⟨w.heap.size, k, none⟩ = some (.string ⟨(Cd.opn (k : Int)).name.toArray⟩) := by
        refine (((Obl.make w 9 (sv (Cd.tbl.map (·.name))).toArray).alloc (.cells #[.string ⟨#[]⟩, .string ⟨#[114, 110]⟩, .string ⟨#[114, 114]⟩, .string ⟨#[114, 114, 114]⟩, .string ⟨#[114, 114, 114]⟩, .string ⟨#[114, 114, 114]⟩, .string ⟨#[114, 114, 114]⟩, .string ⟨#[114, 114, 114]⟩, .string ⟨#[116]⟩, .string ⟨#[114, 116]⟩, .string ⟨#[114, 114, 110]⟩, .string ⟨#[114, 114, 110]⟩, .string ⟨#[110]⟩] 9)).cell k).trans ?_
        rw [List.getElem?_toArray, names_at hk]
      have c2 : ((w.alloc (.cells #[.string ⟨#[110, 111, 112]⟩, .string ⟨#[115, 101, 116]⟩, .string ⟨#[109, 111, 118, 101]⟩, .string ⟨#[97, 100, 100]⟩, .string ⟨#[115, 117, 98]⟩, .string ⟨#[109, 117, 108]⟩, .string ⟨#[108, 101, 115, 115]⟩, .string ⟨#[101, 113, 117, 97, 108]⟩, .string ⟨#[106, 117, 109, 112]⟩, .string ⟨#[105, 102]⟩, .string ⟨#[108, 111, 97, 100]⟩, .string ⟨#[115, 116, 111, 114, 101]⟩, .string ⟨#[99, 97, 108, 108]⟩] 9)).alloc (.cells #[.string ⟨#[]⟩, .string ⟨#[114, 110]⟩, .string ⟨#[114, 114]⟩, .string ⟨#[114, 114, 114]⟩, .string ⟨#[114, 114, 114]⟩, .string ⟨#[114, 114, 114]⟩, .string ⟨#[114, 114, 114]⟩, .string ⟨#[114, 114, 114]⟩, .string ⟨#[116]⟩, .string ⟨#[114, 116]⟩, .string ⟨#[114, 114, 110]⟩, .string ⟨#[114, 114, 110]⟩, .string ⟨#[110]⟩] 9)).cell? ⟨w.heap.size + 1, k, none⟩ = some (.string ⟨(Cd.opn (k : Int)).form.toArray⟩) := by
        have h := (Obl.make (w.alloc (.cells #[.string ⟨#[110, 111, 112]⟩, .string ⟨#[115, 101, 116]⟩, .string ⟨#[109, 111, 118, 101]⟩, .string ⟨#[97, 100, 100]⟩, .string ⟨#[115, 117, 98]⟩, .string ⟨#[109, 117, 108]⟩, .string ⟨#[108, 101, 115, 115]⟩, .string ⟨#[101, 113, 117, 97, 108]⟩, .string ⟨#[106, 117, 109, 112]⟩, .string ⟨#[105, 102]⟩, .string ⟨#[108, 111, 97, 100]⟩, .string ⟨#[115, 116, 111, 114, 101]⟩, .string ⟨#[99, 97, 108, 108]⟩] 9)) 9 (sv (Cd.tbl.map (·.form))).toArray).cell k
        rw [List.getElem?_toArray, forms_at hk] at h
        rw [show (w.alloc (.cells #[.string ⟨#[110, 111, 112]⟩, .string ⟨#[115, 101, 116]⟩, .string ⟨#[109, 111, 118, 101]⟩, .string ⟨#[97, 100, 100]⟩, .string ⟨#[115, 117, 98]⟩, .string ⟨#[109, 117, 108]⟩, .string ⟨#[108, 101, 115, 115]⟩, .string ⟨#[101, 113, 117, 97, 108]⟩, .string ⟨#[106, 117, 109, 112]⟩, .string ⟨#[105, 102]⟩, .string ⟨#[108, 111, 97, 100]⟩, .string ⟨#[115, 116, 111, 114, 101]⟩, .string ⟨#[99, 97, 108, 108]⟩] 9)).heap.size = w.heap.size + 1 by simp] at h
        exact h
      unfold FormPost
      generalize (⟨(Cd.opn (k : Int)).name.toArray⟩ : ByteArray) = nm at *
      generalize (⟨(Cd.opn (k : Int)).form.toArray⟩ : ByteArray) = f at *
      go_enter Tryz.func33, Tryz.ntmps33
      go_wp2_with (go_quiet (fail))
      all_goals
        go_ret2
        refine ⟨rfl, ?_⟩
        first | (go_grown; done) | (refine below_drewN ?_ _; go_grown)

def refNum (op n : Int) : Bool := if op = 1 then decide (-9007199254740992 ≤ n) && decide (n ≤ 9007199254740992) else if op = 12 then decide (1 ≤ n) && decide (n ≤ 24) else decide (0 ≤ n) && decide (n ≤ 256)
set_option maxHeartbeats 1000000 in
theorem refNum_any (op n : Int) (w : World) : Calls Tryz.prog 51 #[.int .i64 op, .int .i64 n] w fun e w' => e = .returned (.bool (refNum op n)) ∧ w = w' := by
  by_cases h1 : op = 1
  · subst h1
    by_cases h : -9007199254740992 ≤ n
    · have hr : refNum 1 n = decide (n ≤ 9007199254740992) := by unfold refNum; rw [if_pos rfl, decide_eq_true h]; rfl
      rw [hr]
      clear hr
      go_enter Tryz.func51, Tryz.ntmps51
      go_wp2
      go_ret
      exact ⟨rfl, rfl⟩
    · have hr : refNum 1 n = false := by unfold refNum; rw [if_pos rfl, decide_eq_false h]; rfl
      rw [hr]
      clear hr
      go_enter Tryz.func51, Tryz.ntmps51
      go_wp2
      go_ret
      exact ⟨rfl, rfl⟩
  · have e1 : (op == 1) = false := by simpa using h1
    by_cases h2 : op = 12
    · subst h2
      by_cases h : 1 ≤ n
      · have hr : refNum 12 n = decide (n ≤ 24) := by unfold refNum; rw [if_neg (by omega), if_pos rfl, decide_eq_true h]; rfl
        rw [hr]
        clear hr
        go_enter Tryz.func51, Tryz.ntmps51
        go_wp2
        go_ret
        exact ⟨rfl, rfl⟩
      · have hr : refNum 12 n = false := by unfold refNum; rw [if_neg (by omega), if_pos rfl, decide_eq_false h]; rfl
        rw [hr]
        clear hr
        go_enter Tryz.func51, Tryz.ntmps51
        go_wp2
        go_ret
        exact ⟨rfl, rfl⟩
    · have e2 : (op == 12) = false := by simpa using h2
      by_cases h : 0 ≤ n
      · have hr : refNum op n = decide (n ≤ 256) := by unfold refNum; rw [if_neg h1, if_neg h2, decide_eq_true h]; rfl
        rw [hr]
        clear hr
        go_enter Tryz.func51, Tryz.ntmps51
        go_wp2
        go_ret
        exact ⟨rfl, rfl⟩
      · have hr : refNum op n = false := by unfold refNum; rw [if_neg h1, if_neg h2, decide_eq_false h]; rfl
        rw [hr]
        clear hr
        go_enter Tryz.func51, Tryz.ntmps51
        go_wp2
        go_ret
        exact ⟨rfl, rfl⟩

/-- The letters are three, and the references' numbers are the table's. -/
theorem letters {op : Int} (h0 : 0 ≤ op) (h1 : op ≤ 12) : ∀ c ∈ (Cd.opn op).form, c = 114 ∨ c = 116 ∨ c = 110 := Cd.opn_cases (q := fun o => ∀ c ∈ o.form, c = 114 ∨ c = 116 ∨ c = 110) (by decide) h0 h1
theorem num_bounds (k : Nat) (hk : k < 13) (h : (110 : UInt8) ∈ (Cd.opn (k : Int)).form) (v : Int) : refNum (k : Int) v = (decide ((Cd.opn (k : Int)).least ≤ v) && decide (v ≤ (Cd.opn (k : Int)).most)) := by
  have key : ∀ k : Fin 13, (110 : UInt8) ∈ (Cd.opn ((k : Nat) : Int)).form → ((k : Nat) = 1 ∧ (Cd.opn ((k : Nat) : Int)).least = -9007199254740992 ∧ (Cd.opn ((k : Nat) : Int)).most = 9007199254740992) ∨ ((k : Nat) = 12 ∧ (Cd.opn ((k : Nat) : Int)).least = 1 ∧ (Cd.opn ((k : Nat) : Int)).most = 24) ∨ (((k : Nat) ≠ 1 ∧ (k : Nat) ≠ 12) ∧ (Cd.opn ((k : Nat) : Int)).least = 0 ∧ (Cd.opn ((k : Nat) : Int)).most = 256) := by decide
  unfold refNum
  rcases key ⟨k, hk⟩ h with ⟨e, e1, e2⟩ | ⟨e, e1, e2⟩ | ⟨⟨e, e'⟩, e1, e2⟩
  · simp only at e e1 e2
    rw [e1, e2, if_pos (by omega)]
  · simp only at e e1 e2
    rw [e1, e2, if_neg (by omega), if_pos (by omega)]
  · simp only at e e' e1 e2
    rw [e1, e2, if_neg (by omega), if_neg (by omega)]
theorem fits_at {nm f : List UInt8} {ls ms : Int} {n i : Nat} {v : Int} {c : UInt8} (h : f[i]? = some c) :
    Cd.fits ⟨nm, f, ls, ms⟩ n i v = if c = 114 then (decide (0 ≤ v) && decide (v ≤ 7)) else if c = 116 then (decide (0 ≤ v) && decide (v ≤ (n : Int))) else (decide (ls ≤ v) && decide (v ≤ ms)) := by
  unfold Cd.fits Cd.bnd
  simp only [h]
  split
  · rfl
  · split <;> rfl
theorem fits_end {nm f : List UInt8} {ls ms : Int} {n i : Nat} {v : Int} (h : f.length ≤ i) : Cd.fits ⟨nm, f, ls, ms⟩ n i v = decide (v = 0) := by
  unfold Cd.fits Cd.bnd
  rw [List.getElem?_eq_none h]
  simp only
  rw [← Bool.decide_and]
  exact decide_eq_decide.2 (by omega)
end Go.Proofs.YtfjekckcpkkdiaaGreatDoor
