/- A region that draws its order, by what holds between its operations: one step for each operation, whatever has been done before. Nothing of the program. -/
import Derived.Test.YtcgiobffobonpaaLib
import Derived.OrdersHeld
import Derived.RegionTactic
namespace Go.Proofs.Ytcgiobffobonpaa
open Go.RowKit

/-- Each operation waits for earlier ones alone. -/
def upward (md : Region.Mode) (ops : Array Oper) : Bool := (List.range ops.size).all fun i => match ops[i]? with
  | some o => o.after.all fun e => !(Region.binds md e) || decide (e.on < i)
  | none => true
section
variable {P : Program} {ops : Array Oper} {Q : Exit → Act → World → Prop} {md : Region.Mode}
theorem upward_spec (h : upward md ops = true) {i : Nat} {o : Oper} (hi : ops[i]? = some o) {e : Edge} (he : e ∈ o.after) (hb : Region.binds md e = true) : e.on < i := by
  have hlt : i < ops.size := by
    rcases Nat.lt_or_ge i ops.size with h' | h'
    · exact h'
    · simp [Array.getElem?_eq_none h'] at hi
  have h1 := List.all_eq_true.1 h i (List.mem_range.2 hlt)
  rw [hi] at h1
  have h2 := Array.all_eq_true'.1 h1 e he
  simpa [hb] using h2
/-- What has been done, and i. -/
def also (dn : Nat → Bool) (i : Nat) : Nat → Bool := fun j => if j = i then true else dn j
theorem also_same (dn : Nat → Bool) (i : Nat) : also dn i i = true := by simp [also]
theorem also_ne {dn : Nat → Bool} {i j : Nat} (h : also dn i j = true) (hne : j ≠ i) : dn j = true := by simpa [also, hne] using h
theorem wpAny_I {Inv : (Nat → Bool) → Act → World → Prop} (hup : upward md ops = true)
    (hstep : ∀ (dn : Nat → Bool) (a : Act) (w : World) (i : Nat) (o : Oper), Inv dn a w → dn i = false → ops[i]? = some o → (∀ e ∈ o.after, Region.binds md e = true → dn e.on = true) →
      Region.wanted o (yielded ops a.tmps) = true ∧ ∀ K : Act → World → Prop, (∀ a' w', Inv (also dn i) a' w' → K a' w') → o.wp P a w K Q)
    (hend : ∀ (dn : Nat → Bool) (a : Act) (w : World), Inv dn a w → (∀ i, i < ops.size → dn i = true) → Q .normal a w) :
    ∀ (fuel : Nat) (listed : Array Bool) (a : Act) (w : World), listed.size = ops.size → listed.toList.count false ≤ fuel → Inv (fun j => listed.getD j false) a w → wpAny P md ops Q fuel listed a w := by
  have all_of : ∀ (listed : Array Bool), listed.size = ops.size → Region.ready md ops listed = [] → ∀ i, i < ops.size → listed.getD i false = true := by
    intro listed hs hr i
    induction i using Nat.strongRecOn with
    | ind i ih =>
      intro hi
      rcases Bool.eq_false_or_eq_true (listed.getD i false) with h | h
      · exact h
      · exfalso
        have hm : i ∈ Region.ready md ops listed := mem_ready.2 ⟨by
          have hi' : i < listed.size := by omega
          simp [Array.getD, hi'] at h ⊢
          exact h, ops[i], by simp [hi], fun e he hb => ih e.on (upward_spec hup (by simp [hi]) he hb) (by have := upward_spec hup (i := i) (by simp [hi]) he hb; omega)⟩
        rw [hr] at hm
        cases hm
  intro fuel
  induction fuel with
  | zero =>
    intro listed a w hs hc hI
    have h0 : ∀ i, i < ops.size → listed.getD i false = true := fun i hi => by
      have hi' : i < listed.size := by omega
      have : listed.toList.count false = 0 := by omega
      have hn := List.count_eq_zero.1 this
      rcases Bool.eq_false_or_eq_true (listed.getD i false) with h | h
      · exact h
      · exfalso
        apply hn
        simp [Array.getD, hi'] at h
        rw [← h]
        exact Array.getElem_mem_toList hi'
    refine ⟨?_, hend _ a w hI h0⟩
    rcases hr : Region.ready md ops listed with _ | ⟨j, r⟩
    · rfl
    · exfalso
      have hj : j ∈ Region.ready md ops listed := by rw [hr]; simp
      obtain ⟨h1, o, ho, _⟩ := mem_ready.1 hj
      have hjs : j < ops.size := by
        rcases Nat.lt_or_ge j ops.size with h' | h'
        · exact h'
        · simp [Array.getElem?_eq_none h'] at ho
      have h2 := h0 j hjs
      have hj' : j < listed.size := by omega
      simp [Array.getD, hj'] at h1 h2
      rw [h1] at h2
      cases h2
  | succ fuel ih =>
    intro listed a w hs hc hI
    refine ⟨fun hr => hend _ a w hI (all_of listed hs hr), fun i hi => ?_⟩
    obtain ⟨h1, o, ho, hall⟩ := mem_ready.1 hi
    have his : i < ops.size := by
      rcases Nat.lt_or_ge i ops.size with h' | h'
      · exact h'
      · simp [Array.getElem?_eq_none h'] at ho
    have hi' : i < listed.size := by omega
    obtain ⟨hw, hwp⟩ := hstep _ a w i o hI (by simp [Array.getD, hi'] at h1 ⊢; exact h1) ho hall
    unfold wpOp
    rw [ho]
    simp only [hw, if_true]
    refine .inl (hwp _ fun a' w' hI' => ih _ a' w' (by simpa using hs) ?_ ?_)
    · have hf : listed.toList[i]'(by simpa using hi') = false := by simpa [Array.getD, hi'] using h1
      have hcs := List.count_set (a := true) (b := false) (l := listed.toList) (i := i) (by simpa using hi')
      have hpos : 0 < listed.toList.count false := by
        apply List.count_pos_iff.2
        rw [← hf]
        exact List.getElem_mem _
      rw [Array.toList_setIfInBounds, hcs, hf]
      show listed.toList.count false - 1 + 0 ≤ fuel
      omega
    · have : (fun j => (listed.setIfInBounds i true).getD j false) = also (fun j => listed.getD j false) i := by
        funext j
        unfold also
        by_cases hj : j = i
        · subst hj
          simp [Array.getD, hi']
        · rw [if_neg hj, getD_set_ne false (fun e => hj e.symm)]
      rw [this]
      exact hI'
theorem wp_yield {o : Oper} {a : Act} {w w' : World} {K : Act → World → Prop} {v : Value} (hr : (execOp a.eval o).run P w = .ok (.value v) w') (hK : K (a.put o.dst v) w') : o.wp P a w K Q := by
  unfold Oper.wp
  rw [hr]
  exact hK
theorem wp_enter {o : Oper} {a : Act} {w : World} {K : Act → World → Prop} {f : FuncId} {args : Array Value} {R : Ending → World → Prop} (hr : (execOp a.eval o).run P w = .ok (.enter f args) w) (hc : Calls P f args w R) (hK : ∀ e w', R e w' → ∃ v, e = .returned v ∧ K (a.put o.dst v) w') : o.wp P a w K Q := by
  unfold Oper.wp
  rw [hr]
  refine hc.mono fun e w' h => ?_
  obtain ⟨v, rfl, hk⟩ := hK e w' h
  exact hk
theorem region_I {Inv : (Nat → Bool) → Act → World → Prop} {id : Nat} {a : Act} {w : World} (hm : P.follows .mixedOrders = true) (hup : upward .any ops = true) (h0 : Inv (fun _ => false) a w.drew)
    (hstep : ∀ (dn : Nat → Bool) (a : Act) (w : World) (i : Nat) (o : Oper), Inv dn a w → dn i = false → ops[i]? = some o → (∀ e ∈ o.after, Region.binds .any e = true → dn e.on = true) →
      Region.wanted o (yielded ops a.tmps) = true ∧ ∀ K : Act → World → Prop, (∀ a' w', Inv (also dn i) a' w' → K a' w') → o.wp P a w K Q)
    (hend : ∀ (dn : Nat → Bool) (a : Act) (w : World), Inv dn a w → (∀ i, i < ops.size → dn i = true) → Q .normal a w) : (Code.region id ops true).wp P Q a w := by
  refine wp_region_any hm (wpAny_I hup hstep hend ops.size _ a _ (by simp) (by simp) ?_)
  have : (fun j => (Array.replicate ops.size false).getD j false) = fun _ => false := by
    funext j
    by_cases hj : j < ops.size <;> simp [Array.getD, hj]
  rw [this]
  exact h0
end
end Go.Proofs.Ytcgiobffobonpaa
