/- XRegionC's words, where a step may also change one block, bx. Nothing of the program. | A region that draws its order, by what holds between its operations: one step for each operation, whatever has been done before. Nothing of the program. -/
import Derived.Test.YtddbohnappogkaaBel
import Derived.Test.YtddbohnappogkaaRegionX
import Derived.Test.YtddbohnappogkaaLib
import Derived.OrdersHeld
import Derived.RegionTactic
namespace Go.Proofs.Ytddbohnappogkaa
open Go.RowKit

section
variable {P : Program} {ops : Array Oper} {Q : Exit → Act → World → Prop} {md : Region.Mode} {B bx : Nat} {ex : List Nat}

def wpAnyD (B bx : Nat) (ex : List Nat) (P : Program) (md : Region.Mode) (ops : Array Oper) (Q : Exit → Act → World → Prop) : Nat → Array Bool → Act → World → Prop
  | 0, listed, a, w => Region.ready md ops listed = [] ∧ Q .normal a w
  | fuel + 1, listed, a, w =>
    (Region.ready md ops listed = [] → Q .normal a w) ∧
    ∀ i ∈ Region.ready md ops listed, wpOp P ops Q i (fun a' w' => (ex.contains i = false → Bel B bx w w') ∧ wpAnyD B bx ex P md ops Q fuel (listed.setIfInBounds i true) a' w') a w

theorem wpAny_of_D : ∀ (fuel : Nat) (listed : Array Bool) (a : Act) (w : World), wpAnyD B bx ex P md ops Q fuel listed a w → wpAny P md ops Q fuel listed a w
  | 0, _, _, _, h => h
  | fuel + 1, _, _, _, h => ⟨h.1, fun i hi => wpOp_mono (fun a' w' h' => wpAny_of_D fuel _ a' w' h'.2) (h.2 i hi)⟩

theorem wpAnyD_first {i : Nat} {oi : Oper} {v : Value} {D : List Nat} (hi : ops[i]? = some oi) (hsel : ∀ (j : Nat) (o : Oper) cs b, ops[j]? = some o → o.op ≠ .select cs b)
    (hQ : ∀ c a w, Q (.panic c) (a.put oi.dst v) w → Q (.panic c) a w) (w0 : World)
    (hDe : ∀ j oj, ops[j]? = some oj → D.contains j = true → j ≠ i → ∃ e ∈ oj.after, Region.binds md e = true ∧ D.contains e.on = true) :
    ∀ (fuel : Nat) (listed : Array Bool) (a : Act) (w : World),
      (∀ j oj, ops[j]? = some oj → j ≠ i → listed.getD j true = false → (∀ e ∈ oj.after, Region.binds md e = true → e.on ≠ i) → oi.apart ops oj = true) →
      (∀ j, D.contains j = true → listed.getD j true = false) →
      (∀ j oj, ops[j]? = some oj → listed.getD j true = false → D.contains j = false → ex.contains j = false) →
      D.contains i = true →
      i ∈ Region.ready md ops listed → YieldsIf P ops (Bel B bx w0) oi v a → Bel B bx w0 w →
      wpAnyD B bx ex P md ops Q fuel (listed.setIfInBounds i true) (a.put oi.dst v) w → wpAnyD B bx ex P md ops Q (fuel + 1) listed a w := by
  intro fuel
  induction fuel with
  | zero =>
    intro listed a w _ _ _ _ hr hy hS H
    refine ⟨fun h => (by rw [h] at hr; cases hr), fun j hj => ?_⟩
    by_cases hji : j = i
    · subst hji; exact hy.wpOp hi hS ⟨fun _ => Bel.refl _ _ _, H⟩
    · have := ready_mono hj hji
      rw [H.1] at this
      cases this
  | succ fuel ih =>
    intro listed a w hfree hDu hDS hDi hr hy hS H
    refine ⟨fun h => (by rw [h] at hr; cases hr), fun j hj => ?_⟩
    by_cases hji : j = i
    · subst hji; exact hy.wpOp hi hS ⟨fun _ => Bel.refl _ _ _, H⟩
    · have h1 := H.2 j (ready_mono hj hji)
      obtain ⟨hjun, oj, hoj, hall⟩ := mem_ready.1 hj
      have hjD : D.contains j = false := by
        cases hc : D.contains j with
        | false => rfl
        | true =>
          exfalso
          obtain ⟨e, he, hb, hD⟩ := hDe j oj hoj hc hji
          have h1 := hall e he hb
          have h0 := hDu _ hD
          rcases Nat.lt_or_ge e.on listed.size with h' | h'
          · simp [h'] at h0 h1; rw [h0] at h1; cases h1
          · simp [Array.getElem?_eq_none h'] at h0
      have hnot : ∀ e ∈ oj.after, Region.binds md e = true → e.on ≠ i := fun e he hb heq => by
        have h1 := hall e he hb
        have h0 := (mem_ready.1 hr).1
        rw [heq] at h1
        rcases Nat.lt_or_ge i listed.size with h' | h'
        · simp [h'] at h0 h1; rw [h0] at h1; cases h1
        · simp [Array.getElem?_eq_none h'] at h0
      have h2 := wpOp_putIf hoj (hfree j oj hoj hji hjun hnot) (fun cs b => hsel i oi cs b hi) (fun cs b => hsel j oj cs b hoj) hQ hy h1
      have hfree' : ∀ k ok, ops[k]? = some ok → k ≠ i → (listed.setIfInBounds j true).getD k true = false →
          (∀ e ∈ ok.after, Region.binds md e = true → e.on ≠ i) → oi.apart ops ok = true := fun k ok hk hki hun hno => by
        refine hfree k ok hk hki ?_ hno
        by_cases hjk : j = k
        · subst hjk; exact hjun
        · rw [getD_set_ne true hjk] at hun; exact hun
      have hDu' : ∀ k, D.contains k = true → (listed.setIfInBounds j true).getD k true = false := fun k hk => by
        have hjk : j ≠ k := fun e => by rw [← e, hjD] at hk; cases hk
        rw [getD_set_ne true hjk]
        exact hDu k hk
      have hDS' : ∀ k ok, ops[k]? = some ok → (listed.setIfInBounds j true).getD k true = false → D.contains k = false → ex.contains k = false := fun k ok hok hk hDk => by
        refine hDS k ok hok ?_ hDk
        by_cases hjk : j = k
        · subst hjk; exact hjun
        · rw [getD_set_ne true hjk] at hk; exact hk
      refine wpOp_mono (fun a' w' h3 => ⟨h3.2.1, ih (listed.setIfInBounds j true) a' w' hfree' hDu' hDS' hDi (ready_mono hr (Ne.symm hji)) h3.1 (hS.trans (h3.2.1 (hDS j oj hoj hjun hjD))) ?_⟩) h2
      rw [Array.setIfInBounds_comm _ _ hji]
      exact h3.2.2

theorem takeD (i : Nat) (D : List Nat) {oi : Oper} {v : Value} {fuel : Nat} {listed : Array Bool} {a : Act} {w : World} (hi : ops[i]? = some oi) (hm : mayFirstC md ops listed ex D i = true)
    (hQ : ∀ c a w, Q (.panic c) (a.put oi.dst v) w → Q (.panic c) a w) (hw : Region.wanted oi (yielded ops a.tmps) = true) (hy : ∀ w', Bel B bx w w' → (execOp a.eval oi).run P w' = .ok (.value v) w')
    (h : wpAnyD B bx ex P md ops Q fuel (listed.setIfInBounds i true) (a.put oi.dst v) w) : wpAnyD B bx ex P md ops Q (fuel + 1) listed a w := by
  simp only [mayFirstC, Bool.and_eq_true] at hm
  obtain ⟨m1, m2, m3, m4, m5, m6, m7⟩ := hm
  refine wpAnyD_first hi (Region.noSelect_spec m1) hQ w (D := D) ?_ fuel listed a w (Region.free_spec hi m2) ?_ ?_ m4 (by simpa using m3) (.inl ⟨hw, hy⟩) (Bel.refl _ _ _) h
  · intro j oj hj hD hji
    have hjs : j < ops.size := by
      rcases Nat.lt_or_ge j ops.size with h' | h'
      · exact h'
      · simp [Array.getElem?_eq_none h'] at hj
    have := List.all_eq_true.1 m6 j (List.mem_range.2 hjs)
    rw [hD, hj] at this
    have hne : (j != i) = true := by simpa using hji
    rw [hne] at this
    simp only [Bool.and_self, Bool.not_true, Bool.false_or, Option.any_some] at this
    rw [Array.any_eq_true'] at this
    obtain ⟨e, he, hb⟩ := this
    simp only [Bool.and_eq_true] at hb
    exact ⟨e, he, hb.1, hb.2⟩
  · intro j hD
    have := List.all_eq_true.1 m5 j (by simpa using hD)
    simpa using this
  · intro j oj hj hun hD
    have hjs : j < ops.size := by
      rcases Nat.lt_or_ge j ops.size with h' | h'
      · exact h'
      · simp [Array.getElem?_eq_none h'] at hj
    have := List.all_eq_true.1 m7 j (List.mem_range.2 hjs)
    rw [hun, hD] at this
    simpa using this

/-- Operation i is the only one that may come up. -/
theorem onlyD (i : Nat) {oi : Oper} {fuel : Nat} {listed : Array Bool} {a : Act} {w : World} (hi : ops[i]? = some oi) (hr : Region.ready md ops listed = [i]) (hw : Region.wanted oi (yielded ops a.tmps) = true)
    (h : ∀ K : Act → World → Prop, (∀ a' w', (ex.contains i = false → Bel B bx w w') → wpAnyD B bx ex P md ops Q fuel (listed.setIfInBounds i true) a' w' → K a' w') → oi.wp P a w K Q) : wpAnyD B bx ex P md ops Q (fuel + 1) listed a w := by
  refine ⟨fun h0 => (by rw [hr] at h0; cases h0), fun j hj => ?_⟩
  rw [hr] at hj
  have hji : j = i := by simpa using hj
  subst hji
  unfold wpOp
  rw [hi]
  simp only [hw, if_true]
  exact .inl (h _ fun a' w' hl hh => ⟨hl, hh⟩)
/-- These may come up, and no other. -/
theorem twoD (i j : Nat) {oi oj : Oper} {fuel : Nat} {listed : Array Bool} {a : Act} {w : World} (hi : ops[i]? = some oi) (hj : ops[j]? = some oj) (hr : Region.ready md ops listed = [i, j]) (hwi : Region.wanted oi (yielded ops a.tmps) = true) (hwj : Region.wanted oj (yielded ops a.tmps) = true)
    (ki : ∀ K : Act → World → Prop, (∀ a' w', (ex.contains i = false → Bel B bx w w') → wpAnyD B bx ex P md ops Q fuel (listed.setIfInBounds i true) a' w' → K a' w') → oi.wp P a w K Q)
    (kj : ∀ K : Act → World → Prop, (∀ a' w', (ex.contains j = false → Bel B bx w w') → wpAnyD B bx ex P md ops Q fuel (listed.setIfInBounds j true) a' w' → K a' w') → oj.wp P a w K Q) : wpAnyD B bx ex P md ops Q (fuel + 1) listed a w := by
  refine ⟨fun h0 => (by rw [hr] at h0; cases h0), fun x hx => ?_⟩
  rw [hr] at hx
  simp only [List.mem_cons, List.not_mem_nil, or_false] at hx
  rcases hx with rfl | rfl
  · unfold wpOp
    rw [hi]
    simp only [hwi, if_true]
    exact .inl (ki _ fun a' w' hl hh => ⟨hl, hh⟩)
  · unfold wpOp
    rw [hj]
    simp only [hwj, if_true]
    exact .inl (kj _ fun a' w' hl hh => ⟨hl, hh⟩)
/-- These may come up, and no other. -/
theorem threeD (i j l : Nat) {oi oj ol : Oper} {fuel : Nat} {listed : Array Bool} {a : Act} {w : World} (hi : ops[i]? = some oi) (hj : ops[j]? = some oj) (hl : ops[l]? = some ol) (hr : Region.ready md ops listed = [i, j, l]) (hwi : Region.wanted oi (yielded ops a.tmps) = true) (hwj : Region.wanted oj (yielded ops a.tmps) = true) (hwl : Region.wanted ol (yielded ops a.tmps) = true)
    (ki : ∀ K : Act → World → Prop, (∀ a' w', (ex.contains i = false → Bel B bx w w') → wpAnyD B bx ex P md ops Q fuel (listed.setIfInBounds i true) a' w' → K a' w') → oi.wp P a w K Q)
    (kj : ∀ K : Act → World → Prop, (∀ a' w', (ex.contains j = false → Bel B bx w w') → wpAnyD B bx ex P md ops Q fuel (listed.setIfInBounds j true) a' w' → K a' w') → oj.wp P a w K Q)
    (kl : ∀ K : Act → World → Prop, (∀ a' w', (ex.contains l = false → Bel B bx w w') → wpAnyD B bx ex P md ops Q fuel (listed.setIfInBounds l true) a' w' → K a' w') → ol.wp P a w K Q) : wpAnyD B bx ex P md ops Q (fuel + 1) listed a w := by
  refine ⟨fun h0 => (by rw [hr] at h0; cases h0), fun x hx => ?_⟩
  rw [hr] at hx
  simp only [List.mem_cons, List.not_mem_nil, or_false] at hx
  rcases hx with rfl | rfl | rfl
  · unfold wpOp
    rw [hi]
    simp only [hwi, if_true]
    exact .inl (ki _ fun a' w' hl hh => ⟨hl, hh⟩)
  · unfold wpOp
    rw [hj]
    simp only [hwj, if_true]
    exact .inl (kj _ fun a' w' hl hh => ⟨hl, hh⟩)
  · unfold wpOp
    rw [hl]
    simp only [hwl, if_true]
    exact .inl (kl _ fun a' w' hl hh => ⟨hl, hh⟩)
theorem doneD {fuel : Nat} {listed : Array Bool} {a : Act} {w : World} (hr : Region.ready md ops listed = []) (h : Q .normal a w) : wpAnyD B bx ex P md ops Q fuel listed a w := by
  cases fuel with
  | zero => exact ⟨hr, h⟩
  | succ fuel => exact ⟨fun _ => h, by rw [hr]; simp⟩
theorem wpAnyD_free {i : Nat} {oi : Oper} {v : Value} (hi : ops[i]? = some oi) (hsel : ∀ (j : Nat) (o : Oper) cs b, ops[j]? = some o → o.op ≠ .select cs b)
    (hQ : ∀ c a w, Q (.panic c) (a.put oi.dst v) w → Q (.panic c) a w) :
    ∀ (fuel : Nat) (listed : Array Bool) (a : Act) (w : World),
      (∀ j oj, ops[j]? = some oj → j ≠ i → listed.getD j true = false → (∀ e ∈ oj.after, Region.binds md e = true → e.on ≠ i) → oi.apart ops oj = true) →
      i ∈ Region.ready md ops listed → YieldsIf P ops (fun _ => True) oi v a →
      wpAnyD B bx ex P md ops Q fuel (listed.setIfInBounds i true) (a.put oi.dst v) w → wpAnyD B bx ex P md ops Q (fuel + 1) listed a w := by
  intro fuel
  induction fuel with
  | zero =>
    intro listed a w _ hr hy H
    refine ⟨fun h => (by rw [h] at hr; cases hr), fun j hj => ?_⟩
    by_cases hji : j = i
    · subst hji; exact hy.wpOp hi trivial ⟨fun _ => Bel.refl _ _ _, H⟩
    · have := ready_mono hj hji
      rw [H.1] at this
      cases this
  | succ fuel ih =>
    intro listed a w hfree hr hy H
    refine ⟨fun h => (by rw [h] at hr; cases hr), fun j hj => ?_⟩
    by_cases hji : j = i
    · subst hji; exact hy.wpOp hi trivial ⟨fun _ => Bel.refl _ _ _, H⟩
    · have h1 := H.2 j (ready_mono hj hji)
      obtain ⟨hjun, oj, hoj, hall⟩ := mem_ready.1 hj
      have hnot : ∀ e ∈ oj.after, Region.binds md e = true → e.on ≠ i := fun e he hb heq => by
        have h1 := hall e he hb
        have h0 := (mem_ready.1 hr).1
        rw [heq] at h1
        rcases Nat.lt_or_ge i listed.size with h' | h'
        · simp [h'] at h0 h1; rw [h0] at h1; cases h1
        · simp [Array.getElem?_eq_none h'] at h0
      have h2 := wpOp_putIf hoj (hfree j oj hoj hji hjun hnot) (fun cs b => hsel i oi cs b hi) (fun cs b => hsel j oj cs b hoj) hQ hy h1
      have hfree' : ∀ k ok, ops[k]? = some ok → k ≠ i → (listed.setIfInBounds j true).getD k true = false →
          (∀ e ∈ ok.after, Region.binds md e = true → e.on ≠ i) → oi.apart ops ok = true := fun k ok hk hki hun hno => by
        refine hfree k ok hk hki ?_ hno
        by_cases hjk : j = k
        · subst hjk; exact hjun
        · rw [getD_set_ne true hjk] at hun; exact hun
      refine wpOp_mono (fun a' w' h3 => ⟨h3.2.1, ih (listed.setIfInBounds j true) a' w' hfree' (ready_mono hr (Ne.symm hji)) h3.1 ?_⟩) h2
      rw [Array.setIfInBounds_comm _ _ hji]
      exact h3.2.2

theorem takeDX (i : Nat) {oi : Oper} {v : Value} {fuel : Nat} {listed : Array Bool} {a : Act} {w : World} (hi : ops[i]? = some oi) (hm : mayFirstB md ops listed i = true)
    (hQ : ∀ c a w, Q (.panic c) (a.put oi.dst v) w → Q (.panic c) a w) (hw : Region.wanted oi (yielded ops a.tmps) = true) (hy : ∀ w', (execOp a.eval oi).run P w' = .ok (.value v) w')
    (h : wpAnyD B bx ex P md ops Q fuel (listed.setIfInBounds i true) (a.put oi.dst v) w) : wpAnyD B bx ex P md ops Q (fuel + 1) listed a w := by
  simp only [mayFirstB, Bool.and_eq_true] at hm
  exact wpAnyD_free hi (Region.noSelect_spec hm.1.1) hQ fuel listed a w (Region.free_spec hi hm.1.2) (by simpa using hm.2) (.inl ⟨hw, fun w' _ => hy w'⟩) h
/-- More may be asked. -/
theorem raiseD {B' : Nat} (hB : B ≤ B') : ∀ (fuel : Nat) (listed : Array Bool) (a : Act) (w : World), wpAnyD B' bx ex P md ops Q fuel listed a w → wpAnyD B bx ex P md ops Q fuel listed a w
  | 0, _, _, _, h => h
  | fuel + 1, _, _, _, h => ⟨h.1, fun i hi => wpOp_mono (fun a' w' h' => ⟨fun he => (h'.1 he).mono hB, raiseD hB fuel _ a' w' h'.2⟩) (h.2 i hi)⟩
theorem region_D {id : Nat} {a : Act} {w : World} (hm : P.follows .mixedOrders = true) (B bx : Nat) (ex : List Nat) (h : wpAnyD B bx ex P .any ops Q ops.size (Array.replicate ops.size false) a w.drew) : (Code.region id ops true).wp P Q a w :=
  wp_region_any hm (wpAny_of_D _ _ _ _ h)
end
end Go.Proofs.Ytddbohnappogkaa
namespace Go.Proofs.Ytddbohnappogkaa
open Go.RowKit

/-- Each operation waits for earlier ones alone. -/
def upward (md : Region.Mode) (ops : Array Oper) : Bool := (List.range ops.size).all fun i => match ops[i]? with
  | some o => o.after.all fun e => !(Region.binds md e) || decide (e.on < i)
  | none => true
section
variable {P : Program} {ops : Array Oper} {Q : Exit → Act → World → Prop} {md : Region.Mode}
theorem upward_spec (h : upward md ops = true) {i : Nat} {o : Oper} (hi : ops[i]? = some o) {e : Edge} (he : e ∈ o.after) (hb : Region.binds md e = true) : e.on < i := by
  have hlt : i < ops.size := by
    rcases Nat.lt_or_ge i ops.size with h' | h'
    · exact h'
    · simp [Array.getElem?_eq_none h'] at hi
  have h1 := List.all_eq_true.1 h i (List.mem_range.2 hlt)
  rw [hi] at h1
  have h2 := Array.all_eq_true'.1 h1 e he
  simpa [hb] using h2
/-- What has been done, and i. -/
def also (dn : Nat → Bool) (i : Nat) : Nat → Bool := fun j => if j = i then true else dn j
theorem also_same (dn : Nat → Bool) (i : Nat) : also dn i i = true := by simp [also]
theorem also_ne {dn : Nat → Bool} {i j : Nat} (h : also dn i j = true) (hne : j ≠ i) : dn j = true := by simpa [also, hne] using h
theorem wpAny_I {Inv : (Nat → Bool) → Act → World → Prop} (hup : upward md ops = true)
    (hstep : ∀ (dn : Nat → Bool) (a : Act) (w : World) (i : Nat) (o : Oper), Inv dn a w → dn i = false → ops[i]? = some o → (∀ e ∈ o.after, Region.binds md e = true → dn e.on = true) →
      Region.wanted o (yielded ops a.tmps) = true ∧ ∀ K : Act → World → Prop, (∀ a' w', Inv (also dn i) a' w' → K a' w') → o.wp P a w K Q)
    (hend : ∀ (dn : Nat → Bool) (a : Act) (w : World), Inv dn a w → (∀ i, i < ops.size → dn i = true) → Q .normal a w) :
    ∀ (fuel : Nat) (listed : Array Bool) (a : Act) (w : World), listed.size = ops.size → listed.toList.count false ≤ fuel → Inv (fun j => listed.getD j false) a w → wpAny P md ops Q fuel listed a w := by
  have all_of : ∀ (listed : Array Bool), listed.size = ops.size → Region.ready md ops listed = [] → ∀ i, i < ops.size → listed.getD i false = true := by
    intro listed hs hr i
    induction i using Nat.strongRecOn with
    | ind i ih =>
      intro hi
      rcases Bool.eq_false_or_eq_true (listed.getD i false) with h | h
      · exact h
      · exfalso
        have hm : i ∈ Region.ready md ops listed := mem_ready.2 ⟨by
          have hi' : i < listed.size := by omega
          simp [Array.getD, hi'] at h ⊢
          exact h, ops[i], by simp [hi], fun e he hb => ih e.on (upward_spec hup (by simp [hi]) he hb) (by have := upward_spec hup (i := i) (by simp [hi]) he hb; omega)⟩
        rw [hr] at hm
        cases hm
  intro fuel
  induction fuel with
  | zero =>
    intro listed a w hs hc hI
    have h0 : ∀ i, i < ops.size → listed.getD i false = true := fun i hi => by
      have hi' : i < listed.size := by omega
      have : listed.toList.count false = 0 := by omega
      have hn := List.count_eq_zero.1 this
      rcases Bool.eq_false_or_eq_true (listed.getD i false) with h | h
      · exact h
      · exfalso
        apply hn
        simp [Array.getD, hi'] at h
        rw [← h]
        exact Array.getElem_mem_toList hi'
    refine ⟨?_, hend _ a w hI h0⟩
    rcases hr : Region.ready md ops listed with _ | ⟨j, r⟩
    · rfl
    · exfalso
      have hj : j ∈ Region.ready md ops listed := by rw [hr]; simp
      obtain ⟨h1, o, ho, _⟩ := mem_ready.1 hj
      have hjs : j < ops.size := by
        rcases Nat.lt_or_ge j ops.size with h' | h'
        · exact h'
        · simp [Array.getElem?_eq_none h'] at ho
      have h2 := h0 j hjs
      have hj' : j < listed.size := by omega
      simp [Array.getD, hj'] at h1 h2
      rw [h1] at h2
      cases h2
  | succ fuel ih =>
    intro listed a w hs hc hI
    refine ⟨fun hr => hend _ a w hI (all_of listed hs hr), fun i hi => ?_⟩
    obtain ⟨h1, o, ho, hall⟩ := mem_ready.1 hi
    have his : i < ops.size := by
      rcases Nat.lt_or_ge i ops.size with h' | h'
      · exact h'
      · simp [Array.getElem?_eq_none h'] at ho
    have hi' : i < listed.size := by omega
    obtain ⟨hw, hwp⟩ := hstep _ a w i o hI (by simp [Array.getD, hi'] at h1 ⊢; exact h1) ho hall
    unfold wpOp
    rw [ho]
    simp only [hw, if_true]
    refine .inl (hwp _ fun a' w' hI' => ih _ a' w' (by simpa using hs) ?_ ?_)
    · have hf : listed.toList[i]'(by simpa using hi') = false := by simpa [Array.getD, hi'] using h1
      have hcs := List.count_set (a := true) (b := false) (l := listed.toList) (i := i) (by simpa using hi')
      have hpos : 0 < listed.toList.count false := by
        apply List.count_pos_iff.2
        rw [← hf]
        exact List.getElem_mem _
      rw [Array.toList_setIfInBounds, hcs, hf]
      show listed.toList.count false - 1 + 0 ≤ fuel
      omega
    · have : (fun j => (listed.setIfInBounds i true).getD j false) = also (fun j => listed.getD j false) i := by
        funext j
        unfold also
        by_cases hj : j = i
        · subst hj
          simp [Array.getD, hi']
        · rw [if_neg hj, getD_set_ne false (fun e => hj e.symm)]
      rw [this]
      exact hI'
theorem wp_yield {o : Oper} {a : Act} {w w' : World} {K : Act → World → Prop} {v : Value} (hr : (execOp a.eval o).run P w = .ok (.value v) w') (hK : K (a.put o.dst v) w') : o.wp P a w K Q := by
  unfold Oper.wp
  rw [hr]
  exact hK
theorem wp_enter {o : Oper} {a : Act} {w : World} {K : Act → World → Prop} {f : FuncId} {args : Array Value} {R : Ending → World → Prop} (hr : (execOp a.eval o).run P w = .ok (.enter f args) w) (hc : Calls P f args w R) (hK : ∀ e w', R e w' → ∃ v, e = .returned v ∧ K (a.put o.dst v) w') : o.wp P a w K Q := by
  unfold Oper.wp
  rw [hr]
  refine hc.mono fun e w' h => ?_
  obtain ⟨v, rfl, hk⟩ := hK e w' h
  exact hk
theorem region_I {Inv : (Nat → Bool) → Act → World → Prop} {id : Nat} {a : Act} {w : World} (hm : P.follows .mixedOrders = true) (hup : upward .any ops = true) (h0 : Inv (fun _ => false) a w.drew)
    (hstep : ∀ (dn : Nat → Bool) (a : Act) (w : World) (i : Nat) (o : Oper), Inv dn a w → dn i = false → ops[i]? = some o → (∀ e ∈ o.after, Region.binds .any e = true → dn e.on = true) →
      Region.wanted o (yielded ops a.tmps) = true ∧ ∀ K : Act → World → Prop, (∀ a' w', Inv (also dn i) a' w' → K a' w') → o.wp P a w K Q)
    (hend : ∀ (dn : Nat → Bool) (a : Act) (w : World), Inv dn a w → (∀ i, i < ops.size → dn i = true) → Q .normal a w) : (Code.region id ops true).wp P Q a w := by
  refine wp_region_any hm (wpAny_I hup hstep hend ops.size _ a _ (by simp) (by simp) ?_)
  have : (fun j => (Array.replicate ops.size false).getD j false) = fun _ => false := by
    funext j
    by_cases hj : j < ops.size <;> simp [Array.getD, hj]
  rw [this]
  exact h0
end
end Go.Proofs.Ytddbohnappogkaa
