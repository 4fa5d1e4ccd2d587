/- Layer 5: the map of the operations. (Written by tools/mkopers.py.) -/
import Derived.Test.YtkcegdnjgkideaaCpuComputing
namespace Go.Proofs.Ytkcegdnjgkideaa
open Go.RowKit Go.Maps

/-- What operation i does, whatever the instruction says of its operation. -/
def opf (i : Int) (c : Cp.Cpu) (x : Cd.Ins) : Cp.Cpu × Cp.Act := Cp.exec c ⟨i, x.a, x.b, x.c⟩
theorem named1 {x : Cd.Ins} (h : named 1 x = true) : Cp.isReg x.a = true := by unfold named at h; simpa using h
theorem named2 {x : Cd.Ins} (h : named 2 x = true) : Cp.isReg x.a = true ∧ Cp.isReg x.b = true := by unfold named at h; simpa using h
theorem named_0 (x : Cd.Ins) : named 0 x = true := rfl
theorem named_1 (x : Cd.Ins) : named 1 x = Cp.isReg x.a := by unfold named; simp
theorem named_2 (x : Cd.Ins) : named 2 x = (Cp.isReg x.a && Cp.isReg x.b) := by unfold named; simp
theorem named_3 (x : Cd.Ins) : named 3 x = (Cp.isReg x.a && (Cp.isReg x.b && Cp.isReg x.c)) := by unfold named; simp
theorem opf_0 : naming 0 (fun c _ => (Cp.stored c, Cp.done)) = opf 0 := by
  funext c x
  unfold naming opf Cp.exec
  rw [named_0]
  simp only [Int.reduceEq, Int.reduceLE, if_false, if_true, false_and]
theorem opf_1 : naming 1 (fun c x => (Cp.loaded c x.a x.b, Cp.done)) = opf 1 := by
  funext c x
  unfold naming opf Cp.exec
  rw [named_1]
  simp only [Int.reduceEq, Int.reduceLE, if_false, if_true, false_and]
theorem opf_2 : naming 2 (fun c x => (Cp.loaded c x.a (Cp.get c x.b), Cp.done)) = opf 2 := by
  funext c x
  unfold naming opf Cp.exec
  rw [named_2]
  simp only [Int.reduceEq, Int.reduceLE, if_false, if_true, false_and]
theorem opf_8 : naming 0 (fun c x => (⟨x.a, c.regs⟩, Cp.done)) = opf 8 := by
  funext c x
  unfold naming opf Cp.exec
  rw [named_0]
  simp only [Int.reduceEq, Int.reduceLE, if_false, if_true, and_false]
theorem opf_9 : naming 1 (fun c x => (if Cp.get c x.a = 0 then Cp.stored c else ⟨x.b, c.regs⟩, Cp.done)) = opf 9 := by
  funext c x
  unfold naming opf Cp.exec
  rw [named_1]
  have e : ∀ v, Cp.get c v = Cp.get c v := fun _ => rfl
  clear e
  simp only [Int.reduceEq, Int.reduceLE, if_false, if_true, and_false]
  cases hr : Cp.isReg x.a
  · simp
  · by_cases h : Cp.get c x.a = 0
    · simp [h]
    · simp [h]
theorem opf_10 : naming 2 (fun c x => (c, ⟨1, wrap64 (Cp.get c x.b + x.c), x.a, 0, 0, [0, 0, 0]⟩)) = opf 10 := by
  funext c x
  unfold naming opf Cp.exec
  rw [named_2]
  simp only [Int.reduceEq, Int.reduceLE, if_false, if_true, and_false]
theorem opf_11 : naming 2 (fun c x => (c, ⟨2, wrap64 (Cp.get c x.b + x.c), 0, Cp.get c x.a, 0, [0, 0, 0]⟩)) = opf 11 := by
  funext c x
  unfold naming opf Cp.exec
  rw [named_2]
  simp only [Int.reduceEq, Int.reduceLE, if_false, if_true, and_false]
theorem opf_12 : naming 0 (fun c x => (c, ⟨3, 0, 0, 0, x.a, [Cp.get c 1, Cp.get c 2, Cp.get c 3]⟩)) = opf 12 := by
  funext c x
  unfold naming opf Cp.exec
  rw [named_0]
  simp only [Int.reduceEq, Int.reduceLE, if_false, if_true, and_false]
theorem opf_3 : naming 3 (computing (fun a b => wrap64 (a + b))) = opf 3 := by
  funext c x
  unfold naming opf Cp.exec computing
  rw [named_3]
  simp only [Int.reduceEq, Int.reduceLE, if_false, if_true, and_self, Cp.two]
theorem opf_4 : naming 3 (computing (fun a b => wrap64 (a - b))) = opf 4 := by
  funext c x
  unfold naming opf Cp.exec computing
  rw [named_3]
  simp only [Int.reduceEq, Int.reduceLE, if_false, if_true, and_self, Cp.two]
theorem opf_5 : naming 3 (computing (fun a b => wrap64 (a * b))) = opf 5 := by
  funext c x
  unfold naming opf Cp.exec computing
  rw [named_3]
  simp only [Int.reduceEq, Int.reduceLE, if_false, if_true, and_self, Cp.two]
theorem opf_6 : naming 3 (computing (fun a b => if a < b then 1 else 0)) = opf 6 := by
  funext c x
  unfold naming opf Cp.exec computing
  rw [named_3]
  simp only [Int.reduceEq, Int.reduceLE, if_false, if_true, and_self, Cp.two]
theorem opf_7 : naming 3 (computing (fun a b => if a = b then 1 else 0)) = opf 7 := by
  funext c x
  unfold naming opf Cp.exec computing
  rw [named_3]
  simp only [Int.reduceEq, Int.reduceLE, if_false, if_true, and_self, Cp.two]
theorem code_0 (ar : Array Value) (u : World) : (callFunc 37 ar).run Try.prog u = .ok (.enter 37 ar) u := by kernel_rfl
theorem fit_0 : Fit (fun c _ => (Cp.stored c, Cp.done)) := fun c x h8 => by
  simp only
  refine ⟨?_, rfl⟩
  first | exact h8 | exact loaded_8 h8 _ _
theorem op2_0 (base : Nat) (w : World) : Op2 base w (.func (.func 37) #[] #[]) (fun _ _ => True) (fun c _ => (Cp.stored c, Cp.done)) := ⟨_, #[], [], rfl, code_0, by simp, fun u _ c x h8 _ => nop_any c x h8 u⟩
theorem code_1 (ar : Array Value) (u : World) : (callFunc 39 ar).run Try.prog u = .ok (.enter 39 ar) u := by kernel_rfl
theorem fit_1 : Fit (fun c x => (Cp.loaded c x.a x.b, Cp.done)) := fun c x h8 => by
  simp only
  refine ⟨?_, rfl⟩
  first | exact h8 | exact loaded_8 h8 _ _
theorem op2_1 (base : Nat) (w : World) : Op2 base w (.func (.func 39) #[] #[]) (fun _ _ => True) (fun c x => (Cp.loaded c x.a x.b, Cp.done)) := ⟨_, #[], [], rfl, code_1, by simp, fun u _ c x h8 _ => set_any c x h8 u⟩
theorem code_2 (ar : Array Value) (u : World) : (callFunc 40 ar).run Try.prog u = .ok (.enter 40 ar) u := by kernel_rfl
theorem fit_2 : Fit (fun c x => (Cp.loaded c x.a (Cp.get c x.b), Cp.done)) := fun c x h8 => by
  simp only
  refine ⟨?_, rfl⟩
  first | exact h8 | exact loaded_8 h8 _ _
theorem op2_2 (base : Nat) (w : World) : Op2 base w (.func (.func 40) #[] #[]) (fun _ x => named 2 x = true) (fun c x => (Cp.loaded c x.a (Cp.get c x.b), Cp.done)) := ⟨_, #[], [], rfl, code_2, by simp, fun u _ c x h8 h => move_any c x h8 (isReg_iff.1 (named2 h).2) u⟩
theorem code_8 (ar : Array Value) (u : World) : (callFunc 48 ar).run Try.prog u = .ok (.enter 48 ar) u := by kernel_rfl
theorem fit_8 : Fit (fun c x => (⟨x.a, c.regs⟩, Cp.done)) := fun c x h8 => by
  simp only
  refine ⟨?_, rfl⟩
  first | exact h8 | exact loaded_8 h8 _ _
theorem op2_8 (base : Nat) (w : World) : Op2 base w (.func (.func 48) #[] #[]) (fun _ _ => True) (fun c x => (⟨x.a, c.regs⟩, Cp.done)) := ⟨_, #[], [], rfl, code_8, by simp, fun u _ c x h8 _ => jump_any c x h8 u⟩
theorem code_9 (ar : Array Value) (u : World) : (callFunc 50 ar).run Try.prog u = .ok (.enter 50 ar) u := by kernel_rfl
theorem fit_9 : Fit (fun c x => (if Cp.get c x.a = 0 then Cp.stored c else ⟨x.b, c.regs⟩, Cp.done)) := fun c x h8 => by
  simp only
  refine ⟨?_, rfl⟩
  split <;> exact h8
theorem op2_9 (base : Nat) (w : World) : Op2 base w (.func (.func 50) #[] #[]) (fun _ x => named 1 x = true) (fun c x => (if Cp.get c x.a = 0 then Cp.stored c else ⟨x.b, c.regs⟩, Cp.done)) := ⟨_, #[], [], rfl, code_9, by simp, fun u _ c x h8 h => by
  by_cases hz : Cp.get c x.a = 0
  · simp only [hz, if_true]
    exact branch0_any c x h8 (isReg_iff.1 (named1 h)) hz u
  · simp only [hz, if_false]
    exact branch1_any c x h8 (isReg_iff.1 (named1 h)) hz u⟩
theorem code_10 (ar : Array Value) (u : World) : (callFunc 51 ar).run Try.prog u = .ok (.enter 51 ar) u := by kernel_rfl
theorem fit_10 : Fit (fun c x => (c, ⟨1, wrap64 (Cp.get c x.b + x.c), x.a, 0, 0, [0, 0, 0]⟩)) := fun c x h8 => by
  simp only
  refine ⟨?_, rfl⟩
  first | exact h8 | exact loaded_8 h8 _ _
theorem op2_10 (base : Nat) (w : World) : Op2 base w (.func (.func 51) #[] #[]) (fun _ x => named 2 x = true) (fun c x => (c, ⟨1, wrap64 (Cp.get c x.b + x.c), x.a, 0, 0, [0, 0, 0]⟩)) := ⟨_, #[], [], rfl, code_10, by simp, fun u _ c x h8 h => load_any c x h8 (isReg_iff.1 (named2 h).2) u⟩
theorem code_11 (ar : Array Value) (u : World) : (callFunc 52 ar).run Try.prog u = .ok (.enter 52 ar) u := by kernel_rfl
theorem fit_11 : Fit (fun c x => (c, ⟨2, wrap64 (Cp.get c x.b + x.c), 0, Cp.get c x.a, 0, [0, 0, 0]⟩)) := fun c x h8 => by
  simp only
  refine ⟨?_, rfl⟩
  first | exact h8 | exact loaded_8 h8 _ _
theorem op2_11 (base : Nat) (w : World) : Op2 base w (.func (.func 52) #[] #[]) (fun _ x => named 2 x = true) (fun c x => (c, ⟨2, wrap64 (Cp.get c x.b + x.c), 0, Cp.get c x.a, 0, [0, 0, 0]⟩)) := ⟨_, #[], [], rfl, code_11, by simp, fun u _ c x h8 h => store_any c x h8 (isReg_iff.1 (named2 h).1) (isReg_iff.1 (named2 h).2) u⟩
theorem code_12 (ar : Array Value) (u : World) : (callFunc 53 ar).run Try.prog u = .ok (.enter 53 ar) u := by kernel_rfl
theorem fit_12 : Fit (fun c x => (c, ⟨3, 0, 0, 0, x.a, [Cp.get c 1, Cp.get c 2, Cp.get c 3]⟩)) := fun c x h8 => by
  simp only
  refine ⟨?_, rfl⟩
  first | exact h8 | exact loaded_8 h8 _ _
theorem op2_12 (base : Nat) (w : World) : Op2 base w (.func (.func 53) #[] #[]) (fun _ _ => True) (fun c x => (c, ⟨3, 0, 0, 0, x.a, [Cp.get c 1, Cp.get c 2, Cp.get c 3]⟩)) := ⟨_, #[], [], rfl, code_12, by simp, fun u _ c x h8 _ => call_any c x h8 u⟩
theorem code_3 (ar : Array Value) (u : World) : (callFunc 42 ar).run Try.prog u = .ok (.enter 42 ar) u := by kernel_rfl
theorem fn2_3 : Fn2 (.func (.func 42) #[] #[]) (fun a b => wrap64 (a + b)) := ⟨_, rfl, code_3, fun a b u => add_any a b u⟩
theorem code_4 (ar : Array Value) (u : World) : (callFunc 43 ar).run Try.prog u = .ok (.enter 43 ar) u := by kernel_rfl
theorem fn2_4 : Fn2 (.func (.func 43) #[] #[]) (fun a b => wrap64 (a - b)) := ⟨_, rfl, code_4, fun a b u => sub_any a b u⟩
theorem code_5 (ar : Array Value) (u : World) : (callFunc 44 ar).run Try.prog u = .ok (.enter 44 ar) u := by kernel_rfl
theorem fn2_5 : Fn2 (.func (.func 44) #[] #[]) (fun a b => wrap64 (a * b)) := ⟨_, rfl, code_5, fun a b u => mul_any a b u⟩
theorem code_6 (ar : Array Value) (u : World) : (callFunc 45 ar).run Try.prog u = .ok (.enter 45 ar) u := by kernel_rfl
theorem fn2_6 : Fn2 (.func (.func 45) #[] #[]) (fun a b => if a < b then 1 else 0) := ⟨_, rfl, code_6, fun a b u => less_any a b u⟩
theorem code_7 (ar : Array Value) (u : World) : (callFunc 47 ar).run Try.prog u = .ok (.enter 47 ar) u := by kernel_rfl
theorem fn2_7 : Fn2 (.func (.func 47) #[] #[]) (fun a b => if a = b then 1 else 0) := ⟨_, rfl, code_7, fun a b u => equal_any a b u⟩

/-- Block b is the map of the first n operations. -/
def OpsIs (w : World) (b n : Nat) : Prop := ∃ L, MapIs Try.prog 3 w b n L ∧ ∀ i : Int, (0 ≤ i ∧ i < n → ∃ v, look L (.int .i64 i) = some v ∧ Op2 (b + 1) w v (fun _ _ => True) (opf i)) ∧ (¬ (0 ≤ i ∧ i < n) → look L (.int .i64 i) = none)
theorem OpsIs.made (w : World) : OpsIs (w.alloc (.map #[] 0)) w.heap.size 0 := ⟨[], MapIs.made w, fun i => ⟨fun h => by omega, fun _ => rfl⟩⟩
theorem OpsIs.below {w w' : World} {b n : Nat} (h : OpsIs w b n) (hb : Below w.heap.size w w') : OpsIs w' b n := by
  obtain ⟨L, h1, h2⟩ := h
  refine ⟨L, h1.below hb h1.lt, fun i => ⟨fun hi => ?_, (h2 i).2⟩⟩
  obtain ⟨v, hv, ho⟩ := (h2 i).1 hi
  exact ⟨v, hv, ho.below hb⟩
theorem OpsIs.put {w w' : World} {b n : Nat} {L : List (Lit × Value)} {v : Value} (h2 : ∀ i : Int, (0 ≤ i ∧ i < n → ∃ v, look L (.int .i64 i) = some v ∧ Op2 (b + 1) w v (fun _ _ => True) (opf i)) ∧ (¬ (0 ≤ i ∧ i < n) → look L (.int .i64 i) = none))
    (hv : Op2 (b + 1) w v (fun _ _ => True) (opf n)) (hm : MapIs Try.prog 3 w' b (n + 1) ((.int .i64 n, v) :: L)) (ht : w.mapTurned w' b) : OpsIs w' b (n + 1) := by
  refine ⟨_, hm, fun i => ?_⟩
  by_cases hi : i = (n : Int)
  · subst hi
    rw [look_same (by trivial)]
    exact ⟨fun _ => ⟨v, rfl, hv.turned ht (by omega)⟩, fun h => by omega⟩
  · rw [look_other (by intro e; injection e; exact hi (by assumption))]
    refine ⟨fun h => ?_, fun h => (h2 i).2 (by omega)⟩
    obtain ⟨u, hu, ho⟩ := (h2 i).1 (by omega)
    exact ⟨u, hu, ho.turned ht (by omega)⟩
theorem keyInt : Keyed Try.prog 3 := int_keyed Try.underlying3
section
variable {w : World} {ops : Array Oper} {rest : List Oper} {o : Oper} {a : Act} {Q : Exit → Act → World → Prop} {b n : Nat}
theorem wpList_put_ops (hg : o.guard = none) (m x v : Operand) (hop : o.op = Op.insert 66 m x v) (h : OpsIs w b n) (hn : n < 100) (hm : a.eval m = .map (some b)) (hx : a.eval x = .int .i64 n) {val : Value} (hv : a.eval v = val)
    (hval : Op2 (b + 1) w val (fun _ _ => True) (opf n)) (hK : ∀ w', OpsIs w' b (n + 1) → w.mapTurned w' b → wpList Try.prog ops Q rest (a.put o.dst undef) w') : wpList Try.prog ops Q (o :: rest) a w := by
  obtain ⟨L, h1, h2⟩ := h
  exact wpList_put_map hg m x v 66 (.inr hop) keyInt Try.underlying66 h1 (by unfold maxLen; omega) hm hx hv (keyOf_int_mk Try.underlying3 (WalkArith.wf_i64 (by omega))) (by trivial)
    fun w' hw' ht => hK w' (OpsIs.put h2 hval hw' ht) ht
end
set_option maxRecDepth 100000 in
set_option maxHeartbeats 4000000 in
theorem operations_any (w : World) : Calls Try.prog 30 #[] w fun e w' => e = .returned (.map (some w.heap.size)) ∧ OpsIs w' w.heap.size 13 ∧ Below w.heap.size w w' := by
  have hmm := @run_makeMap Try.prog
  obtain ⟨w0, hw0, HO0, HB0, hs0⟩ : ∃ w0, w.alloc (.map #[] 0) = w0 ∧ Hid (OpsIs w0 w.heap.size 0) ∧ Hid (Below w.heap.size w w0) ∧ w.heap.size + 1 ≤ w0.heap.size := ⟨_, rfl, OpsIs.made w, (Below.refl _ _).alloc (Nat.le_refl _) _, by simp⟩
  go_enter Try.func30, Try.ntmps30
  go_wp2_with fail
  refine (naming_any (w.heap.size + 1) 0 (by omega) _ _ _ fit_0 (fun _ _ _ => trivial) _ hs0 (op2_0 _ _)).mono ?_
  rintro e u0 ⟨v0, rfl, hv, hb⟩
  rw [opf_0] at hv
  have HV := hide hv
  have HO := hide (HO0.out.below hb)
  have HB := hide (HB0.out.trans (hb.mono (by omega)))
  have hs := Nat.le_trans hs0 hb.size
  clear hv hb HO0 HB0 hs0 hw0
  go_wp2_with (refine wpList_put_ops (b := w.heap.size) (n := 0) rfl _ _ _ rfl HO.out (by omega) rfl rfl rfl HV.out ?_; intro w1 ho ht; have HO1 := hide ho; have HB1 := hide (below_turned HB.out ht (Nat.le_refl _)); have hs1 := Nat.le_trans hs ht.grown.size; clear ho ht HO HB HV hs)
  refine (naming_any (w.heap.size + 1) 1 (by omega) _ _ _ fit_1 (fun _ _ _ => trivial) _ hs1 (op2_1 _ _)).mono ?_
  rintro e u1 ⟨v1, rfl, hv, hb⟩
  rw [opf_1] at hv
  have HV := hide hv
  have HO := hide (HO1.out.below hb)
  have HB := hide (HB1.out.trans (hb.mono (by omega)))
  have hs := Nat.le_trans hs1 hb.size
  clear hv hb HO1 HB1 hs1
  go_wp2_with (refine wpList_put_ops (b := w.heap.size) (n := 1) rfl _ _ _ rfl HO.out (by omega) rfl rfl rfl HV.out ?_; intro w2 ho ht; have HO2 := hide ho; have HB2 := hide (below_turned HB.out ht (Nat.le_refl _)); have hs2 := Nat.le_trans hs ht.grown.size; clear ho ht HO HB HV hs)
  refine (naming_any (w.heap.size + 1) 2 (by omega) _ _ _ fit_2 (fun _ _ h => h) _ hs2 (op2_2 _ _)).mono ?_
  rintro e u2 ⟨v2, rfl, hv, hb⟩
  rw [opf_2] at hv
  have HV := hide hv
  have HO := hide (HO2.out.below hb)
  have HB := hide (HB2.out.trans (hb.mono (by omega)))
  have hs := Nat.le_trans hs2 hb.size
  clear hv hb HO2 HB2 hs2
  go_wp2_with (refine wpList_put_ops (b := w.heap.size) (n := 2) rfl _ _ _ rfl HO.out (by omega) rfl rfl rfl HV.out ?_; intro w3 ho ht; have HO3 := hide ho; have HB3 := hide (below_turned HB.out ht (Nat.le_refl _)); have hs3 := Nat.le_trans hs ht.grown.size; clear ho ht HO HB HV hs)
  refine (computing_any (w.heap.size + 1) _ _ fn2_3 _ hs3).mono ?_
  rintro e u3 ⟨v3, rfl, hv, hb⟩
  rw [opf_3] at hv
  have HV := hide hv
  have HO := hide (HO3.out.below hb)
  have HB := hide (HB3.out.trans (hb.mono (by omega)))
  have hs := Nat.le_trans hs3 hb.size
  clear hv hb HO3 HB3 hs3
  go_wp2_with (refine wpList_put_ops (b := w.heap.size) (n := 3) rfl _ _ _ rfl HO.out (by omega) rfl rfl rfl HV.out ?_; intro w4 ho ht; have HO4 := hide ho; have HB4 := hide (below_turned HB.out ht (Nat.le_refl _)); have hs4 := Nat.le_trans hs ht.grown.size; clear ho ht HO HB HV hs)
  refine (computing_any (w.heap.size + 1) _ _ fn2_4 _ hs4).mono ?_
  rintro e u4 ⟨v4, rfl, hv, hb⟩
  rw [opf_4] at hv
  have HV := hide hv
  have HO := hide (HO4.out.below hb)
  have HB := hide (HB4.out.trans (hb.mono (by omega)))
  have hs := Nat.le_trans hs4 hb.size
  clear hv hb HO4 HB4 hs4
  go_wp2_with (refine wpList_put_ops (b := w.heap.size) (n := 4) rfl _ _ _ rfl HO.out (by omega) rfl rfl rfl HV.out ?_; intro w5 ho ht; have HO5 := hide ho; have HB5 := hide (below_turned HB.out ht (Nat.le_refl _)); have hs5 := Nat.le_trans hs ht.grown.size; clear ho ht HO HB HV hs)
  refine (computing_any (w.heap.size + 1) _ _ fn2_5 _ hs5).mono ?_
  rintro e u5 ⟨v5, rfl, hv, hb⟩
  rw [opf_5] at hv
  have HV := hide hv
  have HO := hide (HO5.out.below hb)
  have HB := hide (HB5.out.trans (hb.mono (by omega)))
  have hs := Nat.le_trans hs5 hb.size
  clear hv hb HO5 HB5 hs5
  go_wp2_with (refine wpList_put_ops (b := w.heap.size) (n := 5) rfl _ _ _ rfl HO.out (by omega) rfl rfl rfl HV.out ?_; intro w6 ho ht; have HO6 := hide ho; have HB6 := hide (below_turned HB.out ht (Nat.le_refl _)); have hs6 := Nat.le_trans hs ht.grown.size; clear ho ht HO HB HV hs)
  refine (computing_any (w.heap.size + 1) _ _ fn2_6 _ hs6).mono ?_
  rintro e u6 ⟨v6, rfl, hv, hb⟩
  rw [opf_6] at hv
  have HV := hide hv
  have HO := hide (HO6.out.below hb)
  have HB := hide (HB6.out.trans (hb.mono (by omega)))
  have hs := Nat.le_trans hs6 hb.size
  clear hv hb HO6 HB6 hs6
  go_wp2_with (refine wpList_put_ops (b := w.heap.size) (n := 6) rfl _ _ _ rfl HO.out (by omega) rfl rfl rfl HV.out ?_; intro w7 ho ht; have HO7 := hide ho; have HB7 := hide (below_turned HB.out ht (Nat.le_refl _)); have hs7 := Nat.le_trans hs ht.grown.size; clear ho ht HO HB HV hs)
  refine (computing_any (w.heap.size + 1) _ _ fn2_7 _ hs7).mono ?_
  rintro e u7 ⟨v7, rfl, hv, hb⟩
  rw [opf_7] at hv
  have HV := hide hv
  have HO := hide (HO7.out.below hb)
  have HB := hide (HB7.out.trans (hb.mono (by omega)))
  have hs := Nat.le_trans hs7 hb.size
  clear hv hb HO7 HB7 hs7
  go_wp2_with (refine wpList_put_ops (b := w.heap.size) (n := 7) rfl _ _ _ rfl HO.out (by omega) rfl rfl rfl HV.out ?_; intro w8 ho ht; have HO8 := hide ho; have HB8 := hide (below_turned HB.out ht (Nat.le_refl _)); have hs8 := Nat.le_trans hs ht.grown.size; clear ho ht HO HB HV hs)
  refine (naming_any (w.heap.size + 1) 0 (by omega) _ _ _ fit_8 (fun _ _ _ => trivial) _ hs8 (op2_8 _ _)).mono ?_
  rintro e u8 ⟨v8, rfl, hv, hb⟩
  rw [opf_8] at hv
  have HV := hide hv
  have HO := hide (HO8.out.below hb)
  have HB := hide (HB8.out.trans (hb.mono (by omega)))
  have hs := Nat.le_trans hs8 hb.size
  clear hv hb HO8 HB8 hs8
  go_wp2_with (refine wpList_put_ops (b := w.heap.size) (n := 8) rfl _ _ _ rfl HO.out (by omega) rfl rfl rfl HV.out ?_; intro w9 ho ht; have HO9 := hide ho; have HB9 := hide (below_turned HB.out ht (Nat.le_refl _)); have hs9 := Nat.le_trans hs ht.grown.size; clear ho ht HO HB HV hs)
  refine (naming_any (w.heap.size + 1) 1 (by omega) _ _ _ fit_9 (fun _ _ h => h) _ hs9 (op2_9 _ _)).mono ?_
  rintro e u9 ⟨v9, rfl, hv, hb⟩
  rw [opf_9] at hv
  have HV := hide hv
  have HO := hide (HO9.out.below hb)
  have HB := hide (HB9.out.trans (hb.mono (by omega)))
  have hs := Nat.le_trans hs9 hb.size
  clear hv hb HO9 HB9 hs9
  go_wp2_with (refine wpList_put_ops (b := w.heap.size) (n := 9) rfl _ _ _ rfl HO.out (by omega) rfl rfl rfl HV.out ?_; intro w10 ho ht; have HO10 := hide ho; have HB10 := hide (below_turned HB.out ht (Nat.le_refl _)); have hs10 := Nat.le_trans hs ht.grown.size; clear ho ht HO HB HV hs)
  refine (naming_any (w.heap.size + 1) 2 (by omega) _ _ _ fit_10 (fun _ _ h => h) _ hs10 (op2_10 _ _)).mono ?_
  rintro e u10 ⟨v10, rfl, hv, hb⟩
  rw [opf_10] at hv
  have HV := hide hv
  have HO := hide (HO10.out.below hb)
  have HB := hide (HB10.out.trans (hb.mono (by omega)))
  have hs := Nat.le_trans hs10 hb.size
  clear hv hb HO10 HB10 hs10
  go_wp2_with (refine wpList_put_ops (b := w.heap.size) (n := 10) rfl _ _ _ rfl HO.out (by omega) rfl rfl rfl HV.out ?_; intro w11 ho ht; have HO11 := hide ho; have HB11 := hide (below_turned HB.out ht (Nat.le_refl _)); have hs11 := Nat.le_trans hs ht.grown.size; clear ho ht HO HB HV hs)
  refine (naming_any (w.heap.size + 1) 2 (by omega) _ _ _ fit_11 (fun _ _ h => h) _ hs11 (op2_11 _ _)).mono ?_
  rintro e u11 ⟨v11, rfl, hv, hb⟩
  rw [opf_11] at hv
  have HV := hide hv
  have HO := hide (HO11.out.below hb)
  have HB := hide (HB11.out.trans (hb.mono (by omega)))
  have hs := Nat.le_trans hs11 hb.size
  clear hv hb HO11 HB11 hs11
  go_wp2_with (refine wpList_put_ops (b := w.heap.size) (n := 11) rfl _ _ _ rfl HO.out (by omega) rfl rfl rfl HV.out ?_; intro w12 ho ht; have HO12 := hide ho; have HB12 := hide (below_turned HB.out ht (Nat.le_refl _)); have hs12 := Nat.le_trans hs ht.grown.size; clear ho ht HO HB HV hs)
  refine (naming_any (w.heap.size + 1) 0 (by omega) _ _ _ fit_12 (fun _ _ _ => trivial) _ hs12 (op2_12 _ _)).mono ?_
  rintro e u12 ⟨v12, rfl, hv, hb⟩
  rw [opf_12] at hv
  have HV := hide hv
  have HO := hide (HO12.out.below hb)
  have HB := hide (HB12.out.trans (hb.mono (by omega)))
  have hs := Nat.le_trans hs12 hb.size
  clear hv hb HO12 HB12 hs12
  go_wp2_with (refine wpList_put_ops (b := w.heap.size) (n := 12) rfl _ _ _ rfl HO.out (by omega) rfl rfl rfl HV.out ?_; intro w13 ho ht; have HO13 := hide ho; have HB13 := hide (below_turned HB.out ht (Nat.le_refl _)); have hs13 := Nat.le_trans hs ht.grown.size; clear ho ht HO HB HV hs)
  go_ret
  exact ⟨rfl, HO13.out, HB13.out⟩
end Go.Proofs.Ytkcegdnjgkideaa
