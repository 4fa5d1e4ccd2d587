/- Layer 5: an operation on three registers: the closures. (Written by tools/mkcpu.py.) -/
import Derived.Test.YtkcegdnjgkideaaCpuNaming
namespace Go.Proofs.Ytkcegdnjgkideaa
open Go.RowKit

/-- The value v is a function of two numbers that answers as g does. -/
def Fn2 (v : Value) (g : Int → Int → Int) : Prop := ∃ fid : Nat, v = .func (.func fid) #[] #[] ∧ (∀ (ar : Array Value) (u : World), (callFunc fid ar).run Try.prog u = .ok (.enter fid ar) u) ∧
  ∀ (a b : Int) (u : World), Calls Try.prog fid #[.int .i64 a, .int .i64 b] u fun e w' => e = .returned (.int .i64 (g a b)) ∧ w' = u
def computing (g : Int → Int → Int) (c : Cp.Cpu) (x : Cd.Ins) : Cp.Cpu × Cp.Act := (Cp.loaded c x.a (g (Cp.get c x.b) (Cp.get c x.c)), Cp.done)
theorem computing_fit (g : Int → Int → Int) : Fit (computing g) := fun _ _ h8 => ⟨loaded_8 h8 _ _, rfl⟩
theorem named3 {x : Cd.Ins} (h : named 3 x = true) : Cp.isReg x.a = true ∧ Cp.isReg x.b = true ∧ Cp.isReg x.c = true := by
  unfold named at h
  simp at h
  exact ⟨h.1, h.2.1, h.2.2⟩
theorem isReg_iff {n : Int} : Cp.isReg n = true ↔ 0 ≤ n ∧ n < 8 := by unfold Cp.isReg; simp
theorem computing1_code (ar : Array Value) (u : World) : (callFunc 58 ar).run Try.prog u = .ok (.enter 58 ar) u := by kernel_rfl
set_option maxRecDepth 100000 in
set_option maxHeartbeats 2000000 in
theorem computing1_any (fid : Nat) (g : Int → Int → Int) (c : Cp.Cpu) (x : Cd.Ins) (h8 : c.regs.length = 8) (hb : 0 ≤ x.b ∧ x.b < 8) (hc : 0 ≤ x.c ∧ x.c < 8) (gc : Nat) (w : World) (hF : Obl w gc 71 #[.func (.func fid) #[] #[]])
    (hcf : ∀ (ar : Array Value) (u : World), (callFunc fid ar).run Try.prog u = .ok (.enter fid ar) u) (hu : ∀ (a b : Int) (u : World), Calls Try.prog fid #[.int .i64 a, .int .i64 b] u fun e w' => e = .returned (.int .i64 (g a b)) ∧ w' = u) :
    Calls Try.prog 58 #[.agg (cc c), .agg #[.int .i64 x.op, .int .i64 x.a, .int .i64 x.b, .int .i64 x.c], .pointer (some ⟨gc, 0, none⟩)] w (TwoPost (computing g c x) w) := by
  unfold computing
  have HU := hide hu
  clear hu
  obtain ⟨w1, hw, ST, SR⟩ := start_b w c x
  have hF1 := hF.below ST.bel hF.lt
  have hgc := hF.lt
  have hb0 := hb.1
  have hb1 := hb.2
  have hc0 := hc.1
  have hc1 := hc.2
  have hl := loaded_8 h8 x.a (g (Cp.get c x.b) (Cp.get c x.c))
  clear hF
  go_enter Try.func58, Try.ntmps58
  go_wp2_with fail
  refine region_B (by kernel_rfl) (w.heap.size + 2) ?_
  replace ST := ST.drew
  replace SR := SR.drew
  replace hF1 : Obl w1.drew gc 71 #[.func (.func fid) #[] #[]] := hF1
  generalize w1.drew = u at *
  have hus := ST.size
  refine takeB 0 rfl (by kernel_rfl) (fun _ _ _ h => h) (by rfl) (by intro w' hg; exact exec_load_cpu rfl rfl (ST.next hg).o0 h8) ?_
  refine takeB 1 rfl (by kernel_rfl) (fun _ _ _ h => h) (by rfl) (by intro w' hg; go_simp; try with_reducible rfl) ?_
  refine takeB 2 rfl (by kernel_rfl) (fun _ _ _ h => h) (by rfl) (by intro w' hg; have g1 := (ST.next hg).xa; go_simp; try with_reducible rfl) ?_
  refine takeB 3 rfl (by kernel_rfl) (fun _ _ _ h => h) (by rfl) (by intro w' hg; have g1 := (hF1.below hg (by omega)).cell 0; simp at g1; go_simp; try with_reducible rfl) ?_
  refine takeB 4 rfl (by kernel_rfl) (fun _ _ _ h => h) (by rfl) (by intro w' hg; go_simp; try with_reducible rfl) ?_
  refine takeB 5 rfl (by kernel_rfl) (fun _ _ _ h => h) (by rfl) (by intro w' hg; have g1 := (ST.next hg).xb; go_simp; try with_reducible rfl) ?_
  refine takeB 6 rfl (by kernel_rfl) (fun _ _ _ h => h) (by rfl) (by intro w' hg; go_simp; try with_reducible rfl) ?_
  refine takeB 7 rfl (by kernel_rfl) (fun _ _ _ h => h) (by rfl) (by intro w' hg; go_simp; try with_reducible rfl) ?_
  refine takeB 8 rfl (by kernel_rfl) (fun _ _ _ h => h) (by rfl) (by intro w' hg; have g1 := (ST.next hg).reg h8 hb; go_simp; try with_reducible rfl) ?_
  refine takeB 9 rfl (by kernel_rfl) (fun _ _ _ h => h) (by rfl) (by intro w' hg; go_simp; try with_reducible rfl) ?_
  refine takeB 10 rfl (by kernel_rfl) (fun _ _ _ h => h) (by rfl) (by intro w' hg; have g1 := (ST.next hg).xc; go_simp; try with_reducible rfl) ?_
  refine takeB 11 rfl (by kernel_rfl) (fun _ _ _ h => h) (by rfl) (by intro w' hg; go_simp; try with_reducible rfl) ?_
  refine takeB 12 rfl (by kernel_rfl) (fun _ _ _ h => h) (by rfl) (by intro w' hg; go_simp; try with_reducible rfl) ?_
  refine takeB 13 rfl (by kernel_rfl) (fun _ _ _ h => h) (by rfl) (by intro w' hg; have g1 := (ST.next hg).reg h8 hc; go_simp; try with_reducible rfl) ?_
  refine onlyB 14 rfl (by kernel_rfl) (by rfl) ?_
  intro K hK
  go_simp
  refine (HU.out _ _ _).mono ?_
  rintro e u1 ⟨rfl, rfl⟩
  refine hK _ _ (Below.refl _ _) ?_
  clear hK K
  refine onlyB 15 rfl (by kernel_rfl) (by rfl) ?_
  intro K hK
  go_simp
  refine (loaded_any c h8 _ _ _).mono ?_
  rintro e u1 ⟨rfl, hb1⟩
  replace ST := ST.next (ST.later hb1)
  replace SR := SR.next hb1
  refine hK _ _ (hb1.mono (by omega)) ?_
  have hus := Nat.le_trans hus hb1.size
  clear hK K hb1
  refine onlyB 16 rfl (by kernel_rfl) (by rfl) ?_
  intro K hK
  go_simp
  refine (done_any _ hl _).mono ?_
  rintro e u1 ⟨rfl, hb1⟩
  replace ST := ST.next (ST.later hb1)
  replace SR := SR.next hb1
  refine hK _ _ (hb1.mono (by omega)) ?_
  have hus := Nat.le_trans hus hb1.size
  clear hK K hb1
  refine takeB 17 rfl (by kernel_rfl) (fun _ _ _ h => h) (by rfl) (by intro w' hg; go_simp; try with_reducible rfl) ?_
  refine takeB 18 rfl (by kernel_rfl) (fun _ _ _ h => h) (by rfl) (by intro w' hg; go_simp; try with_reducible rfl) ?_
  refine onlyB 19 rfl (by kernel_rfl) (by rfl) ?_
  intro K hK
  obtain ⟨E0, E1, E2, hbe⟩ := ends_2 (g := w.heap.size + 2) SR.o1 SR.o2 ST.bel (by omega) (Cp.loaded c x.a (g (Cp.get c x.b) (Cp.get c x.c))) Cp.done
  refine wp_store_cpu rfl rfl (c := (Cp.loaded c x.a (g (Cp.get c x.b) (Cp.get c x.c)))) rfl SR.o1 rfl hl ?_
  refine hK _ _ (below_row (Below.refl _ _) (Nat.le_refl _) _) ?_
  clear hK K
  refine onlyB 20 rfl (by kernel_rfl) (by rfl) ?_
  intro K hK
  refine wp_store_act rfl rfl (c := Cp.done) rfl E1 rfl rfl ?_
  refine hK _ _ (below_row (Below.refl _ _) (by omega) _) ?_
  clear hK K
  refine doneB (by kernel_rfl) ?_
  go_simp
  go_wp2_with fail
  refine bodyPost_ret (ret_two rfl _ rfl E0 hl rfl E2 rfl) rfl ?_
  exact ⟨rfl, hbe⟩
set_option maxRecDepth 100000 in
set_option maxHeartbeats 2000000 in
theorem computing_any (base : Nat) (v : Value) (g : Int → Int → Int) (hv : Fn2 v g) (w : World) (hw : base ≤ w.heap.size) : Calls Try.prog 41 #[v] w (MadeOp base (naming 3 (computing g)) w) := by
  obtain ⟨fid, rfl, hcf, hu⟩ := hv
  have hF := Obl.make w 71 #[.func (.func fid) #[] #[]]
  have hb := (Below.refl w.heap.size w).alloc (Nat.le_refl _) (.cells #[.func (.func fid) #[] #[]] 71)
  have HO : Hid (Op2 base (w.alloc (.cells #[.func (.func fid) #[] #[]] 71)) (.func (.func 58) #[] #[.pointer (some ⟨w.heap.size, 0, none⟩)]) (fun _ x => named 3 x = true) (computing g)) :=
    hide ⟨58, _, [w.heap.size], rfl, computing1_code, fun i hi => by
        simp only [List.mem_singleton] at hi
        subst hi
        exact ⟨hw, hF.lt⟩,
      fun u hbu c x h8 hn => computing1_any fid g c x h8 (isReg_iff.1 (named3 hn).2.1) (isReg_iff.1 (named3 hn).2.2) _ u ((hbu _ (by simp)).trans hF) hcf hu⟩
  have HB := hide hb
  have hw1 : base ≤ (w.alloc (.cells #[.func (.func fid) #[] #[]] 71)).heap.size := Nat.le_trans hw hb.size
  clear hF hb hu hcf hw
  go_enter Try.func41, Try.ntmps41
  go_wp2_with fail
  refine (naming_any base 3 (by omega) _ _ _ (computing_fit g) (fun _ _ h => h) _ hw1 HO.out).mono ?_
  rintro e w1 ⟨v, rfl, hv, hb1⟩
  have HV := hide hv
  have HB1 := hide (HB.out.trans (hb1.mono HB.out.size))
  clear hv hb1
  go_wp2
  go_ret
  exact ⟨v, rfl, HV.out, HB1.out⟩
end Go.Proofs.Ytkcegdnjgkideaa
