/- Layer 16, package process: copies, objects, private pages: contracts. (Written by tools/mkpvcopy.py.) -/
import Derived.Test.YtdglcpepgodcpaaDoorPvMath
import Derived.Test.YtdglcpepgodcpaaDoorProcessManyM
import Derived.Test.YtdglcpepgodcpaaDoorRegionX
namespace Go.Proofs.YtdglcpepgodcpaaDoor
open Go.RowKit

def prc (A : Option Addr) (n c : Nat) (D : Option Addr) (m d : Nat) (pp : Int) : Array Value := #[.slice A n c, .slice D m d, .int .i64 pp]
theorem prc_one (A : Option Addr) (n c : Nat) (D : Option Addr) (m d : Nat) (pp : Int) : (prc A n c D m d pp).all (·.oneCell') = true := by simp [prc, Value.oneCell']
theorem built_prc (A : Option Addr) (n c : Nat) (D : Option Addr) (m d : Nat) (pp : Int) : Tryd.prog.built 29 [(0, .slice A n c), (1, .slice D m d), (2, .int .i64 pp)] = some (prc A n c D m d pp) := by kernel_rfl
theorem built_pcell (o : Ob) : Tryd.prog.built 36 [(0, .int .i64 o.state), (1, .int .u64 o.parent), (2, .slice o.children.A o.children.n o.children.c), (3, .agg (prc o.code.A o.code.n o.code.c o.strs.A o.strs.n o.strs.c o.ppages)), (4, .agg (cc o.cpu)), (5, .slice o.pages.A o.pages.n o.pages.c), (6, .slice o.table.A o.table.n o.table.c), (7, .int .i64 o.pending), (8, .int .i64 o.alarm), (9, .int .i64 o.status)] = some (pcell o) := by kernel_rfl
theorem wp_store_prc {o : Oper} {a : Act} {w : World} {Q : Exit → Act → World → Prop} {K : Act → World → Prop} {x y : Operand} (ho : o.op = .store 29 x y) {g : Nat} (hx : a.eval x = .pointer (some ⟨g, 0, none⟩)) {A : Option Addr} {n c : Nat} {D : Option Addr} {m d : Nat} {pp : Int} (hy : a.eval y = .agg (prc A n c D m d pp)) {old : Array Value} {t : TypeId} (h : Obl w g t old) (hold : old.size = 3)
    (hK : K (a.put o.dst undef) (w.setRow g (prc A n c D m d pp))) : o.wp Tryd.prog a w K Q := wp_store_row _ x y ho g (prc A n c D m d pp) hx hy t old h prSize hold (prc_one A n c D m d pp) hK
/-- A program again, with lists of its own. -/
def ProgPost (n m : Nat) (C : List Cd.Ins) (Z : List (List UInt8)) (pp : Int) (w : World) (e : Ending) (w' : World) : Prop := ∃ A' c' D' d', e = .returned (.agg (prc A' n c' D' m d' pp)) ∧ w'.ownsRow w.heap.size 72 4 (.slice A' n c') n (iv C) ∧ w'.ownsRow w.heap.size 9 1 (.slice D' m d') m (sv Z) ∧ Below w.heap.size w w'
theorem start_prc (W : World) (A : Option Addr) (n c : Nat) (D : Option Addr) (m d : Nat) (pp : Int) : ∃ w1, (W.alloc (.cells (prc A n c D m d pp) 29)).alloc (.cells #[.slice none 0 0, .slice none 0 0, .int .i64 0] 29) = w1 ∧
    Obl w1 W.heap.size 29 (prc A n c D m d pp) ∧ Obl w1 (W.heap.size + 1) 29 (prc none 0 0 none 0 0 0) ∧ Below W.heap.size W w1 ∧ w1.heap.size = W.heap.size + 2 := by
  refine ⟨_, rfl, (Obl.make W _ _).alloc _, ?_, ((Below.refl _ _).alloc (Nat.le_refl _) _).alloc (by simp) _, by simp⟩
  have := Obl.make (W.alloc (.cells (prc A n c D m d pp) 29)) 29 (prc none 0 0 none 0 0 0)
  rwa [World.size_alloc] at this
set_option maxRecDepth 100000 in
set_option maxHeartbeats 8000000 in
theorem pvCopyProg_any (C : List Cd.Ins) (Z : List (List UInt8)) (A D : Option Addr) (n c m d B : Nat) (pp : Int) (W : World) (hi : Inss W B A n C) (hs : Strs W B D m Z) (hB : B ≤ W.heap.size) (hn : n ≤ 1000000) (hm : m ≤ 1000000) :
    Calls Tryd.prog 12 #[.agg (prc A n c D m d pp)] W (ProgPost n m C Z pp W) := by
  obtain ⟨w1, hw1, O, ZO, hb1, hs1⟩ := start_prc W A n c D m d pp
  have HI := hide ((hi.mono hB).below hb1)
  have HS := hide ((hs.mono hB).below hb1)
  have HB := hide hb1
  clear hb1 hi hs
  go_enter Tryd.func12, Tryd.ntmps12
  go_upto_region 1 with (fail)
  clear hw1
  refine region_B (by kernel_rfl) (W.heap.size + 1) ?_
  have hs2 : w1.drew.heap.size = W.heap.size + 2 := hs1
  have O2 : Obl w1.drew W.heap.size 29 (prc A n c D m d pp) := O
  have Z2 : Obl w1.drew (W.heap.size + 1) 29 (prc none 0 0 none 0 0 0) := ZO
  have HI2 : Hid (Inss w1.drew W.heap.size A n C) := HI
  have HS2 : Hid (Strs w1.drew W.heap.size D m Z) := HS
  have HB2 : Hid (Below W.heap.size W w1.drew) := hide (below_drewN HB.out 1)
  clear O ZO HI HS HB hs1
  generalize w1.drew = u0 at *
  obtain ⟨g, hg0⟩ : ∃ g, W.heap.size = g := ⟨_, rfl⟩
  rw [hg0] at O2 Z2 HI2 HS2 HB2 hs2 ⊢
  refine takeB 0 rfl (by kernel_rfl) (fun _ _ _ h => h) (by rfl) (by intro w' hg; go_simp; try with_reducible rfl) ?_
  refine takeB 1 rfl (by kernel_rfl) (fun _ _ _ h => h) (by rfl) (by intro w' hg; have kk : w'.cell? ⟨g, 0, none⟩ = some (.slice A n c) := (O2.below hg (by omega)).cell 0; go_simp; try with_reducible rfl) ?_
  refine takeB 3 rfl (by kernel_rfl) (fun _ _ _ h => h) (by rfl) (by intro w' hg; go_simp; try with_reducible rfl) ?_
  refine takeB 4 rfl (by kernel_rfl) (fun _ _ _ h => h) (by rfl) (by intro w' hg; have kk : w'.cell? ⟨g, 1, none⟩ = some (.slice D m d) := (O2.below hg (by omega)).cell 1; go_simp; try with_reducible rfl) ?_
  refine takeB 6 rfl (by kernel_rfl) (fun _ _ _ h => h) (by rfl) (by intro w' hg; go_simp; try with_reducible rfl) ?_
  refine takeB 7 rfl (by kernel_rfl) (fun _ _ _ h => h) (by rfl) (by intro w' hg; have kk : w'.cell? ⟨g, 2, none⟩ = some (.int .i64 pp) := (O2.below hg (by omega)).cell 2; go_simp; try with_reducible rfl) ?_
  refine onlyB 2 rfl (by kernel_rfl) (by rfl) ?_
  intro K hK
  go_simp
  refine (cloneIns_any _ (iv_one _) _ _ _ g _ HI2.out.2 (by omega) hn).mono ?_
  rintro e u1 ⟨A', c', rfl, hown, hb⟩
  have hle := hb.size
  refine hK _ _ (hb.mono (by omega)) ?_
  clear hK K
  have O3 := O2.below hb O2.lt
  have Z3 := Z2.below hb Z2.lt
  have HS3 := hide (HS2.out.below (hb.mono (by omega)))
  have HB3 := hide (HB2.out.trans (hb.mono (by omega)))
  have HO1 := hide hown
  clear hown hb O2 Z2 HS2 HB2 HI2
  go_simp
  refine onlyB 5 rfl (by kernel_rfl) (by rfl) ?_
  intro K hK
  go_simp
  refine (cloneStr_any _ (sv_one _) _ _ _ g _ HS3.out.2 (by omega) hm).mono ?_
  rintro e u2 ⟨D', d', rfl, hown, hb⟩
  have hle2 := hb.size
  refine hK _ _ (hb.mono (by omega)) ?_
  clear hK K
  have Z4 := Z3.below hb Z3.lt
  have HB4 := hide (HB3.out.trans (hb.mono (by omega)))
  have HOA := hide ((Stays.own HO1.out (lo := g + 2) (by omega)).next (Fr.below hb))
  have HOB := hide (Stays.own hown (lo := g + 2) (by omega))
  clear hown hb O3 Z3 HS3 HB3 HO1
  go_simp
  refine takeB 8 rfl (by kernel_rfl) (fun _ _ _ h => h) (by rfl) (by intro w' hg; exact exec_build rfl (by go_simp) (built_prc A' n c' D' m d' pp)) ?_
  go_simp
  refine onlyB 9 rfl (by kernel_rfl) (by rfl) ?_
  intro K hK
  refine wp_store_prc rfl rfl rfl Z4 rfl ?_
  obtain ⟨u3, hu3⟩ : ∃ u, u2.setRow (g + 1) (prc A' n c' D' m d' pp) = u := ⟨_, rfl⟩
  have Z5 := Z4.row_same (prc A' n c' D' m d' pp)
  have hb5 := below_row (Below.refl (g + 1) u2) (Nat.le_refl _) (prc A' n c' D' m d' pp)
  have HF5 := Fr.row (lo := g + 2) (w := u2) (g := g + 1) (by omega) (prc A' n c' D' m d' pp)
  rw [hu3] at Z5 hb5 HF5 ⊢
  have HOA2 := hide (HOA.out.next HF5).now
  have HOB2 := hide (HOB.out.next HF5).now
  have HB5 := hide (HB4.out.trans (hb5.mono (by omega)))
  refine hK _ _ hb5 ?_
  clear hK K hb5 HF5 HOA HOB HB4 hu3
  refine doneB (by kernel_rfl) ?_
  go_simp
  go_wp2_with fail
  refine bodyPost_ret (results_cell_1 rfl _ (by rfl) Z5 Tryd.underlying29 rfl prSize) rfl ?_
  subst hg0
  exact ⟨_, _, _, _, rfl, own_weaken HOA2.out (by omega), own_weaken HOB2.out (by omega), HB5.out⟩
set_option maxRecDepth 100000 in
set_option maxHeartbeats 16000000 in
theorem pvCopied_any (o : Ob) (X : Cont) (W : World) (h : HoldsP W W.heap.size o X) (hX : X.ShortP) : Calls Tryd.prog 16 #[.agg (pcell o)] W (ProcPost o X W) := by
  obtain ⟨w1, hw1, O0, ZO, hb1, hs1⟩ := start_pp W o
  have HB0 := hide hb1
  have H0 := hide h
  have HX := hide hX
  clear hb1 h hX
  go_enter Tryd.func16, Tryd.ntmps16
  go_upto_region 1 with (fail)
  clear hw1
  refine region_B (by kernel_rfl) (W.heap.size + 1) ?_
  have hs2 : w1.drew.heap.size = W.heap.size + 2 := hs1
  have O : Obl w1.drew W.heap.size 36 (pcell o) := O0
  have Z : Obl w1.drew (W.heap.size + 1) 36 (pcell Ob.zero) := ZO
  have HB : Hid (Below W.heap.size W w1.drew) := hide (below_drewN HB0.out 1)
  clear O0 ZO HB0 hs1
  generalize w1.drew = u0 at *
  obtain ⟨g, hg0⟩ : ∃ g, W.heap.size = g := ⟨_, rfl⟩
  have H1 : Hid (HoldsP u0 g o X) := hide (hg0 ▸ H0.out.below HB.out)
  rw [hg0] at O Z HB hs2 ⊢
  clear H0
  refine takeB 0 rfl (by kernel_rfl) (fun _ _ _ h => h) (by rfl) (by intro w' hg; go_simp; try with_reducible rfl) ?_
  refine takeB 1 rfl (by kernel_rfl) (fun _ _ _ h => h) (by rfl) (by intro w' hg; have kk : w'.cell? ⟨g, 0, none⟩ = some (.int .i64 o.state) := (O.below hg (by omega)).cell 0; go_simp; try with_reducible rfl) ?_
  refine takeB 2 rfl (by kernel_rfl) (fun _ _ _ h => h) (by rfl) (by intro w' hg; go_simp; try with_reducible rfl) ?_
  refine takeB 3 rfl (by kernel_rfl) (fun _ _ _ h => h) (by rfl) (by intro w' hg; have kk : w'.cell? ⟨g, 1, none⟩ = some (.int .u64 o.parent) := (O.below hg (by omega)).cell 1; go_simp; try with_reducible rfl) ?_
  refine takeB 4 rfl (by kernel_rfl) (fun _ _ _ h => h) (by rfl) (by intro w' hg; go_simp; try with_reducible rfl) ?_
  refine takeB 5 rfl (by kernel_rfl) (fun _ _ _ h => h) (by rfl) (by intro w' hg; have kk : w'.cell? ⟨g, 2, none⟩ = some (.slice o.children.A o.children.n o.children.c) := (O.below hg (by omega)).cell 2; go_simp; try with_reducible rfl) ?_
  refine takeB 7 rfl (by kernel_rfl) (fun _ _ _ h => h) (by rfl) (by intro w' hg; go_simp; try with_reducible rfl) ?_
  refine takeB 8 rfl (by kernel_rfl) (fun _ _ _ h => h) (by rfl) (by intro w' hg; exact exec_load_prog rfl rfl (O.below hg (by omega))) ?_
  refine takeB 10 rfl (by kernel_rfl) (fun _ _ _ h => h) (by rfl) (by intro w' hg; go_simp; try with_reducible rfl) ?_
  refine takeB 11 rfl (by kernel_rfl) (fun _ _ _ h => h) (by rfl) (by intro w' hg; exact exec_load_pcpu rfl rfl (O.below hg (by omega))) ?_
  refine takeB 12 rfl (by kernel_rfl) (fun _ _ _ h => h) (by rfl) (by intro w' hg; go_simp; try with_reducible rfl) ?_
  refine takeB 13 rfl (by kernel_rfl) (fun _ _ _ h => h) (by rfl) (by intro w' hg; have kk : w'.cell? ⟨g, 15, none⟩ = some (.slice o.pages.A o.pages.n o.pages.c) := (O.below hg (by omega)).cell 15; go_simp; try with_reducible rfl) ?_
  refine takeB 15 rfl (by kernel_rfl) (fun _ _ _ h => h) (by rfl) (by intro w' hg; go_simp; try with_reducible rfl) ?_
  refine takeB 16 rfl (by kernel_rfl) (fun _ _ _ h => h) (by rfl) (by intro w' hg; have kk : w'.cell? ⟨g, 16, none⟩ = some (.slice o.table.A o.table.n o.table.c) := (O.below hg (by omega)).cell 16; go_simp; try with_reducible rfl) ?_
  refine takeB 18 rfl (by kernel_rfl) (fun _ _ _ h => h) (by rfl) (by intro w' hg; go_simp; try with_reducible rfl) ?_
  refine takeB 19 rfl (by kernel_rfl) (fun _ _ _ h => h) (by rfl) (by intro w' hg; have kk : w'.cell? ⟨g, 17, none⟩ = some (.int .i64 o.pending) := (O.below hg (by omega)).cell 17; go_simp; try with_reducible rfl) ?_
  refine takeB 20 rfl (by kernel_rfl) (fun _ _ _ h => h) (by rfl) (by intro w' hg; go_simp; try with_reducible rfl) ?_
  refine takeB 21 rfl (by kernel_rfl) (fun _ _ _ h => h) (by rfl) (by intro w' hg; have kk : w'.cell? ⟨g, 18, none⟩ = some (.int .i64 o.alarm) := (O.below hg (by omega)).cell 18; go_simp; try with_reducible rfl) ?_
  refine takeB 22 rfl (by kernel_rfl) (fun _ _ _ h => h) (by rfl) (by intro w' hg; go_simp; try with_reducible rfl) ?_
  refine takeB 23 rfl (by kernel_rfl) (fun _ _ _ h => h) (by rfl) (by intro w' hg; have kk : w'.cell? ⟨g, 19, none⟩ = some (.int .i64 o.status) := (O.below hg (by omega)).cell 19; go_simp; try with_reducible rfl) ?_
  refine onlyB 6 rfl (by kernel_rfl) (by rfl) ?_
  intro K hK
  go_simp
  refine (cloneU64_any _ (nv_one _ _) _ _ _ g _ H1.out.children.2 (by omega) (by have := H1.out.children.1; have := HX.out.1; omega)).mono ?_
  rintro e u1 ⟨A1, c1, rfl, hown, hb⟩
  have hle1 := hb.size
  refine hK _ _ (hb.mono (by omega)) ?_
  clear hK K
  replace O := O.below hb O.lt
  replace Z := Z.below hb Z.lt
  replace H1 := hide (H1.out.below (hb.mono (by omega)))
  replace HB := hide (HB.out.trans (hb.mono (by omega)))
  have HST := hide (Stays.own hown (lo := g + 2) (by omega))
  clear hown hb
  go_simp
  refine onlyB 9 rfl (by kernel_rfl) (by rfl) ?_
  intro K hK
  go_simp
  refine (pvCopyProg_any X.code X.strs _ _ _ _ _ _ g _ _ H1.out.code H1.out.strs (by omega) (by have := H1.out.code.1; have := HX.out.2.1; omega) (by have := H1.out.strs.1; have := HX.out.2.2.1; omega)).mono ?_
  rintro e u2 ⟨A2, c2, D2, d2, rfl, hown, hown2, hb⟩
  have hle2 := hb.size
  refine hK _ _ (hb.mono (by omega)) ?_
  clear hK K
  replace O := O.below hb O.lt
  replace Z := Z.below hb Z.lt
  replace H1 := hide (H1.out.below (hb.mono (by omega)))
  replace HB := hide (HB.out.trans (hb.mono (by omega)))
  replace HST := hide (Stays.and (Stays.and (HST.out.next (Fr.below hb)) (Stays.own hown (lo := g + 2) (by omega))) (Stays.own hown2 (lo := g + 2) (by omega)))
  clear hown hb hown2
  go_simp
  refine onlyB 14 rfl (by kernel_rfl) (by rfl) ?_
  intro K hK
  go_simp
  refine (cloneRef_any _ (rv_one _) _ _ _ g _ H1.out.pages.2 (by omega) (by have := H1.out.pages.1; have := HX.out.2.2.2.1; omega)).mono ?_
  rintro e u3 ⟨A3, c3, rfl, hown, hb⟩
  have hle3 := hb.size
  refine hK _ _ (hb.mono (by omega)) ?_
  clear hK K
  replace O := O.below hb O.lt
  replace Z := Z.below hb Z.lt
  replace H1 := hide (H1.out.below (hb.mono (by omega)))
  replace HB := hide (HB.out.trans (hb.mono (by omega)))
  replace HST := hide (Stays.and (HST.out.next (Fr.below hb)) (Stays.own hown (lo := g + 2) (by omega)))
  clear hown hb
  go_simp
  refine onlyB 17 rfl (by kernel_rfl) (by rfl) ?_
  intro K hK
  go_simp
  refine (cloneSlot_any _ (stv_one _) _ _ _ g _ H1.out.table.2 (by omega) (by have := H1.out.table.1; have := HX.out.2.2.2.2; omega)).mono ?_
  rintro e u4 ⟨A4, c4, rfl, hown, hb⟩
  have hle4 := hb.size
  refine hK _ _ (hb.mono (by omega)) ?_
  clear hK K
  replace O := O.below hb O.lt
  replace Z := Z.below hb Z.lt
  replace H1 := hide (H1.out.below (hb.mono (by omega)))
  replace HB := hide (HB.out.trans (hb.mono (by omega)))
  replace HST := hide (Stays.and (HST.out.next (Fr.below hb)) (Stays.own hown (lo := g + 2) (by omega)))
  clear hown hb
  go_simp
  refine takeB 24 rfl (by kernel_rfl) (fun _ _ _ h => h) (by rfl) (by intro w' hg; exact exec_build rfl (by go_simp; try rfl) (built_pcell { o with children := ⟨A1, o.children.n, c1⟩, code := ⟨A2, o.code.n, c2⟩, strs := ⟨D2, o.strs.n, d2⟩, pages := ⟨A3, o.pages.n, c3⟩, table := ⟨A4, o.table.n, c4⟩ })) ?_
  go_simp
  refine onlyB 25 rfl (by kernel_rfl) (by rfl) ?_
  intro K hK
  refine wp_store_proc rfl rfl (c := ({ o with children := ⟨A1, o.children.n, c1⟩, code := ⟨A2, o.code.n, c2⟩, strs := ⟨D2, o.strs.n, d2⟩, pages := ⟨A3, o.pages.n, c3⟩, table := ⟨A4, o.table.n, c4⟩ })) rfl Z rfl ?_
  obtain ⟨u9, hu9⟩ : ∃ u, u4.setRow (g + 1) (pcell ({ o with children := ⟨A1, o.children.n, c1⟩, code := ⟨A2, o.code.n, c2⟩, strs := ⟨D2, o.strs.n, d2⟩, pages := ⟨A3, o.pages.n, c3⟩, table := ⟨A4, o.table.n, c4⟩ })) = u := ⟨_, rfl⟩
  have Z5 := Z.row_same (pcell ({ o with children := ⟨A1, o.children.n, c1⟩, code := ⟨A2, o.code.n, c2⟩, strs := ⟨D2, o.strs.n, d2⟩, pages := ⟨A3, o.pages.n, c3⟩, table := ⟨A4, o.table.n, c4⟩ }))
  have hb5 := below_row (Below.refl (g + 1) u4) (Nat.le_refl _) (pcell ({ o with children := ⟨A1, o.children.n, c1⟩, code := ⟨A2, o.code.n, c2⟩, strs := ⟨D2, o.strs.n, d2⟩, pages := ⟨A3, o.pages.n, c3⟩, table := ⟨A4, o.table.n, c4⟩ }))
  have HF5 := Fr.row (lo := g + 2) (w := u4) (g := g + 1) (by omega) (pcell ({ o with children := ⟨A1, o.children.n, c1⟩, code := ⟨A2, o.code.n, c2⟩, strs := ⟨D2, o.strs.n, d2⟩, pages := ⟨A3, o.pages.n, c3⟩, table := ⟨A4, o.table.n, c4⟩ }))
  rw [hu9] at Z5 hb5 HF5 ⊢
  replace HST := hide (HST.out.next HF5)
  replace HB := hide (HB.out.trans (hb5.mono (by omega)))
  refine hK _ _ hb5 ?_
  clear hK K hb5 HF5 hu9
  refine doneB (by kernel_rfl) ?_
  go_simp
  go_wp2_with fail
  refine bodyPost_ret (ret_proc rfl _ (by rfl) Z5) rfl ?_
  subst hg0
  refine ⟨{ o with children := ⟨A1, o.children.n, c1⟩, code := ⟨A2, o.code.n, c2⟩, strs := ⟨D2, o.strs.n, d2⟩, pages := ⟨A3, o.pages.n, c3⟩, table := ⟨A4, o.table.n, c4⟩ }, rfl, ?_, HB.out⟩
  refine (HST.out.imp ?_).lower (Nat.le_add_right _ 2)
  rintro u ⟨⟨⟨⟨h1, h2⟩, h3⟩, h4⟩, h5⟩
  exact (⟨h1, h2, h3, h4, h5⟩ : Owns u (W.heap.size + 2) _ X).weaken (Nat.le_add_right _ 2)
/-- A process with these numbers, code, strings and table of c, pages P. -/
def Ob.childOf (o c : Ob) (pid : Int) (P : Sl) : Ob := { Ob.zero with state := o.state, parent := pid, code := c.code, strs := c.strs, ppages := o.ppages, pc := o.pc, r0 := o.r0, r1 := o.r1, r2 := o.r2, r3 := o.r3, r4 := o.r4, r5 := o.r5, r6 := o.r6, r7 := o.r7, pages := P, table := c.table }
theorem built_child (o c : Ob) (pid : Int) (P : Sl) : Tryd.prog.built 36 [(0, .int .i64 o.state), (1, .int .u64 pid), (3, .agg (prc c.code.A c.code.n c.code.c c.strs.A c.strs.n c.strs.c o.ppages)), (4, .agg (cc o.cpu)), (5, .slice P.A P.n P.c), (6, .slice c.table.A c.table.n c.table.c)] = some (pcell (o.childOf c pid P)) := by kernel_rfl
/-- What a child has of its own. -/
structure OwnsF (w : World) (lo : Nat) (c : Ob) (X : Cont) : Prop where
  code : w.ownsRow lo 72 4 (.slice c.code.A c.code.n c.code.c) c.code.n (iv X.code)
  strs : w.ownsRow lo 9 1 (.slice c.strs.A c.strs.n c.strs.c) c.strs.n (sv X.strs)
  table : w.ownsRow lo 86 4 (.slice c.table.A c.table.n c.table.c) c.table.n (stv X.table)
theorem OwnsF.weaken {w : World} {lo lo' : Nat} {c : Ob} {X : Cont} (h : OwnsF w lo c X) (hl : lo' ≤ lo) : OwnsF w lo' c X := ⟨own_weaken h.code hl, own_weaken h.strs hl, own_weaken h.table hl⟩
def ForkedPost (o : Ob) (X : Cont) (pid : Int) (P : Sl) (w : World) (e : Ending) (w' : World) : Prop := ∃ c, e = .returned (.agg (pcell (o.childOf c pid P))) ∧ Stays w.heap.size w' (fun u => OwnsF u w.heap.size c X) ∧ Below w.heap.size w w'
set_option maxRecDepth 100000 in
set_option maxHeartbeats 16000000 in
theorem pvForked_any (o : Ob) (X : Cont) (pid : Int) (PA : Option Addr) (pn pc' : Nat) (W : World) (h : HoldsP W W.heap.size o X) (hX : X.ShortP) : Calls Tryd.prog 17 #[.agg (pcell o), .int .u64 pid, .slice PA pn pc'] W (ForkedPost o X pid ⟨PA, pn, pc'⟩ W) := by
  obtain ⟨w1, hw1, O0, ZO, hb1, hs1⟩ := start_pp W o
  have HB0 := hide hb1
  have H0 := hide h
  have HX := hide hX
  clear hb1 h hX
  go_enter Tryd.func17, Tryd.ntmps17
  go_upto_region 1 with (fail)
  clear hw1
  refine region_B (by kernel_rfl) (W.heap.size + 1) ?_
  have hs2 : w1.drew.heap.size = W.heap.size + 2 := hs1
  have O : Obl w1.drew W.heap.size 36 (pcell o) := O0
  have Z : Obl w1.drew (W.heap.size + 1) 36 (pcell Ob.zero) := ZO
  have HB : Hid (Below W.heap.size W w1.drew) := hide (below_drewN HB0.out 1)
  clear O0 ZO HB0 hs1
  generalize w1.drew = u0 at *
  obtain ⟨g, hg0⟩ : ∃ g, W.heap.size = g := ⟨_, rfl⟩
  have H1 : Hid (HoldsP u0 g o X) := hide (hg0 ▸ H0.out.below HB.out)
  rw [hg0] at O Z HB hs2 ⊢
  clear H0
  refine takeB 0 rfl (by kernel_rfl) (fun _ _ _ h => h) (by rfl) (by intro w' hg; go_simp; try with_reducible rfl) ?_
  refine takeB 1 rfl (by kernel_rfl) (fun _ _ _ h => h) (by rfl) (by intro w' hg; have kk : w'.cell? ⟨g, 0, none⟩ = some (.int .i64 o.state) := (O.below hg (by omega)).cell 0; go_simp; try with_reducible rfl) ?_
  refine takeB 2 rfl (by kernel_rfl) (fun _ _ _ h => h) (by rfl) (by intro w' hg; go_simp; try with_reducible rfl) ?_
  refine takeB 3 rfl (by kernel_rfl) (fun _ _ _ h => h) (by rfl) (by intro w' hg; go_simp; try with_reducible rfl) ?_
  refine takeB 4 rfl (by kernel_rfl) (fun _ _ _ h => h) (by rfl) (by intro w' hg; exact exec_load_prog rfl rfl (O.below hg (by omega))) ?_
  refine takeB 6 rfl (by kernel_rfl) (fun _ _ _ h => h) (by rfl) (by intro w' hg; go_simp; try with_reducible rfl) ?_
  refine takeB 7 rfl (by kernel_rfl) (fun _ _ _ h => h) (by rfl) (by intro w' hg; exact exec_load_pcpu rfl rfl (O.below hg (by omega))) ?_
  refine takeB 8 rfl (by kernel_rfl) (fun _ _ _ h => h) (by rfl) (by intro w' hg; go_simp; try with_reducible rfl) ?_
  refine takeB 9 rfl (by kernel_rfl) (fun _ _ _ h => h) (by rfl) (by intro w' hg; go_simp; try with_reducible rfl) ?_
  refine takeB 10 rfl (by kernel_rfl) (fun _ _ _ h => h) (by rfl) (by intro w' hg; have kk : w'.cell? ⟨g, 16, none⟩ = some (.slice o.table.A o.table.n o.table.c) := (O.below hg (by omega)).cell 16; go_simp; try with_reducible rfl) ?_
  refine onlyB 5 rfl (by kernel_rfl) (by rfl) ?_
  intro K hK
  go_simp
  refine (pvCopyProg_any X.code X.strs _ _ _ _ _ _ g _ _ H1.out.code H1.out.strs (by omega) (by have := H1.out.code.1; have := HX.out.2.1; omega) (by have := H1.out.strs.1; have := HX.out.2.2.1; omega)).mono ?_
  rintro e u1 ⟨A1, c1, D1, d1, rfl, hown, hown2, hb⟩
  have hle1 := hb.size
  refine hK _ _ (hb.mono (by omega)) ?_
  clear hK K
  replace O := O.below hb O.lt
  replace Z := Z.below hb Z.lt
  replace H1 := hide (H1.out.below (hb.mono (by omega)))
  replace HB := hide (HB.out.trans (hb.mono (by omega)))
  have HST := hide (Stays.and (Stays.own hown (lo := g + 2) (by omega)) (Stays.own hown2 (lo := g + 2) (by omega)))
  clear hown hb hown2
  go_simp
  refine onlyB 11 rfl (by kernel_rfl) (by rfl) ?_
  intro K hK
  go_simp
  refine (cloneSlot_any _ (stv_one _) _ _ _ g _ H1.out.table.2 (by omega) (by have := H1.out.table.1; have := HX.out.2.2.2.2; omega)).mono ?_
  rintro e u2 ⟨A2, c2, rfl, hown, hb⟩
  have hle2 := hb.size
  refine hK _ _ (hb.mono (by omega)) ?_
  clear hK K
  replace O := O.below hb O.lt
  replace Z := Z.below hb Z.lt
  replace H1 := hide (H1.out.below (hb.mono (by omega)))
  replace HB := hide (HB.out.trans (hb.mono (by omega)))
  replace HST := hide (Stays.and (HST.out.next (Fr.below hb)) (Stays.own hown (lo := g + 2) (by omega)))
  clear hown hb
  go_simp
  refine takeB 12 rfl (by kernel_rfl) (fun _ _ _ h => h) (by rfl) (by intro w' hg; exact exec_build rfl (by go_simp; try rfl) (built_child o { Ob.zero with code := ⟨A1, o.code.n, c1⟩, strs := ⟨D1, o.strs.n, d1⟩, table := ⟨A2, o.table.n, c2⟩ } pid ⟨PA, pn, pc'⟩)) ?_
  go_simp
  refine onlyB 13 rfl (by kernel_rfl) (by rfl) ?_
  intro K hK
  refine wp_store_proc rfl rfl (c := (o.childOf { Ob.zero with code := ⟨A1, o.code.n, c1⟩, strs := ⟨D1, o.strs.n, d1⟩, table := ⟨A2, o.table.n, c2⟩ } pid ⟨PA, pn, pc'⟩)) rfl Z rfl ?_
  obtain ⟨u9, hu9⟩ : ∃ u, u2.setRow (g + 1) (pcell (o.childOf { Ob.zero with code := ⟨A1, o.code.n, c1⟩, strs := ⟨D1, o.strs.n, d1⟩, table := ⟨A2, o.table.n, c2⟩ } pid ⟨PA, pn, pc'⟩)) = u := ⟨_, rfl⟩
  have Z5 := Z.row_same (pcell (o.childOf { Ob.zero with code := ⟨A1, o.code.n, c1⟩, strs := ⟨D1, o.strs.n, d1⟩, table := ⟨A2, o.table.n, c2⟩ } pid ⟨PA, pn, pc'⟩))
  have hb5 := below_row (Below.refl (g + 1) u2) (Nat.le_refl _) (pcell (o.childOf { Ob.zero with code := ⟨A1, o.code.n, c1⟩, strs := ⟨D1, o.strs.n, d1⟩, table := ⟨A2, o.table.n, c2⟩ } pid ⟨PA, pn, pc'⟩))
  have HF5 := Fr.row (lo := g + 2) (w := u2) (g := g + 1) (by omega) (pcell (o.childOf { Ob.zero with code := ⟨A1, o.code.n, c1⟩, strs := ⟨D1, o.strs.n, d1⟩, table := ⟨A2, o.table.n, c2⟩ } pid ⟨PA, pn, pc'⟩))
  rw [hu9] at Z5 hb5 HF5 ⊢
  replace HST := hide (HST.out.next HF5)
  replace HB := hide (HB.out.trans (hb5.mono (by omega)))
  refine hK _ _ hb5 ?_
  clear hK K hb5 HF5 hu9
  refine doneB (by kernel_rfl) ?_
  go_simp
  go_wp2_with fail
  refine bodyPost_ret (ret_proc rfl _ (by rfl) Z5) rfl ?_
  subst hg0
  refine ⟨{ Ob.zero with code := ⟨A1, o.code.n, c1⟩, strs := ⟨D1, o.strs.n, d1⟩, table := ⟨A2, o.table.n, c2⟩ }, rfl, ?_, HB.out⟩
  refine (HST.out.imp ?_).lower (Nat.le_add_right _ 2)
  rintro u ⟨⟨h1, h2⟩, h3⟩
  exact (⟨h1, h2, h3⟩ : OwnsF u (W.heap.size + 2) _ X).weaken (Nat.le_add_right _ 2)
/-- An object around a process. -/
def Ob.obj (o : Ob) (id : Int) : Ob := { o.only with id := id, kind := 1 }
theorem built_obj (o : Ob) (id : Int) : Tryd.prog.built 42 [(0, .int .u64 id), (1, .int .i64 1), (3, .agg (pcell o))] = some (oc (o.obj id)) := by kernel_rfl
set_option maxRecDepth 100000 in
set_option maxHeartbeats 4000000 in
theorem pvObject_any (o : Ob) (id : Int) (W : World) : Calls Tryd.prog 11 #[.int .u64 id, .agg (pcell o)] W fun e w' => e = .returned (.agg (oc (o.obj id))) ∧ Below W.heap.size W w' := by
  obtain ⟨w1, hw1, Z, hb1, hs1⟩ := start_z (W.alloc (.cells (pcell o) 36))
  have O : Obl w1 W.heap.size 36 (pcell o) := (Obl.make W _ _).below hb1 (by simp)
  have HB := hide (((Below.refl W.heap.size W).alloc (Nat.le_refl _) (.cells (pcell o) 36)).trans (hb1.mono (by simp)))
  rw [World.size_alloc] at Z
  clear hb1 hs1
  go_enter Tryd.func11, Tryd.ntmps11
  go_wp2_with (first | (refine wpList_val (by rfl) (exec_load_proc0 rfl rfl O) ?_) | (refine wpList_val (by rfl) (exec_build (t := 42) (vs := [(0, .int .u64 id), (1, .int .i64 1), (3, .agg (pcell o))]) rfl (by go_simp) (built_obj o id)) ?_) | (refine store_ob rfl _ _ rfl rfl (c := o.obj id) rfl Z rfl ?_) | fail)
  refine bodyPost_ret (ret_ob rfl _ (by rfl) (Z.row_same _)) rfl ?_
  exact ⟨rfl, below_row HB.out (Nat.le_succ _) _⟩
end Go.Proofs.YtdglcpepgodcpaaDoor
