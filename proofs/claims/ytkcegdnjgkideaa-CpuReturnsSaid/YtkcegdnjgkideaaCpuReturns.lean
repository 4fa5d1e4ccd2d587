/- Layer 5: how loads, stores and calls go on (CpuReturns): the walk. (Written by tools/mkret.py.) -/
import Derived.Test.YtkcegdnjgkideaaCpuLaw
import Derived.Test.YtkcegdnjgkideaaCpuRefBase
import Derived.Test.YtkcegdnjgkideaaEql
import Derived.Test.YtkcegdnjgkideaaRegion
namespace Go.Proofs.Ytkcegdnjgkideaa
open Go.RowKit

theorem put_two (c : Cp.Cpu) (a b : Int) : Cp.loaded (Cp.put c 1 b) 0 a = Cp.stored (Cp.put (Cp.put c 0 a) 1 b) := by
  unfold Cp.loaded Cp.put
  rw [if_pos (by decide)]
  congr 2
  exact (List.set_comm _ _ (by decide)).symm
set_option maxRecDepth 100000 in
set_option maxHeartbeats 8000000 in
theorem cpuReturns_any (c : Cp.Cpu) (h8 : c.regs.length = 8) (n a b : Int) (W : World) : Calls Try.prog 4 #[.agg (cc c), .int .i64 n, .int .i64 a, .int .i64 b] W fun e w' => e = .returned (.bool true) ∧ Below W.heap.size W w' := by
  obtain ⟨w1, hw, O0, hb1⟩ : ∃ w1, W.alloc (.cells (cc c) 24) = w1 ∧ Obl w1 W.heap.size 24 (cc c) ∧ Below W.heap.size W w1 := ⟨_, rfl, Obl.make W 24 (cc c), (Below.refl _ _).alloc (Nat.le_refl _) _⟩
  have HB1 := hide hb1
  have h82 : (Cp.stored (Cp.put (Cp.put c 0 a) 1 b)).regs.length = 8 := by simp [Cp.stored, Cp.put, h8]
  clear hb1
  go_enter Try.func4, Try.ntmps4
  go_wp2_with fail
  refine (sane_any _).mono ?_
  rintro e w2 ⟨rfl, hb⟩
  have O2 := O0.below hb O0.lt
  have HB2 := hide (HB1.out.trans (hb.mono HB1.out.size))
  clear hb HB1 O0 hw
  go_wp2_with fail
  refine region_G (by kernel_rfl) ?_
  obtain ⟨u, hu, O, hb⟩ : ∃ u, w2.drew = u ∧ Obl u W.heap.size 24 (cc c) ∧ Hid (Below W.heap.size W u) := ⟨_, rfl, O2, hide ⟨HB2.out.os, HB2.out.tape, HB2.out.output, HB2.out.size, HB2.out.block⟩⟩
  rw [hu]
  clear hu O2 HB2
  refine take_ 0 rfl (by kernel_rfl) (fun _ _ _ h => h) (by rfl) (by intro w' hg; exact exec_load_cpu rfl rfl (O.below hg O.lt) h8) ?_
  refine take_ 1 rfl (by kernel_rfl) (fun _ _ _ h => h) (by rfl) (by intro w' hg; go_simp; try with_reducible rfl) ?_
  refine take_ 2 rfl (by kernel_rfl) (fun _ _ _ h => h) (by rfl) (by intro w' hg; go_simp; try with_reducible rfl) ?_
  refine take_ 4 rfl (by kernel_rfl) (fun _ _ _ h => h) (by rfl) (by intro w' hg; exact exec_load_cpu rfl rfl (O.below hg O.lt) h8) ?_
  refine take_ 5 rfl (by kernel_rfl) (fun _ _ _ h => h) (by rfl) (by intro w' hg; go_simp; try with_reducible rfl) ?_
  refine take_ 6 rfl (by kernel_rfl) (fun _ _ _ h => h) (by rfl) (by intro w' hg; go_simp; try with_reducible rfl) ?_
  refine only_ 3 rfl (by kernel_rfl) (by rfl) ?_
  intro K hK
  go_simp
  refine (loaded_any c h8 _ _ _).mono ?_
  rintro e v ⟨rfl, hb1⟩
  refine hK _ _ hb1 ?_
  clear hK K
  replace O := O.below hb1 O.lt
  replace hb := hide (hb.out.trans (hb1.mono hb.out.size))
  clear hb1
  refine only_ 7 rfl (by kernel_rfl) (by rfl) ?_
  intro K hK
  go_simp
  refine (loadedR_any c h8 _ _ _).mono ?_
  rintro e v ⟨rfl, hb1⟩
  refine hK _ _ hb1 ?_
  clear hK K
  replace O := O.below hb1 O.lt
  replace hb := hide (hb.out.trans (hb1.mono hb.out.size))
  clear hb1
  refine take_ 8 rfl (by kernel_rfl) (fun _ _ _ h => h) (by rfl) (by intro w' hg; exact exec_same_cpu rfl rfl rfl (loaded_8 h8 _ _)) ?_
  refine take_ 9 rfl (by kernel_rfl) (fun _ _ _ h => h) (by rfl) (by intro w' hg; go_simp; try with_reducible rfl) ?_
  refine take_ 10 rfl (by kernel_rfl) (fun _ _ _ h => h) (by kernel_rfl) (by intro w' hg; exact exec_load_cpu rfl rfl (O.below hg O.lt) h8) ?_
  refine take_ 11 rfl (by kernel_rfl) (fun _ _ _ h => h) (by kernel_rfl) (by intro w' hg; go_simp; try with_reducible rfl) ?_
  refine take_ 12 rfl (by kernel_rfl) (fun _ _ _ h => h) (by kernel_rfl) (by intro w' hg; go_simp; try with_reducible rfl) ?_
  refine take_ 13 rfl (by kernel_rfl) (fun _ _ _ h => h) (by kernel_rfl) (by intro w' hg; go_simp; try with_reducible rfl) ?_
  refine take_ 15 rfl (by kernel_rfl) (fun _ _ _ h => h) (by kernel_rfl) (by intro w' hg; exact exec_load_cpu rfl rfl (O.below hg O.lt) h8) ?_
  refine take_ 16 rfl (by kernel_rfl) (fun _ _ _ h => h) (by kernel_rfl) (by intro w' hg; go_simp; try with_reducible rfl) ?_
  refine take_ 17 rfl (by kernel_rfl) (fun _ _ _ h => h) (by kernel_rfl) (by intro w' hg; go_simp; try with_reducible rfl) ?_
  refine take_ 18 rfl (by kernel_rfl) (fun _ _ _ h => h) (by kernel_rfl) (by intro w' hg; go_simp; try with_reducible rfl) ?_
  refine only_ 14 rfl (by kernel_rfl) (by kernel_rfl) ?_
  intro K hK
  go_simp
  refine (loaded_any c h8 _ _ _).mono ?_
  rintro e v ⟨rfl, hb1⟩
  refine hK _ _ hb1 ?_
  clear hK K
  replace O := O.below hb1 O.lt
  replace hb := hide (hb.out.trans (hb1.mono hb.out.size))
  clear hb1
  refine only_ 19 rfl (by kernel_rfl) (by kernel_rfl) ?_
  intro K hK
  go_simp
  refine (loadedR_any c h8 _ _ _).mono ?_
  rintro e v ⟨rfl, hb1⟩
  refine hK _ _ hb1 ?_
  clear hK K
  replace O := O.below hb1 O.lt
  replace hb := hide (hb.out.trans (hb1.mono hb.out.size))
  clear hb1
  refine take_ 20 rfl (by kernel_rfl) (fun _ _ _ h => h) (by kernel_rfl) (by intro w' hg; exact exec_same_cpu rfl rfl rfl (loaded_8 h8 _ _)) ?_
  refine take_ 21 rfl (by kernel_rfl) (fun _ _ _ h => h) (by rfl) (by intro w' hg; go_simp; try with_reducible rfl) ?_
  refine take_ 22 rfl (by kernel_rfl) (fun _ _ _ h => h) (by rfl) (by intro w' hg; go_simp; try with_reducible rfl) ?_
  refine take_ 23 rfl (by kernel_rfl) (fun _ _ _ h => h) (by kernel_rfl) (by intro w' hg; exact exec_load_cpu rfl rfl (O.below hg O.lt) h8) ?_
  refine take_ 25 rfl (by kernel_rfl) (fun _ _ _ h => h) (by kernel_rfl) (by intro w' hg; exact exec_load_cpu rfl rfl (O.below hg O.lt) h8) ?_
  refine only_ 24 rfl (by kernel_rfl) (by kernel_rfl) ?_
  intro K hK
  go_simp
  refine (stored_any c h8 _).mono ?_
  rintro e v ⟨rfl, hb1⟩
  refine hK _ _ hb1 ?_
  clear hK K
  replace O := O.below hb1 O.lt
  replace hb := hide (hb.out.trans (hb1.mono hb.out.size))
  clear hb1
  refine only_ 26 rfl (by kernel_rfl) (by kernel_rfl) ?_
  intro K hK
  go_simp
  refine (storedR_any c h8 _).mono ?_
  rintro e v ⟨rfl, hb1⟩
  refine hK _ _ hb1 ?_
  clear hK K
  replace O := O.below hb1 O.lt
  replace hb := hide (hb.out.trans (hb1.mono hb.out.size))
  clear hb1
  refine take_ 27 rfl (by kernel_rfl) (fun _ _ _ h => h) (by kernel_rfl) (by intro w' hg; exact exec_same_cpu rfl rfl rfl (h8)) ?_
  refine take_ 28 rfl (by kernel_rfl) (fun _ _ _ h => h) (by rfl) (by intro w' hg; go_simp; try with_reducible rfl) ?_
  refine take_ 29 rfl (by kernel_rfl) (fun _ _ _ h => h) (by rfl) (by intro w' hg; go_simp; try with_reducible rfl) ?_
  refine take_ 30 rfl (by kernel_rfl) (fun _ _ _ h => h) (by kernel_rfl) (by intro w' hg; exact exec_load_cpu rfl rfl (O.below hg O.lt) h8) ?_
  refine take_ 31 rfl (by kernel_rfl) (fun _ _ _ h => h) (by kernel_rfl) (by intro w' hg; go_simp; try with_reducible rfl) ?_
  refine take_ 33 rfl (by kernel_rfl) (fun _ _ _ h => h) (by kernel_rfl) (by intro w' hg; exact exec_load_cpu rfl rfl (O.below hg O.lt) h8) ?_
  refine take_ 34 rfl (by kernel_rfl) (fun _ _ _ h => h) (by kernel_rfl) (by intro w' hg; go_simp; try with_reducible rfl) ?_
  refine only_ 32 rfl (by kernel_rfl) (by kernel_rfl) ?_
  intro K hK
  go_simp
  refine (returned_any c h8 _ _).mono ?_
  rintro e v ⟨rfl, hb1⟩
  refine hK _ _ hb1 ?_
  clear hK K
  replace O := O.below hb1 O.lt
  replace hb := hide (hb.out.trans (hb1.mono hb.out.size))
  clear hb1
  refine only_ 35 rfl (by kernel_rfl) (by kernel_rfl) ?_
  intro K hK
  go_simp
  refine (returnedR_any c h8 _ _).mono ?_
  rintro e v ⟨rfl, hb1⟩
  refine hK _ _ hb1 ?_
  clear hK K
  replace O := O.below hb1 O.lt
  replace hb := hide (hb.out.trans (hb1.mono hb.out.size))
  clear hb1
  refine take_ 36 rfl (by kernel_rfl) (fun _ _ _ h => h) (by kernel_rfl) (by intro w' hg; exact exec_same_cpu rfl rfl rfl (loaded_8 h8 _ _)) ?_
  refine take_ 37 rfl (by kernel_rfl) (fun _ _ _ h => h) (by rfl) (by intro w' hg; go_simp; try with_reducible rfl) ?_
  refine take_ 38 rfl (by kernel_rfl) (fun _ _ _ h => h) (by rfl) (by intro w' hg; go_simp; try with_reducible rfl) ?_
  refine take_ 39 rfl (by kernel_rfl) (fun _ _ _ h => h) (by kernel_rfl) (by intro w' hg; exact exec_load_cpu rfl rfl (O.below hg O.lt) h8) ?_
  refine take_ 40 rfl (by kernel_rfl) (fun _ _ _ h => h) (by kernel_rfl) (by intro w' hg; go_simp; try with_reducible rfl) ?_
  refine take_ 41 rfl (by kernel_rfl) (fun _ _ _ h => h) (by kernel_rfl) (by intro w' hg; go_simp; try with_reducible rfl) ?_
  refine take_ 43 rfl (by kernel_rfl) (fun _ _ _ h => h) (by kernel_rfl) (by intro w' hg; exact exec_load_cpu rfl rfl (O.below hg O.lt) h8) ?_
  refine take_ 44 rfl (by kernel_rfl) (fun _ _ _ h => h) (by kernel_rfl) (by intro w' hg; go_simp; try with_reducible rfl) ?_
  refine take_ 45 rfl (by kernel_rfl) (fun _ _ _ h => h) (by kernel_rfl) (by intro w' hg; go_simp; try with_reducible rfl) ?_
  refine only_ 42 rfl (by kernel_rfl) (by kernel_rfl) ?_
  intro K hK
  go_simp
  refine (returned2_any c h8 _ _ _).mono ?_
  rintro e v ⟨rfl, hb1⟩
  refine hK _ _ hb1 ?_
  clear hK K
  replace O := O.below hb1 O.lt
  replace hb := hide (hb.out.trans (hb1.mono hb.out.size))
  clear hb1
  refine only_ 46 rfl (by kernel_rfl) (by kernel_rfl) ?_
  intro K hK
  go_simp
  refine (returned2R_any c h8 _ _ _).mono ?_
  rintro e v h
  rw [put_two] at h
  obtain ⟨rfl, hb1⟩ := h
  refine hK _ _ hb1 ?_
  clear hK K
  replace O := O.below hb1 O.lt
  replace hb := hide (hb.out.trans (hb1.mono hb.out.size))
  clear hb1
  refine take_ 47 rfl (by kernel_rfl) (fun _ _ _ h => h) (by kernel_rfl) (by intro w' hg; exact exec_same_cpu rfl rfl rfl (h82)) ?_
  refine take_ 48 rfl (by kernel_rfl) (fun _ _ _ h => h) (by rfl) (by intro w' hg; go_simp; try with_reducible rfl) ?_
  refine take_ 49 rfl (by kernel_rfl) (fun _ _ _ h => h) (by rfl) (by intro w' hg; go_simp; try with_reducible rfl) ?_
  refine done_ (by kernel_rfl) ?_
  go_simp
  go_wp2
  go_ret
  exact ⟨rfl, hb.out⟩
end Go.Proofs.Ytkcegdnjgkideaa
