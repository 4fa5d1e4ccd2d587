/- Layer 5: Next. (Its region is written by tools/mknext.py.) -/
import Derived.Test.YtkcegdnjgkideaaCpuOpers
namespace Go.Proofs.Ytkcegdnjgkideaa
open Go.RowKit Go.Maps

/-- A program's cells. -/
def pc3 (A : Option Addr) (n k : Nat) (D : Option Addr) (m d : Nat) (pages : Int) : Array Value := #[.slice A n k, .slice D m d, .int .i64 pages]
/-- Where a function begins that copies a processor and a program and gives a processor and an action back. -/
structure StP (w u : World) (c : Cp.Cpu) (A : Option Addr) (n k : Nat) (D : Option Addr) (m d : Nat) (pages : Int) : Prop where
  o0 : Obl u w.heap.size 24 (cc c)
  op : Obl u (w.heap.size + 1) 28 #[.slice A n k, .slice D m d, .int .i64 pages]
  bel : Below w.heap.size w u
  size : w.heap.size + 2 ≤ u.heap.size
section
variable {w u u' : World} {c : Cp.Cpu} {A D : Option Addr} {n k m d : Nat} {pages : Int}
theorem StP.next (h : StP w u c A n k D m d pages) (hg : Below (w.heap.size + 2) u u') : StP w u' c A n k D m d pages := ⟨h.o0.below hg (by omega), h.op.below hg (by omega), h.bel.trans (hg.mono (by omega)), Nat.le_trans h.size hg.size⟩
theorem StP.later (h : StP w u c A n k D m d pages) (hg : Below u.heap.size u u') : Below (w.heap.size + 2) u u' := hg.mono h.size
theorem StP.code (h : StP w u c A n k D m d pages) : u.cell? ⟨w.heap.size + 1, 0, none⟩ = some (.slice A n k) := by have := h.op.cell 0; simpa using this
theorem StP.reg' (h : StP w u c A n k D m d pages) (h8 : c.regs.length = 8) {i : Int} (hi : 0 ≤ i ∧ i < 8) : u.cell? ⟨w.heap.size, 1 + i.toNat, none⟩ = some (.int .i64 (Cp.get c i)) := cc_reg h.o0 h8 hi
theorem start_p (w : World) (c : Cp.Cpu) (A D : Option Addr) (n k m d : Nat) (pages : Int) : ∃ w1, (((w.alloc (.cells (cc c) 24)).alloc (.cells #[.slice A n k, .slice D m d, .int .i64 pages] 28)).alloc (.cells #[.int .i64 0, .int .i64 0, .int .i64 0, .int .i64 0, .int .i64 0, .int .i64 0, .int .i64 0, .int .i64 0, .int .i64 0] 24)).alloc (.cells #[.int .i64 0, .int .i64 0, .int .i64 0, .int .i64 0, .int .i64 0, .int .i64 0, .int .i64 0, .int .i64 0] 42) = w1 ∧ StP w w1 c A n k D m d pages ∧ StB w w1 := by
  have h0 := Obl.make w 24 (cc c)
  have h1 := Obl.make (w.alloc (.cells (cc c) 24)) 28 #[.slice A n k, .slice D m d, .int .i64 pages]
  have b1 := ((Below.refl w.heap.size w).alloc (Nat.le_refl _) (.cells (cc c) 24)).alloc (by simp) (.cells #[.slice A n k, .slice D m d, .int .i64 pages] 28)
  rw [World.size_alloc] at h1
  have h0' := h0.alloc (.cells #[.slice A n k, .slice D m d, .int .i64 pages] 28)
  have hs : ((w.alloc (.cells (cc c) 24)).alloc (.cells #[.slice A n k, .slice D m d, .int .i64 pages] 28)).heap.size = w.heap.size + 2 := by simp
  clear h0
  generalize (w.alloc (.cells (cc c) 24)).alloc (.cells #[.slice A n k, .slice D m d, .int .i64 pages] 28) = u at *
  have hP : StP w u c A n k D m d pages := ⟨h0', h1, b1, by omega⟩
  refine ⟨_, rfl, hP.next (((Below.refl _ _).alloc (by omega) _).alloc (by simp; omega) _), ⟨?_, ?_⟩⟩
  · have := (Obl.make u 24 zc).alloc (.cells za 42)
    rwa [hs] at this
  · have := Obl.make (u.alloc (.cells zc 24)) 42 za
    rwa [World.size_alloc, hs] at this
end
section
variable {ops : Array Oper} {rest : List Oper} {o : Oper} {a : Act} {w : World} {K : Act → World → Prop} {Q : Exit → Act → World → Prop}
theorem store_ins (hgd : o.guard = none) (x y : Operand) (ho : o.op = .store 31 x y) {g : Nat} (hx : a.eval x = .pointer (some ⟨g, 0, none⟩)) {p q r s : Int} (hy : a.eval y = .agg #[.int .i64 p, .int .i64 q, .int .i64 r, .int .i64 s]) {old : Array Value} {t : TypeId} (h : Obl w g t old) (hold : old.size = 4)
    (hK : wpList Try.prog ops Q rest (a.put o.dst undef) (w.setRow g #[.int .i64 p, .int .i64 q, .int .i64 r, .int .i64 s])) : wpList Try.prog ops Q (o :: rest) a w :=
  wpList_store_row hgd _ x y ho g _ hx hy t old h insSize hold (by simp [Value.oneCell']) hK
theorem wp_look_map {P : Program} {k e : TypeId} {b n : Nat} {L : List (Lit × Value)} (m x : Operand) (t : TypeId) (hop : o.op = Op.lookup t m x true) (Kd : Keyed P k) (ht : P.underlying t = some (.map k e)) {z : Value} (hz : (zeroValue e).run P w = .ok z w)
    (h : MapIs P k w b n L) (hm : a.eval m = .map (some b)) {key : Value} {kl : Lit} (hx : a.eval x = key) (hkey : keyOf P k key = some kl)
    (hK : K (a.put o.dst (.tuple #[(look L kl).getD z, .bool (look L kl).isSome])) w) : o.wp P a w K Q := by
  obtain ⟨D, h1, h2, h3⟩ := h
  obtain ⟨v, ps, hrun, hv⟩ := h1.look_ok Kd ht hz (show selfElem z = some (.held z, []) from rfl) hkey
  rw [(h3 kl).2 z] at hv
  simp only [selfElem, Option.some.injEq, Prod.mk.injEq, DataW.held.injEq] at hv
  rw [hv.1, (h3 kl).1] at hrun
  unfold Oper.wp
  simp [execOp, hop, hm, hx, hrun, Result.andThen]
  exact hK
theorem zeroOp (w : World) : (zeroValue 64).run Try.prog w = .ok .nilFunc w := by kernel_rfl
end
theorem exec_fit (c : Cp.Cpu) (x : Cd.Ins) (h8 : c.regs.length = 8) : (Cp.exec c x).1.regs.length = 8 ∧ (Cp.exec c x).2.args.length = 3 := by
  unfold Cp.exec
  repeat' split
  all_goals first | exact ⟨h8, rfl⟩ | exact ⟨loaded_8 h8 _ _, rfl⟩
theorem exec_none {c : Cp.Cpu} {x : Cd.Ins} (h : ¬ (0 ≤ x.op ∧ x.op < 13)) : Cp.exec c x = (c, Cp.fault) := by
  unfold Cp.exec
  repeat rw [if_neg (by omega)]

set_option maxRecDepth 100000 in
set_option maxHeartbeats 2000000 in
theorem next_out (c : Cp.Cpu) (h8 : c.regs.length = 8) (A D : Option Addr) (n k m d : Nat) (pages : Int) (hp : ¬ (0 ≤ c.pc ∧ c.pc < (n : Int))) (w : World) :
    Calls Try.prog 13 #[.agg (cc c), .agg #[.slice A n k, .slice D m d, .int .i64 pages]] w (TwoPost (c, Cp.fault) w) := by
  obtain ⟨w1, hw, ST, SR⟩ := start_p w c A D n k m d pages
  have k0 := cc_pc ST.o0
  have k1 := ST.code
  by_cases h0 : c.pc < 0
  · clear hp
    go_enter Try.func13, Try.ntmps13
    go_wp2_with (first | (refine load_cpu rfl _ rfl rfl ST.o0 h8 ?_) | fail)
    refine (fault_any c h8 _).mono ?_
    rintro e w4 ⟨rfl, hb4⟩
    obtain ⟨E0, E1, E2, hbe⟩ := ends_2 (g := w.heap.size + 2) (SR.next hb4).o1 (SR.next hb4).o2 (ST.next (ST.later hb4)).bel (by omega) c Cp.fault
    have O1 := (SR.next hb4).o1
    clear hb4 ST SR k0 k1
    go_wp2_with (first | (refine store_cpu rfl _ _ rfl rfl rfl O1 rfl h8 ?_) | (refine store_act rfl _ _ rfl rfl (c := Cp.fault) rfl E1 rfl rfl ?_) | fail)
    refine bodyPost_ret (ret_two rfl _ rfl E0 h8 rfl E2 rfl) rfl ?_
    exact ⟨rfl, hbe⟩
  · have h0' : 0 ≤ c.pc := by omega
    have h1' : (n : Int) ≤ c.pc := by omega
    clear hp h0
    go_enter Try.func13, Try.ntmps13
    go_wp2_with (first | (refine load_cpu rfl _ rfl rfl ST.o0 h8 ?_) | fail)
    refine (fault_any c h8 _).mono ?_
    rintro e w4 ⟨rfl, hb4⟩
    obtain ⟨E0, E1, E2, hbe⟩ := ends_2 (g := w.heap.size + 2) (SR.next hb4).o1 (SR.next hb4).o2 (ST.next (ST.later hb4)).bel (by omega) c Cp.fault
    have O1 := (SR.next hb4).o1
    clear hb4 ST SR k0 k1
    go_wp2_with (first | (refine store_cpu rfl _ _ rfl rfl rfl O1 rfl h8 ?_) | (refine store_act rfl _ _ rfl rfl (c := Cp.fault) rfl E1 rfl rfl ?_) | fail)
    refine bodyPost_ret (ret_two rfl _ rfl E0 h8 rfl E2 rfl) rfl ?_
    exact ⟨rfl, hbe⟩

/-- The instruction in a block of its own. -/
theorem start_ins {w w1 : World} {c : Cp.Cpu} {A D : Option Addr} {n k m d : Nat} {pages : Int} (ST : StP w w1 c A n k D m d pages) (SR : StB w w1) : ∃ w2, w1.alloc (.cells #[.int .i64 0, .int .i64 0, .int .i64 0, .int .i64 0] 31) = w2 ∧ (StP w w2 c A n k D m d pages ∧ StB w w2) ∧ Obl w2 w1.heap.size 31 #[.int .i64 0, .int .i64 0, .int .i64 0, .int .i64 0] ∧ Below w1.heap.size w1 w2 := by
  have hb : Below w1.heap.size w1 (w1.alloc (.cells #[.int .i64 0, .int .i64 0, .int .i64 0, .int .i64 0] 31)) := (Below.refl _ _).alloc (Nat.le_refl _) _
  exact ⟨_, rfl, ⟨ST.next (ST.later hb), SR.next hb⟩, Obl.make w1 _ _, hb⟩
set_option maxRecDepth 100000 in
set_option maxHeartbeats 4000000 in
theorem next_in (c : Cp.Cpu) (h8 : c.regs.length = 8) (code : List Cd.Ins) (A D : Option Addr) (n k m d : Nat) (pages : Int) (B : Nat) (w : World) (h : Inss w B A n code) (hB : B ≤ w.heap.size) (h64 : ∀ x ∈ code, Cd.in64 x) (j : Nat) (hj : j < n) (hp : c.pc = (j : Int)) :
    Calls Try.prog 13 #[.agg (cc c), .agg #[.slice A n k, .slice D m d, .int .i64 pages]] w (TwoPost (Cp.next c code) w) := by
  obtain ⟨w1, hw, ST, SR⟩ := start_p w c A D n k m d pages
  have k0 := cc_pc ST.o0
  rw [hp] at k0
  have k1 := ST.code
  have hI := h.belowLe ST.bel hB
  obtain ⟨b, o, hjl, rfl, hb, c0, c1, c2, c3⟩ := hI.at_ hj
  have HN : Hid (Cp.next c code = Cp.exec c code[j]) := hide (Cp.next_at hjl hp)
  have H64 := hide (h64 _ (List.getElem_mem hjl))
  generalize code[j] = x at *
  obtain ⟨w2, hw2, ⟨ST2, SR2⟩, OI, hb2⟩ := start_ins ST SR
  have hgi : w.heap.size + 2 ≤ w1.heap.size := ST.size
  have OI3 := OI.row_same #[.int .i64 x.op, .int .i64 x.a, .int .i64 x.b, .int .i64 x.c]
  have hb3 : Below w1.heap.size w2 (w2.setRow w1.heap.size #[.int .i64 x.op, .int .i64 x.a, .int .i64 x.b, .int .i64 x.c]) := below_row (Below.refl _ _) (Nat.le_refl _) _
  have ST3 := ST2.next (hb3.mono ST.size)
  have SR3 : StB w (w2.setRow w1.heap.size #[.int .i64 x.op, .int .i64 x.a, .int .i64 x.b, .int .i64 x.c]) := ⟨SR2.o1.row_other (by have := SR.o1.lt; omega) _, SR2.o2.row_other (by have := SR.o2.lt; omega) _⟩
  have hgs : w1.heap.size < w2.heap.size := OI.lt
  clear hI h h64 hB hb hp ST2 SR2 SR hb2 hb3 ST
  go_enter Try.func13, Try.ntmps13
  go_wp2_with (first | (refine store_ins rfl _ _ rfl rfl rfl OI rfl ?_) | fail)
  by_cases hx : 0 ≤ x.op ∧ x.op < 13
  · have hx0 := hx.1
    have hx1 := hx.2
    refine region_B (by kernel_rfl) (w1.heap.size + 1) ?_
    obtain ⟨u, hu, ST, SR, OX⟩ : ∃ u, (w2.setRow w1.heap.size #[.int .i64 x.op, .int .i64 x.a, .int .i64 x.b, .int .i64 x.c]).drew = u ∧ StP w u c (some ⟨b, o, none⟩) n k D m d pages ∧ StB w u ∧ Obl u w1.heap.size 31 #[.int .i64 x.op, .int .i64 x.a, .int .i64 x.b, .int .i64 x.c] :=
      ⟨_, rfl, ⟨ST3.o0, ST3.op, ⟨ST3.bel.os, ST3.bel.tape, ST3.bel.output, ST3.bel.size, ST3.bel.block⟩, ST3.size⟩, ⟨SR3.o1, SR3.o2⟩, OI3⟩
    rw [hu]
    clear hu ST3 SR3 OI3 OI hw2 hw k0 k1 c0 c1 c2 c3
    have hlt := OX.lt
    refine takeB 1 rfl (by kernel_rfl) (fun _ _ _ h => h) (by rfl) (by intro w' hg; go_simp; try with_reducible rfl) ?_
    refine takeB 2 rfl (by kernel_rfl) (fun _ _ _ h => h) (by rfl) (by intro w' hg; have g1 := (OX.below hg (by omega)).cell 0; simp at g1; go_simp; try with_reducible rfl) ?_
    refine onlyB 0 rfl (by kernel_rfl) (by rfl) ?_
    intro K hK
    go_simp
    refine (operations_any _).mono ?_
    rintro e u1 ⟨rfl, HO, hb⟩
    refine hK _ _ (hb.mono (by omega)) ?_
    clear hK K
    replace ST := ST.next (ST.later hb)
    replace SR := SR.next hb
    replace OX := OX.below hb hlt
    generalize u.heap.size = gm at *
    obtain ⟨L, hM, hL⟩ := HO
    refine onlyB 3 rfl (by kernel_rfl) (by rfl) ?_
    intro K hK
    refine wp_look_map _ _ 66 rfl keyInt Try.underlying66 (zeroOp _) hM rfl rfl (keyOf_int_mk Try.underlying3 (WalkArith.wf_i64 (by have := H64.out.1; omega))) ?_
    obtain ⟨v, hv, fid, caps, S, rfl, hcf, _, hcall⟩ := (hL x.op).1 (by omega)
    rw [hv]
    refine hK _ _ (Below.refl _ _) ?_
    clear hK K
    simp only [Option.getD_some, Option.isSome_some]
    have HC := hide (hcall u1 (fun _ _ => rfl) c x h8 trivial)
    clear hv hL hM hcall hb
    refine takeB 4 rfl (by kernel_rfl) (fun _ _ _ h => h) (by rfl) (by intro w' hg; go_simp; try with_reducible rfl) ?_
    refine takeB 5 rfl (by kernel_rfl) (fun _ _ _ h => h) (by rfl) (by intro w' hg; go_simp; try with_reducible rfl) ?_
    refine takeB 6 rfl (by kernel_rfl) (fun _ _ _ h => h) (by rfl) (by intro w' hg; go_simp; try with_reducible rfl) ?_
    refine takeB 7 rfl (by kernel_rfl) (fun _ _ _ h => h) (by rfl) (by intro w' hg; go_simp; try with_reducible rfl) ?_
    refine takeB 8 rfl (by kernel_rfl) (fun _ _ _ h => h) (by rfl) (by intro w' hg; go_simp; try with_reducible rfl) ?_
    refine doneB (by kernel_rfl) ?_
    go_simp
    go_wp2_with (first | (refine load_cpu rfl _ rfl rfl ST.o0 h8 ?_) | (refine load_ins rfl _ rfl rfl OX ?_) | fail)
    refine HC.out.mono ?_
    rintro e w4 ⟨rfl, hb4⟩
    have hfit := exec_fit c x h8
    have h8' := hfit.1
    have h3' := hfit.2
    obtain ⟨E0, E1, E2, hbe⟩ := ends_2 (g := w.heap.size + 2) (SR.next hb4).o1 (SR.next hb4).o2 (ST.next (ST.later hb4)).bel (by omega) (opf x.op c x).1 (opf x.op c x).2
    have O1 := (SR.next hb4).o1
    clear hb4 ST SR OX hfit HC
    go_wp2_with (first | (refine store_cpu rfl _ _ rfl rfl rfl O1 rfl h8' ?_) | (refine store_act rfl _ _ rfl rfl (c := (opf x.op c x).2) rfl E1 rfl h3' ?_) | fail)
    refine bodyPost_ret (ret_two rfl _ rfl E0 h8' rfl E2 h3') rfl ?_
    rw [HN.out]
    exact ⟨rfl, hbe⟩
  · have HX := hide hx
    refine region_B (by kernel_rfl) (w1.heap.size + 1) ?_
    obtain ⟨u, hu, ST, SR, OX⟩ : ∃ u, (w2.setRow w1.heap.size #[.int .i64 x.op, .int .i64 x.a, .int .i64 x.b, .int .i64 x.c]).drew = u ∧ StP w u c (some ⟨b, o, none⟩) n k D m d pages ∧ StB w u ∧ Obl u w1.heap.size 31 #[.int .i64 x.op, .int .i64 x.a, .int .i64 x.b, .int .i64 x.c] :=
      ⟨_, rfl, ⟨ST3.o0, ST3.op, ⟨ST3.bel.os, ST3.bel.tape, ST3.bel.output, ST3.bel.size, ST3.bel.block⟩, ST3.size⟩, ⟨SR3.o1, SR3.o2⟩, OI3⟩
    rw [hu]
    clear hu ST3 SR3 OI3 OI hw2 hw k0 k1 c0 c1 c2 c3
    have hlt := OX.lt
    refine takeB 1 rfl (by kernel_rfl) (fun _ _ _ h => h) (by rfl) (by intro w' hg; go_simp; try with_reducible rfl) ?_
    refine takeB 2 rfl (by kernel_rfl) (fun _ _ _ h => h) (by rfl) (by intro w' hg; have g1 := (OX.below hg (by omega)).cell 0; simp at g1; go_simp; try with_reducible rfl) ?_
    refine onlyB 0 rfl (by kernel_rfl) (by rfl) ?_
    intro K hK
    go_simp
    refine (operations_any _).mono ?_
    rintro e u1 ⟨rfl, HO, hb⟩
    refine hK _ _ (hb.mono (by omega)) ?_
    clear hK K
    replace ST := ST.next (ST.later hb)
    replace SR := SR.next hb
    replace OX := OX.below hb hlt
    generalize u.heap.size = gm at *
    obtain ⟨L, hM, hL⟩ := HO
    refine onlyB 3 rfl (by kernel_rfl) (by rfl) ?_
    intro K hK
    refine wp_look_map _ _ 66 rfl keyInt Try.underlying66 (zeroOp _) hM rfl rfl (keyOf_int_mk Try.underlying3 (WalkArith.wf_i64 (by have := H64.out.1; omega))) ?_
    rw [(hL x.op).2 (by omega)]
    refine hK _ _ (Below.refl _ _) ?_
    clear hK K
    simp only [Option.getD_none, Option.isSome_none]
    clear hL hM hb
    refine takeB 4 rfl (by kernel_rfl) (fun _ _ _ h => h) (by rfl) (by intro w' hg; go_simp; try with_reducible rfl) ?_
    refine takeB 5 rfl (by kernel_rfl) (fun _ _ _ h => h) (by rfl) (by intro w' hg; go_simp; try with_reducible rfl) ?_
    refine takeB 6 rfl (by kernel_rfl) (fun _ _ _ h => h) (by rfl) (by intro w' hg; go_simp; try with_reducible rfl) ?_
    refine takeB 7 rfl (by kernel_rfl) (fun _ _ _ h => h) (by rfl) (by intro w' hg; go_simp; try with_reducible rfl) ?_
    refine takeB 8 rfl (by kernel_rfl) (fun _ _ _ h => h) (by rfl) (by intro w' hg; go_simp; try with_reducible rfl) ?_
    refine doneB (by kernel_rfl) ?_
    go_simp
    go_wp2_with (first | (refine load_cpu rfl _ rfl rfl ST.o0 h8 ?_) | fail)
    refine (fault_any c h8 _).mono ?_
    rintro e w4 ⟨rfl, hb4⟩
    obtain ⟨E0, E1, E2, hbe⟩ := ends_2 (g := w.heap.size + 2) (SR.next hb4).o1 (SR.next hb4).o2 (ST.next (ST.later hb4)).bel (by omega) c Cp.fault
    have O1 := (SR.next hb4).o1
    clear hb4 ST SR OX
    go_wp2_with (first | (refine store_cpu rfl _ _ rfl rfl rfl O1 rfl h8 ?_) | (refine store_act rfl _ _ rfl rfl (c := Cp.fault) rfl E1 rfl rfl ?_) | fail)
    refine bodyPost_ret (ret_two rfl _ rfl E0 h8 rfl E2 rfl) rfl ?_
    rw [HN.out, exec_none HX.out]
    exact ⟨rfl, hbe⟩
/-- Next: the place, the instruction, what it does. -/
theorem next_any (c : Cp.Cpu) (h8 : c.regs.length = 8) (code : List Cd.Ins) (A D : Option Addr) (n k m d : Nat) (pages : Int) (B : Nat) (w : World) (h : Inss w B A n code) (hB : B ≤ w.heap.size) (h64 : ∀ x ∈ code, Cd.in64 x) :
    Calls Try.prog 13 #[.agg (cc c), .agg #[.slice A n k, .slice D m d, .int .i64 pages]] w (TwoPost (Cp.next c code) w) := by
  have hl := h.len
  by_cases hp : 0 ≤ c.pc ∧ c.pc < (n : Int)
  · obtain ⟨j, hj⟩ := Int.eq_ofNat_of_zero_le hp.1
    exact next_in c h8 code A D n k m d pages B w h hB h64 j (by omega) hj
  · rw [Cp.next_out (by omega)]
    exact next_out c h8 A D n k m d pages hp w
end Go.Proofs.Ytkcegdnjgkideaa
