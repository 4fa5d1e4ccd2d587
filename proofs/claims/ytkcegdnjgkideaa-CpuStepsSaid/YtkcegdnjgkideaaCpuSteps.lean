/- Layer 5: what every instruction does with every processor, in any program and in right ones (CpuSteps): the walk. -/
import Derived.Test.YtkcegdnjgkideaaCpuRefNext
import Derived.Test.YtkcegdnjgkideaaCpuLaw
import Derived.Test.YtkcegdnjgkideaaEql
import Derived.Test.YtkcegdnjgkideaaMadeProg
import Derived.Test.YtkcegdnjgkideaaKeep
namespace Go.Proofs.Ytkcegdnjgkideaa
open Go.RowKit

theorem CodeMade.all64 {l : List Cd.Ins} (h : CodeMade l) : ∀ x ∈ l, Cd.in64 x := fun x hx => (h x hx).2.1
/-- Block g holds a program of numbers of 64 bits. -/
def ProgAt (w : World) (g : Nat) : Prop := ∃ (A : Option Addr) (n k : Nat) (D : Option Addr) (m d : Nat) (pages : Int) (code : List Cd.Ins),
  Obl w g 28 #[.slice A n k, .slice D m d, .int .i64 pages] ∧ Inss w w.heap.size A n code ∧ ∀ x ∈ code, Cd.in64 x
theorem ProgAt.below {w w' : World} {g : Nat} (h : ProgAt w g) (hb : Below w.heap.size w w') : ProgAt w' g := by
  obtain ⟨A, n, k, D, m, d, pages, code, h1, h2, h3⟩ := h
  exact ⟨A, n, k, D, m, d, pages, code, h1.below hb h1.lt, (h2.below hb).mono hb.size, h3⟩
theorem ProgAt.lt {w : World} {g : Nat} (h : ProgAt w g) : g < w.heap.size := by
  obtain ⟨A, n, k, D, m, d, pages, code, h1, h2, h3⟩ := h
  exact h1.lt
/-- Three processors in block g. -/
def CpusAt (w : World) (g : Nat) : Prop := g < w.heap.size ∧ ∀ i < 3, ∃ y : Cp.Cpu, y.regs.length = 8 ∧ w.rangeAt g (i * 9) (cc y).toList
theorem CpusAt.below {w w' : World} {g : Nat} (h : CpusAt w g) (hb : Below w.heap.size w w') : CpusAt w' g := by
  refine ⟨Nat.lt_of_lt_of_le h.1 hb.size, fun i hi => ?_⟩
  obtain ⟨y, h1, h2⟩ := h.2 i hi
  exact ⟨y, h1, fun j v hv => (hb.cell (p := ⟨g, i * 9 + j, none⟩) h.1).trans (h2 j v hv)⟩
/-- Three programs in block g. -/
def ProgsAt (w : World) (g : Nat) : Prop := g < w.heap.size ∧ ∀ i < 3, ∃ (A : Option Addr) (n k : Nat) (D : Option Addr) (m d : Nat) (pages : Int) (code : List Cd.Ins),
  (w.cell? ⟨g, i * 3, none⟩ = some (.slice A n k) ∧ w.cell? ⟨g, i * 3 + 1, none⟩ = some (.slice D m d) ∧ w.cell? ⟨g, i * 3 + 2, none⟩ = some (.int .i64 pages)) ∧ Inss w w.heap.size A n code ∧ ∀ x ∈ code, Cd.in64 x
theorem ProgsAt.below {w w' : World} {g : Nat} (h : ProgsAt w g) (hb : Below w.heap.size w w') : ProgsAt w' g := by
  refine ⟨Nat.lt_of_lt_of_le h.1 hb.size, fun i hi => ?_⟩
  obtain ⟨A, n, k, D, m, d, pages, code, ⟨c0, c1, c2⟩, h2, h3⟩ := h.2 i hi
  exact ⟨A, n, k, D, m, d, pages, code, ⟨(hb.cell (p := ⟨g, i * 3, none⟩) h.1).trans c0, (hb.cell (p := ⟨g, i * 3 + 1, none⟩) h.1).trans c1, (hb.cell (p := ⟨g, i * 3 + 2, none⟩) h.1).trans c2⟩, (h2.below hb).mono hb.size, h3⟩

theorem store_prog {ops : Array Oper} {rest : List Oper} {o : Oper} {a : Act} {w : World} {Q : Exit → Act → World → Prop} (hgd : o.guard = none) (x y : Operand) (ho : o.op = .store 28 x y) {g : Nat} (hx : a.eval x = .pointer (some ⟨g, 0, none⟩)) {A D : Option Addr} {n k m d : Nat} {p : Int}
    (hy : a.eval y = .agg #[.slice A n k, .slice D m d, .int .i64 p]) {old : Array Value} {t : TypeId} (h : Obl w g t old) (hold : old.size = 3)
    (hK : wpList Try.prog ops Q rest (a.put o.dst undef) (w.setRow g #[.slice A n k, .slice D m d, .int .i64 p])) : wpList Try.prog ops Q (o :: rest) a w :=
  wpList_store_row hgd _ x y ho g _ hx hy t old h prSize hold (by simp [Value.oneCell']) hK
theorem exec_mid_cpu {a : Act} {o : Oper} {w : World} {x : Operand} (ho : o.op = .load 24 x) {g k : Nat} (hx : a.eval x = .pointer (some ⟨g, k, none⟩)) {y : Cp.Cpu} (h : w.rangeAt g k (cc y).toList) (hy : y.regs.length = 8) :
    (execOp a.eval o).run Try.prog w = .ok (.value (.agg (cc y))) w := by
  have hr := run_loadVar_mid (P := Try.prog) w g k 24 (cc y).toList _ h Try.underlying24 rfl (by rw [Array.length_toList, cc_size hy]; exact cpuSize)
  unfold execOp
  simp only [ho, hx, Instr.loadAt, Instr.sureAddr, Sem.run_bind, Sem.run_pure, Result.andThen_ok, hr, Array.toArray_toList]
theorem exec_load_prog {a : Act} {o : Oper} {w : World} {x : Operand} (ho : o.op = .load 28 x) {g : Nat} (hx : a.eval x = .pointer (some ⟨g, 0, none⟩)) {t : TypeId} {p q r : Value} (h : Obl w g t #[p, q, r]) :
    (execOp a.eval o).run Try.prog w = .ok (.value (.agg #[p, q, r])) w := exec_load_row ho hx h rfl Try.underlying28 prSize
theorem exec_load_act {a : Act} {o : Oper} {w : World} {x : Operand} (ho : o.op = .load 42 x) {g : Nat} (hx : a.eval x = .pointer (some ⟨g, 0, none⟩)) {t : TypeId} {y : Cp.Act} (h : Obl w g t (ac y)) (h3 : y.args.length = 3) :
    (execOp a.eval o).run Try.prog w = .ok (.value (.agg (ac y))) w := exec_load_row ho hx h rfl Try.underlying42 (by rw [ac_size h3]; exact actSize)
theorem exec_nesame_cpu {a : Act} {o : Oper} {w : World} {p q : Operand} {t : TypeId} (ho : o.op = .binOp .neq 24 p q t) {x : Cp.Cpu} (hp : a.eval p = .agg (cc x)) (hq : a.eval q = .agg (cc x)) (hx : x.regs.length = 8) :
    (execOp a.eval o).run Try.prog w = .ok (.value (.bool false)) w := by
  rw [exec_neq_cpu ho hp hq hx hx]
  simp
theorem exec_nesame_act {a : Act} {o : Oper} {w : World} {p q : Operand} {t : TypeId} (ho : o.op = .binOp .neq 42 p q t) {x : Cp.Act} (hp : a.eval p = .agg (ac x)) (hq : a.eval q = .agg (ac x)) (hx : x.args.length = 3) :
    (execOp a.eval o).run Try.prog w = .ok (.value (.bool false)) w := by
  rw [exec_neq_act ho hp hq hx hx]
  simp
/-- Three programs in a slice of their own. -/
theorem progs_made {u u' : World} {A1 A2 A3 D1 D2 D3 : Option Addr} {n1 n2 n3 k1 k2 k3 m1 m2 m3 d1 d2 d3 : Nat} {p1 p2 p3 : Int} {c1 c2 c3 : List Cd.Ins} (h : u.alloc (.cells #[.slice A1 n1 k1, .slice D1 m1 d1, .int .i64 p1, .slice A2 n2 k2, .slice D2 m2 d2, .int .i64 p2, .slice A3 n3 k3, .slice D3 m3 d3, .int .i64 p3] 28) = u')
    (i1 : Inss u u.heap.size A1 n1 c1) (i2 : Inss u u.heap.size A2 n2 c2) (i3 : Inss u u.heap.size A3 n3 c3) (q1 : ∀ x ∈ c1, Cd.in64 x) (q2 : ∀ x ∈ c2, Cd.in64 x) (q3 : ∀ x ∈ c3, Cd.in64 x) : ProgsAt u' u.heap.size := by
  subst h
  have O := Obl.make u 28 #[.slice A1 n1 k1, .slice D1 m1 d1, .int .i64 p1, .slice A2 n2 k2, .slice D2 m2 d2, .int .i64 p2, .slice A3 n3 k3, .slice D3 m3 d3, .int .i64 p3]
  have hb := (Below.refl u.heap.size u).alloc (Nat.le_refl _) (.cells #[.slice A1 n1 k1, .slice D1 m1 d1, .int .i64 p1, .slice A2 n2 k2, .slice D2 m2 d2, .int .i64 p2, .slice A3 n3 k3, .slice D3 m3 d3, .int .i64 p3] 28)
  refine ⟨O.lt, fun i hi => ?_⟩
  rcases (show i = 0 ∨ i = 1 ∨ i = 2 by omega) with rfl | rfl | rfl
  · exact ⟨A1, n1, k1, D1, m1, d1, p1, c1, ⟨by rw [O.cell]; rfl, by rw [O.cell]; rfl, by rw [O.cell]; rfl⟩, (i1.below hb).mono hb.size, q1⟩
  · exact ⟨A2, n2, k2, D2, m2, d2, p2, c2, ⟨by rw [O.cell]; rfl, by rw [O.cell]; rfl, by rw [O.cell]; rfl⟩, (i2.below hb).mono hb.size, q2⟩
  · exact ⟨A3, n3, k3, D3, m3, d3, p3, c3, ⟨by rw [O.cell]; rfl, by rw [O.cell]; rfl, by rw [O.cell]; rfl⟩, (i3.below hb).mono hb.size, q3⟩
/-- An operation that yields a value in another world. -/
theorem wpList_valw {P : Program} {ops : Array Oper} {rest : List Oper} {o : Oper} {a : Act} {w w' : World} {Q : Exit → Act → World → Prop} {v : Value} (hg : o.guard = none) (hr : (execOp a.eval o).run P w = .ok (.value v) w')
    (hK : wpList P ops Q rest (a.put o.dst v) w') : wpList P ops Q (o :: rest) a w := by
  refine wpList_plain hg fun K hK' => ?_
  unfold Oper.wp
  rw [hr]
  exact hK' _ _ hK
theorem built_cpus (p0 p1 p2 a0 a1 a2 a3 a4 a5 a6 a7 : Int) (w : World) : (Instr.buildSlice 38 3 #[(0, .agg (cc ⟨p0, [a0, a1, a2, a3, a4, a5, a6, a7]⟩)), (1, .agg (cc ⟨p1, [a0, a1, a2, a3, a4, a5, a6, a7]⟩)), (2, .agg (cc ⟨p2, [a0, a1, a2, a3, a4, a5, a6, a7]⟩))]).run Try.prog w =
    .ok (.slice (some ⟨w.heap.size, 0, none⟩) 3 3) (w.alloc (.cells (cc ⟨p0, [a0, a1, a2, a3, a4, a5, a6, a7]⟩ ++ cc ⟨p1, [a0, a1, a2, a3, a4, a5, a6, a7]⟩ ++ cc ⟨p2, [a0, a1, a2, a3, a4, a5, a6, a7]⟩) 24)) := by kernel_rfl
theorem exec_cpus {o : Oper} {a : Act} {w : World} {parts : Array (Nat × Operand)} (ho : o.op = .buildSlice 38 3 parts) {p0 p1 p2 : Int} {L : List Int} (hL : L.length = 8) (hp : (parts.map fun (i, x) => (i, a.eval x)) = #[(0, .agg (cc ⟨p0, L⟩)), (1, .agg (cc ⟨p1, L⟩)), (2, .agg (cc ⟨p2, L⟩))]) :
    (execOp a.eval o).run Try.prog w = .ok (.value (.slice (some ⟨w.heap.size, 0, none⟩) 3 3)) (w.alloc (.cells (cc ⟨p0, L⟩ ++ cc ⟨p1, L⟩ ++ cc ⟨p2, L⟩) 24)) := by
  match L, hL with
  | [a0, a1, a2, a3, a4, a5, a6, a7], _ =>
    unfold execOp
    simp only [ho, hp, Sem.run_bind, built_cpus, Sem.run_pure, Result.andThen_ok]
theorem cpus_made (w : World) (p0 p1 p2 : Int) (L : List Int) (hL : L.length = 8) : CpusAt (w.alloc (.cells (cc ⟨p0, L⟩ ++ cc ⟨p1, L⟩ ++ cc ⟨p2, L⟩) 24)) w.heap.size := by
  have O := Obl.make w 24 (cc ⟨p0, L⟩ ++ cc ⟨p1, L⟩ ++ cc ⟨p2, L⟩)
  have s : ∀ p, (cc ⟨p, L⟩).size = 9 := fun p => cc_size hL
  refine ⟨O.lt, fun i hi => ?_⟩
  have at_ : ∀ (p : Int) (j : Nat) (v : Value), (cc ⟨p, L⟩).toList[j]? = some v → j < 9 ∧ (cc ⟨p, L⟩)[j]? = some v := fun p j v hv => by
    rw [Array.getElem?_toList] at hv
    have := (Array.getElem?_eq_some_iff.1 hv).1
    rw [s] at this
    exact ⟨this, hv⟩
  rcases (show i = 0 ∨ i = 1 ∨ i = 2 by omega) with rfl | rfl | rfl
  · refine ⟨⟨p0, L⟩, hL, fun j v hv => ?_⟩
    obtain ⟨hj, hv⟩ := at_ p0 j v hv
    rw [O.cell, Array.append_assoc, Array.getElem?_append_left (by rw [s]; omega), show 0 * 9 + j = j by omega, hv]
  · refine ⟨⟨p1, L⟩, hL, fun j v hv => ?_⟩
    obtain ⟨hj, hv⟩ := at_ p1 j v hv
    rw [O.cell, Array.append_assoc, Array.getElem?_append_right (by rw [s]; omega), s, Array.getElem?_append_left (by rw [s]; omega), show 1 * 9 + j - 9 = j by omega, hv]
  · refine ⟨⟨p2, L⟩, hL, fun j v hv => ?_⟩
    obtain ⟨hj, hv⟩ := at_ p2 j v hv
    rw [O.cell, Array.getElem?_append_right (by rw [Array.size_append, s, s]; omega), Array.size_append, s, s, show 2 * 9 + j - (9 + 9) = j by omega, hv]

set_option maxRecDepth 100000 in
set_option maxHeartbeats 16000000 in
theorem cpuSteps_any (c : Cp.Cpu) (h8 : c.regs.length = 8) (A0 D0 : Option Addr) (n0 kap m0 d0 : Nat) (pg0 : Int) (il : List Cd.Ins) (sl : List (List UInt8)) (S : Option Addr) (q r : Nat) (l : List UInt8) (x : Cd.Ins) (hx64 : Cd.in64 x) (hpc : Cp.i64 c.pc) (W : World)
    (hi : Inss W W.heap.size A0 n0 il) (hi64 : ∀ y ∈ il, Cd.in64 y) (hn0 : n0 ≤ 9223372036854775807) (hs : Strs W W.heap.size D0 m0 sl) (hm0 : m0 ≤ 9223372036854775807) (hsl : ∀ y ∈ sl, y.length ≤ 9223372036854775807)
    (h : Bytes W W.heap.size S q l) (hq : q ≤ r ∧ r ≤ 9223372036854775807) :
    Calls Try.prog 3 #[.agg (cc c), .agg #[.slice A0 n0 kap, .slice D0 m0 d0, .int .i64 pg0], .slice S q r, .agg #[.int .i64 x.op, .int .i64 x.a, .int .i64 x.b, .int .i64 x.c]] W fun e w' => e = .returned (.bool true) ∧ Below W.heap.size W w' := by
  obtain ⟨pcv, L⟩ := c
  have h8' : L.length = 8 := h8
  obtain ⟨w1, hw, O4, O5, O7, hb1, hsz1⟩ : ∃ w1, ((W.alloc (.cells (cc ⟨pcv, L⟩) 24)).alloc (.cells #[.slice A0 n0 kap, .slice D0 m0 d0, .int .i64 pg0] 28)).alloc (.cells #[.int .i64 x.op, .int .i64 x.a, .int .i64 x.b, .int .i64 x.c] 31) = w1 ∧
      Obl w1 W.heap.size 24 (cc ⟨pcv, L⟩) ∧ Obl w1 (W.heap.size + 1) 28 #[.slice A0 n0 kap, .slice D0 m0 d0, .int .i64 pg0] ∧ Obl w1 (W.heap.size + 2) 31 #[.int .i64 x.op, .int .i64 x.a, .int .i64 x.b, .int .i64 x.c] ∧ Below W.heap.size W w1 ∧ w1.heap.size = W.heap.size + 3 := by
    refine ⟨_, rfl, ((Obl.make W _ _).alloc _).alloc _, ?_, ?_, (((Below.refl _ _).alloc (Nat.le_refl _) _).alloc (by simp) _).alloc (by simp; omega) _, by simp⟩
    · have := (Obl.make (W.alloc (.cells (cc ⟨pcv, L⟩) 24)) 28 #[.slice A0 n0 kap, .slice D0 m0 d0, .int .i64 pg0]).alloc (.cells #[.int .i64 x.op, .int .i64 x.a, .int .i64 x.b, .int .i64 x.c] 31)
      rwa [World.size_alloc] at this
    · have := Obl.make ((W.alloc (.cells (cc ⟨pcv, L⟩) 24)).alloc (.cells #[.slice A0 n0 kap, .slice D0 m0 d0, .int .i64 pg0] 28)) 31 #[.int .i64 x.op, .int .i64 x.a, .int .i64 x.b, .int .i64 x.c]
      rwa [World.size_alloc, World.size_alloc] at this
  have HI := hide hi
  have HI64 := hide hi64
  have HX64 := hide hx64
  have HPC := hide hpc
  have HSL := hide hsl
  have HB1 := hide hb1
  have HS1 := hide (h.below hb1)
  have HT1 := hide (hs.below hb1)
  clear hb1 h hi hi64 hs hsl hx64 hpc
  go_enter Try.func3, Try.ntmps3
  go_wp2_with fail
  refine (sane_any _).mono ?_
  rintro e w2 ⟨rfl, hb⟩
  have P4 := O4.below hb O4.lt
  have P5 := O5.below hb O5.lt
  have P7 := O7.below hb O7.lt
  have HB2 := hide (HB1.out.trans (hb.mono HB1.out.size))
  have HS2 := hide (HS1.out.belowLe hb HB1.out.size)
  have HT2 := hide (HT1.out.belowLe hb HB1.out.size)
  have c0 := P5.cell 0
  have c1 := P5.cell 1
  have c2 := P5.cell 2
  simp at c0 c1 c2
  clear hb HB1 O4 O5 O7 hw HS1 HT1
  go_wp2_with fail
  refine (short_any sl A0 D0 n0 kap m0 d0 W.heap.size pg0 _ HT2.out HB2.out.size hn0 hm0 HSL.out).mono ?_
  rintro e w3 ⟨kv, rfl, hb⟩
  have Q4 := P4.below hb P4.lt
  have Q5 := P5.below hb P5.lt
  have Q7 := P7.below hb P7.lt
  have HB3 := hide (HB2.out.trans (hb.mono HB2.out.size))
  have HS3 := hide (HS2.out.belowLe hb HB2.out.size)
  have hl7 := Q7.lt
  clear hb HB2 P4 P5 P7 HS2 HT2 c0 c1 c2
  cases kv with
  | false =>
    go_wp2
    go_ret
    exact ⟨rfl, HB3.out⟩
  | true =>
    go_wp2_with fail
    refine (new_dice W.heap.size S q r l _ HS3.out (by omega) hq).mono ?_
    rintro e w4 ⟨rfl, hD, hb, hsz⟩
    have P4 := Q4.below hb (by omega)
    have P5 := Q5.below hb (by omega)
    have P7 := Q7.below hb (by omega)
    have HB4 := hide (HB3.out.trans (hb.mono HB3.out.size))
    have HD4 := hide hD
    generalize w3.heap.size = b at *
    clear hb HB3 Q4 Q5 Q7 HS3 hD
    obtain ⟨B1, hB1⟩ : ∃ B1, B1 = w4.heap.size := ⟨_, rfl⟩
    have hlt : b < B1 := by omega
    have HBe := hide hB1
    clear hB1
    go_wp2_with fail
    refine (program_dice b b _ HD4.out (by omega)).mono ?_
    rintro e w5 ⟨A, n, cp, D, m, d, p, rfl, hownA, hownD, ⟨hcm, hcl, hps, hpg⟩, hD, hB⟩
    rw [← HBe.out] at hownA hownD hB
    have hBw : B1 ≤ w4.heap.size := Nat.le_of_eq HBe.out
    have hBs := Nat.le_trans hBw hB.size
    obtain ⟨code, strs, pg⟩ := p
    simp only at hownA hownD hcm hcl hps hpg
    simp only [pa]
    have hgb : w5.heap.size ≠ b := by omega
    have HP2 := hide (show RqP (w5.alloc (.cells #[.slice A n cp, .slice D m d, .int .i64 pg] 28)) B1 w5.heap.size #[.slice A n cp, .slice D m d, .int .i64 pg] A n cp D m d code strs from ⟨Obl.make w5 _ _, by simp; omega, hownA.alloc _, hownD.alloc _⟩)
    have HD2 := hide (hD.alloc (.cells #[.slice A n cp, .slice D m d, .int .i64 pg] 28))
    have HB2 := hide (hB.trans (Bel.of (b := b) ((Below.refl B1 w5).alloc hBs (.cells #[.slice A n cp, .slice D m d, .int .i64 pg] 28))))
    have HC2 := hide hcm
    clear hD hB hownA hownD hcm hps HD4
    go_wp2_with fail
    generalize w5.alloc (.cells #[.slice A n cp, .slice D m d, .int .i64 pg] 28) = w6 at *
    generalize w5.heap.size = gp at *
    go_loopw [11] (fun s11 wr => ∃ (i n c : Nat) (A : Option Addr) (code : List Cd.Ins), s11 = .int .i64 (i : Int) ∧ i ≤ 3 ∧ RqP wr B1 gp #[.slice A n c, .slice D m d, .int .i64 pg] A n c D m d code strs ∧ (Hid (CodeMade code) ∧ code.length + i ≤ 119) ∧ Hid (Dice wr b b) ∧ Hid (Bel B1 b w4 wr)) (fun s11 _ => (intOf s11).toNat)
    case atStart => exact ⟨3, n, cp, A, code, rfl, by omega, HP2.out, ⟨HC2, by omega⟩, HD2, HB2⟩
    case round =>
      clear HC2 HP2 HD2 HB2 hcl
      obtain ⟨i, n, c', A, code, rfl, hi, hP, ⟨HC, hlen⟩, HD, HB⟩ := hrel
      have k0 := hP.1.cell 0
      simp at k0
      have hnl := own_inss hP.2.2.1
      have hbk := HD.out.lt
      by_cases h0 : 0 < i
      · have hi0' : (0 : Int) < (i : Int) := by omega
        go_wp2_with fail
        refine region_D (by kernel_rfl) wr.drew.heap.size b [8, 10] ?_
        replace hP : RqP wr.drew B1 gp #[.slice A n c', .slice D m d, .int .i64 pg] A n c' D m d code strs := hP
        replace HD : Hid (Dice wr.drew b b) := HD
        replace HB : Hid (Bel B1 b w4 wr.drew) := hide ⟨HB.out.os, HB.out.tape, HB.out.output, HB.out.size, HB.out.block⟩
        replace k0 : wr.drew.cell? ⟨gp, 0, none⟩ = some (.slice A n c') := k0
        have hgl : gp < wr.drew.heap.size := hP.1.lt
        generalize wr.drew = u0 at *
        refine takeDX 0 rfl (by kernel_rfl) (fun _ _ _ h => h) (by rfl) (by intro w'; go_simp; try with_reducible rfl) ?_
        refine takeD 1 [1, 8, 9, 10] rfl (by kernel_rfl) (fun _ _ _ h => h) (by rfl) (by intro w' hg; have g0 := (hg.cell (p := ⟨gp, 0, none⟩) (by show gp < _; exact hgl) (by show gp ≠ b; exact hgb)).trans k0; go_simp; try with_reducible rfl) ?_
        refine takeDX 2 rfl (by kernel_rfl) (fun _ _ _ h => h) (by rfl) (by intro w'; go_simp; try with_reducible rfl) ?_
        refine takeDX 3 rfl (by kernel_rfl) (fun _ _ _ h => h) (by rfl) (by intro w'; go_simp; try with_reducible rfl) ?_
        refine takeD 4 [4, 5, 6, 7, 8, 9, 10] rfl (by kernel_rfl) (fun _ _ _ h => h) (by rfl) (by intro w' hg; have g0 := (hg.cell (p := ⟨gp, 0, none⟩) (by show gp < _; exact hgl) (by show gp ≠ b; exact hgb)).trans k0; go_simp; try with_reducible rfl) ?_
        refine takeDX 5 rfl (by kernel_rfl) (fun _ _ _ h => h) (by rfl) (by intro w'; go_simp; try with_reducible rfl) ?_
        refine onlyD 6 rfl (by kernel_rfl) (by rfl) ?_
        intro K hK
        go_simp
        refine (instr_dice b b n _ HD.out (by omega)).mono ?_
        rintro e u1 ⟨y, rfl, hy, hD, hB⟩
        simp only [ia]
        have hP1 := hP.bel hB hlt hgb
        have HD1 := hide hD
        have HBa := hide (HB.out.trans (hB.mono (Nat.le_trans hBw HB.out.size)))
        have HCx : Hid (CodeMade (code ++ [y])) := hide (HC.out.append (fun z hz => by simp only [List.mem_singleton] at hz; subst hz; rw [hnl]; exact hy))
        obtain ⟨xo, xa, xb, xc⟩ := y
        simp only
        refine hK _ _ (fun _ => hB) ?_
        clear hK K hD hP HD HB hy
        refine onlyD 7 rfl (by kernel_rfl) (by rfl) ?_
        intro K hK
        go_simp
        refine hK _ _ (fun _ => Bel.of ((Below.refl _ _).alloc hB.size _)) ?_
        clear hK K
        have h2 := hP1.alloc (.cells #[.int .i64 xo, .int .i64 xa, .int .i64 xb, .int .i64 xc] 31)
        have HD2 := hide (HD1.out.alloc (.cells #[.int .i64 xo, .int .i64 xa, .int .i64 xb, .int .i64 xc] 31))
        have HB2 := hide (HBa.out.trans (Bel.of (b := b) ((Below.refl B1 u1).alloc (Nat.le_trans hBw HBa.out.size) (.cells #[.int .i64 xo, .int .i64 xa, .int .i64 xb, .int .i64 xc] 31))))
        refine onlyD 8 rfl (by kernel_rfl) (by rfl) ?_
        intro K hK
        refine wp_append_rd (.tmp 37) (.tmp 43) _ rfl insTy (A := A) (n := n) (c := c') rfl h2.2.2.1 (B := u1.heap.size + 1) (S := some ⟨u1.heap.size, 0, none⟩) (m := 1) (d := 1) (news := [.int .i64 xo, .int .i64 xa, .int .i64 xb, .int .i64 xc]) rfl (Row.four u1 ⟨xo, xa, xb, xc⟩ _) (by simp [Value.oneCell']) (by unfold maxLen; omega) (by omega) h2.2.1 ?_
        intro A7 c7 w7 hown7 hgrow7 hat7
        rw [iv_snoc code ⟨xo, xa, xb, xc⟩] at hown7
        have h3 := h2.withCode hgrow7 hown7
        have HD3 := hide (HD2.out.grown hgrow7 (fun e => by have := (h2.2.2.1.lt b (by rw [ownBlock_slice]; exact e.symm)).1; omega) (fun j hj => by have := (h2.2.2.1.lt j (by rw [ownBlock_slice]; exact hj)).1; omega))
        have HB3 := hide (HB2.out.trans (Bel.of (b := b) (below_own (Below.refl _ _) h2.2.2.1 hgrow7 h2.2.1)))
        refine hK _ _ (fun h => absurd h (by decide)) ?_
        clear hK K
        have q0 := h3.1.cell 0
        have z0 := h3.1.free 0
        simp at q0
        refine takeDX 9 rfl (by kernel_rfl) (fun _ _ _ h => h) (by rfl) (by intro w'; go_simp; try with_reducible rfl) ?_
        refine onlyD 10 rfl (by kernel_rfl) (by rfl) ?_
        intro K hK
        go_simp
        refine hK _ _ (fun h => absurd h (by decide)) ?_
        clear hK K
        have h5 : RqP (w7.setCell ⟨gp, 0, none⟩ (.slice A7 (n + 1) c7)) B1 gp #[.slice A7 (n + 1) c7, .slice D m d, .int .i64 pg] A7 (n + 1) c7 D m d (code ++ [⟨xo, xa, xb, xc⟩]) strs := h3.put 0 (.slice A7 (n + 1) c7)
        have HD5 := hide (HD3.out.put_other (g := gp) (by omega) (by omega) 0 (.slice A7 (n + 1) c7))
        have HB5 := hide (HB3.out.setGe (g := gp) (by omega) 0 (.slice A7 (n + 1) c7))
        generalize w7.setCell ⟨gp, 0, none⟩ (.slice A7 (n + 1) c7) = w5' at *
        clear h3 HD3 HB3 q0 z0 h2 HD2 HB2
        refine doneD (by kernel_rfl) ?_
        go_simp
        go_wp2_with fail
        go_roundw
        case rel => exact ⟨i - 1, n + 1, c7, A7, code ++ [⟨xo, xa, xb, xc⟩], congrArg (Value.int .i64) (by omega), by omega, h5, ⟨HCx, by rw [List.length_append]; simp only [List.length_cons, List.length_nil]; omega⟩, HD5, HB5⟩
        case measure => simp [intOf]; omega
      · obtain rfl : i = 0 := by omega
        have O4 := HB.out.obl P4 (show W.heap.size < B1 by omega) (by omega)
        have O5 := HB.out.obl P5 (show W.heap.size + 1 < B1 by omega) (by omega)
        have O7 := HB.out.obl P7 (show W.heap.size + 2 < B1 by omega) (by omega)
        have HBW := hide (HB4.out.trans (HB.out.below (C := W.heap.size) (by omega) (by omega)))
        have PA5 : ProgAt wr (W.heap.size + 1) := ⟨A0, n0, kap, D0, m0, d0, pg0, il, O5, (HI.out.below HBW.out).mono HBW.out.size, HI64.out⟩
        have PA10 : ProgAt wr gp := ⟨A, n, c', D, m, d, pg, code, hP.1, Inss.of_own hP.2.2.1, HC.out.all64⟩
        obtain ⟨v1, hv1, hI1, hbv1, _⟩ := start_one wr x
        obtain ⟨gx, hgx⟩ : ∃ g, wr.heap.size = g := ⟨_, rfl⟩
        rw [hgx] at hI1
        obtain ⟨va, hva, OPa, hbva⟩ : ∃ va, v1.alloc (.cells #[.slice none 0 0, .slice none 0 0, .int .i64 0] 28) = va ∧ Obl va v1.heap.size 28 #[.slice none 0 0, .slice none 0 0, .int .i64 0] ∧ Below v1.heap.size v1 va := ⟨_, rfl, Obl.make v1 _ _, (Below.refl _ _).alloc (Nat.le_refl _) _⟩
        obtain ⟨g12, hg12⟩ : ∃ g, v1.heap.size = g := ⟨_, rfl⟩
        rw [hg12] at OPa hbva
        obtain ⟨v2, hv2⟩ : ∃ v2, va.setRow g12 #[.slice (some ⟨gx, 0, none⟩) 1 1, .slice none 0 0, .int .i64 0] = v2 := ⟨_, rfl⟩
        have OP12 := OPa.row_same #[.slice (some ⟨gx, 0, none⟩) 1 1, .slice none 0 0, .int .i64 0]
        have hbv2 := below_row hbva (Nat.le_refl _) #[.slice (some ⟨gx, 0, none⟩) 1 1, .slice none 0 0, .int .i64 0]
        rw [hv2] at OP12 hbv2
        have PA12 : ProgAt v2 g12 := ⟨_, _, _, _, _, _, _, [x], OP12, (hI1.below (by rw [hg12]; exact hbv2)).mono hbv2.size, by simpa using HX64.out⟩
        have hbv := hbv1.trans (hbv2.mono (by rw [← hg12]; exact hbv1.size))
        have Q4 := O4.below hbv O4.lt
        have QA5 := PA5.below hbv
        have QA10 := PA10.below hbv
        have HBV := hide (HBW.out.trans (hbv.mono HBW.out.size))
        obtain ⟨v3, hv3, O13, hbv3⟩ : ∃ v3, v2.alloc (.cells #[.int .i64 0, .int .i64 0, .int .i64 0, .int .i64 0, .int .i64 0, .int .i64 0, .int .i64 0, .int .i64 0, .int .i64 0] 24) = v3 ∧ Obl v3 v2.heap.size 24 zc ∧ Below v2.heap.size v2 v3 := ⟨_, rfl, Obl.make v2 24 zc, (Below.refl _ _).alloc (Nat.le_refl _) _⟩
        have hl3 := O13.lt
        clear hP HC HD HB HBW O4 O5 PA5 PA10 hI1 hbv hbv1 hbv2 hbva OP12 k0 HBe P4 P5 P7 HB4 HI HI64 HX64 HSL
        obtain ⟨g13, hg13⟩ : ∃ g, v2.heap.size = g := ⟨_, rfl⟩
        rw [hg13] at O13 hl3 hbv3
        have h13 : W.heap.size < g13 := by rw [← hg13]; exact Q4.lt
        have hp64 : Cp.i64 pcv := HPC.out
        have hp0 := hp64.1
        have hp1 := hp64.2
        obtain ⟨sv, hsv⟩ : ∃ v, (wrap64 (pcv.tmod 40 + 40)).tmod 40 = v := ⟨_, rfl⟩
        obtain ⟨v4, hv4⟩ : ∃ v4, v3.setRow g13 (cc ⟨pcv, L⟩) = v4 := ⟨_, rfl⟩
        have R13 := O13.row_same (cc ⟨pcv, L⟩)
        have B4 := below_row hbv3 (Nat.le_refl _) (cc ⟨pcv, L⟩)
        rw [hv4] at R13 B4
        have R4 := Q4.below B4 h13
        have kp := cc_pc R4
        have kq := cc_pc R13
        have zq := R13.free 0
        obtain ⟨v5, hv5⟩ : ∃ v5, v4.setCell ⟨g13, 0, none⟩ (.int .i64 sv) = v5 := ⟨_, rfl⟩
        have S13 := R13.put 0 (.int .i64 sv)
        rw [cc_putpc] at S13
        have B5 := B4.setCell (p := ⟨g13, 0, none⟩) (Nat.le_refl _) (.int .i64 sv)
        rw [hv5] at S13 B5
        have S4 := Q4.below B5 h13
        have hl5 := S13.lt
        obtain ⟨v6, hv6, O14, hb6⟩ : ∃ v6, v5.alloc (.cells #[.int .i64 0, .int .i64 0, .int .i64 0, .int .i64 0, .int .i64 0, .int .i64 0, .int .i64 0, .int .i64 0, .int .i64 0] 24) = v6 ∧ Obl v6 v5.heap.size 24 zc ∧ Below v5.heap.size v5 v6 := ⟨_, rfl, Obl.make v5 24 zc, (Below.refl _ _).alloc (Nat.le_refl _) _⟩
        obtain ⟨g14, hg14⟩ : ∃ g, v5.heap.size = g := ⟨_, rfl⟩
        rw [hg14] at O14 hb6 hl5
        have B6 := B5.trans (hb6.mono (by omega))
        have T13 := S13.below hb6 hl5
        obtain ⟨v7, hv7⟩ : ∃ v7, v6.setRow g14 (cc ⟨pcv, L⟩) = v7 := ⟨_, rfl⟩
        have R14 := O14.row_same (cc ⟨pcv, L⟩)
        have U13 := T13.row_other (g := g14) (by omega) (cc ⟨pcv, L⟩)
        have B7 := below_row B6 (g := g14) (by omega) (cc ⟨pcv, L⟩)
        rw [hv7] at R14 U13 B7
        have z14 := R14.free 0
        have k14 := cc_pc R14
        obtain ⟨v8, hv8⟩ : ∃ v8, v7.setCell ⟨g14, 0, none⟩ (.int .i64 0) = v8 := ⟨_, rfl⟩
        have S14 := R14.put 0 (.int .i64 0)
        rw [cc_putpc] at S14
        have V13 := U13.put_other (b' := g14) (by omega) 0 (.int .i64 0)
        have B8 := B7.setCell (p := ⟨g14, 0, none⟩) (by show g13 ≤ g14; omega) (.int .i64 0)
        rw [hv8] at S14 V13 B8
        have S4b := Q4.below B8 h13
        obtain ⟨v9, hv9⟩ : ∃ v9, v8.alloc (.cells (cc ⟨pcv, L⟩ ++ cc ⟨sv, L⟩ ++ cc ⟨0, L⟩) 24) = v9 := ⟨_, rfl⟩
        have CA := cpus_made v8 pcv sv 0 L h8'
        have B9 := B8.alloc (by have := S14.lt; omega) (.cells (cc ⟨pcv, L⟩ ++ cc ⟨sv, L⟩ ++ cc ⟨0, L⟩) 24)
        obtain ⟨gs, hgs⟩ : ∃ g, v8.heap.size = g := ⟨_, rfl⟩
        rw [hv9] at CA B9
        rw [hgs] at CA
        have PB5 := QA5.below (by rw [hg13]; exact B9)
        have PB10 := QA10.below (by rw [hg13]; exact B9)
        have PB12 := PA12.below (by rw [hg13]; exact B9)
        have HBF := hide (HBV.out.trans (B9.mono (by omega)))
        clear QA5 QA10 PA12 B4 B5 B6 B7 B8 B9 HBV hbv3 hp64 hb6 U13 T13 S13 R13 R14
        go_wp2_with (first | (refine load_ins rfl _ rfl rfl O7 ?_) | (refine store_prog rfl _ _ rfl rfl rfl OPa rfl ?_; rw [hv2]) | (refine load_cpu rfl _ rfl rfl Q4 h8 ?_) | (refine store_cpu rfl _ _ rfl rfl (c := ⟨pcv, L⟩) rfl O13 rfl h8 ?_; rw [hv4]) | (refine load_cpu rfl _ rfl rfl S4 h8 ?_) | (refine store_cpu rfl _ _ rfl rfl (c := ⟨pcv, L⟩) rfl O14 rfl h8 ?_; rw [hv7]) | (refine load_cpu rfl _ rfl rfl S4b h8 ?_) | (refine load_cpu rfl _ rfl rfl V13 h8 ?_) | (refine load_cpu rfl _ rfl rfl S14 h8 ?_) | (refine wpList_valw rfl (exec_cpus rfl (p0 := pcv) (p1 := sv) (p2 := 0) (L := L) h8' (by go_simp)) ?_; rw [hv9]) | fail)
        clear S4 S4b V13 S14 O14 O13 Q4 R4 OPa O7 hv1 hv2 hv3 hv4 hv5 hv6 hv7 hv8 hv9 hva hgs hg12 hg13 hg14 kp kq zq z14 k14 hsv
        go_loopw [63] (fun s63 wr => ∃ i : Nat, s63 = .int .i64 (i : Int) ∧ i ≤ 3 ∧ CpusAt wr gs ∧ (ProgAt wr (W.heap.size + 1) ∧ ProgAt wr gp ∧ ProgAt wr g12) ∧ Hid (Below W.heap.size W wr)) (fun s63 _ => 3 - (intOf s63).toNat)
        case atStart => exact ⟨0, rfl, by omega, CA, ⟨PB5, PB10, PB12⟩, HBF⟩
        case round =>
          clear CA PB5 PB10 PB12 HBF
          obtain ⟨i, rfl, hi, CA, ⟨PA, PB, PC⟩, HB⟩ := hrel
          by_cases hlt3 : i < 3
          · obtain ⟨y, hy8, hyr⟩ := CA.2 i hlt3
            have hgs := CA.1
            have hgW := HB.out.size
            obtain ⟨A1, n1, k1, D1, m1, d1, p1, c1, a1, b1, q1⟩ := PA
            obtain ⟨A2, n2, k2, D2, m2, d2, p2, c2, a2, b2, q2⟩ := PB
            obtain ⟨A3, n3, k3, D3, m3, d3, p3, c3, a3, b3, q3⟩ := PC
            obtain ⟨u1, hu1, O16, hbu1⟩ : ∃ u1, wr.alloc (.cells #[.int .i64 0, .int .i64 0, .int .i64 0, .int .i64 0, .int .i64 0, .int .i64 0, .int .i64 0, .int .i64 0, .int .i64 0] 24) = u1 ∧ Obl u1 wr.heap.size 24 zc ∧ Below wr.heap.size wr u1 := ⟨_, rfl, Obl.make wr 24 zc, (Below.refl _ _).alloc (Nat.le_refl _) _⟩
            obtain ⟨g16, hg16⟩ : ∃ g, wr.heap.size = g := ⟨_, rfl⟩
            rw [hg16] at O16 hbu1 hgs hgW
            obtain ⟨u2, hu2⟩ : ∃ u2, u1.setRow g16 (cc y) = u2 := ⟨_, rfl⟩
            have P16 := O16.row_same (cc y)
            have hb2 := below_row hbu1 (Nat.le_refl _) (cc y)
            rw [hu2] at P16 hb2
            have hb2' : Below wr.heap.size wr u2 := by rw [hg16]; exact hb2
            have e1 := a1.below hb2' a1.lt
            have e2 := a2.below hb2' a2.lt
            have e3 := a3.below hb2' a3.lt
            have f1 := (b1.below hb2').mono hb2'.size
            have f2 := (b2.below hb2').mono hb2'.size
            have f3 := (b3.below hb2').mono hb2'.size
            obtain ⟨u3, hu3⟩ : ∃ u3, u2.alloc (.cells #[.slice A1 n1 k1, .slice D1 m1 d1, .int .i64 p1, .slice A2 n2 k2, .slice D2 m2 d2, .int .i64 p2, .slice A3 n3 k3, .slice D3 m3 d3, .int .i64 p3] 28) = u3 := ⟨_, rfl⟩
            have HPS := hide (progs_made hu3 f1 f2 f3 q1 q2 q3)
            have hb3 : Below u2.heap.size u2 u3 := by rw [← hu3]; exact (Below.refl _ _).alloc (Nat.le_refl _) _
            have P16b := P16.below hb3 P16.lt
            have HBO := hide (show Below g16 wr u3 from hb2.trans (hb3.mono (by rw [← hg16]; exact hb2.size)))
            obtain ⟨g70, hg70⟩ : ∃ g, u2.heap.size = g := ⟨_, rfl⟩
            rw [hg70] at HPS
            have CA' := hide CA
            have PA' := hide (show ProgAt wr (W.heap.size + 1) from ⟨A1, n1, k1, D1, m1, d1, p1, c1, a1, b1, q1⟩)
            have PB' := hide (show ProgAt wr gp from ⟨A2, n2, k2, D2, m2, d2, p2, c2, a2, b2, q2⟩)
            have PC' := hide (show ProgAt wr g12 from ⟨A3, n3, k3, D3, m3, d3, p3, c3, a3, b3, q3⟩)
            clear CA a1 a2 a3 b1 b2 b3 f1 f2 f3 q1 q2 q3 hb2 hb2' hb3 P16 hbu1
            go_wp2_with (first | (refine wpList_val (by rfl) (exec_mid_cpu rfl rfl hyr hy8) ?_) | (refine store_cpu rfl _ _ rfl rfl (c := y) rfl O16 rfl hy8 ?_; rw [hu2]) | (refine wpList_val (by rfl) (exec_load_prog rfl rfl e1) ?_) | (refine wpList_val (by rfl) (exec_load_prog rfl rfl e2) ?_) | (refine wpList_val (by rfl) (exec_load_prog rfl rfl e3) ?_) | fail)
            have HG16 := hide hg16
            clear e1 e2 e3 hyr O16 hu1 hu2 hu3 hg70 hg16
            obtain ⟨wo, rfl⟩ : ∃ wo, wo = wr := ⟨_, rfl⟩
            go_loopw [72] (fun s72 wv => ∃ j : Nat, s72 = .int .i64 (j : Int) ∧ j ≤ 3 ∧ ProgsAt wv g70 ∧ Obl wv g16 24 (cc y) ∧ Hid (Below g16 wo wv)) (fun s72 _ => 3 - (intOf s72).toNat)
            case atStart => exact ⟨0, rfl, by omega, HPS.out, P16b, HBO⟩
            case round =>
              clear HPS P16b HBO
              obtain ⟨j, rfl, hj, PS, PY, HV⟩ := hrel
              by_cases hlj : j < 3
              · obtain ⟨A4, n4, k4, D4, m4, d4, p4, c4, ⟨y0, y1, y2⟩, hI, h64⟩ := PS.2 j hlj
                obtain ⟨v1, hv1, O18, hbv1⟩ : ∃ v1, wr.alloc (.cells #[.slice none 0 0, .slice none 0 0, .int .i64 0] 28) = v1 ∧ Obl v1 wr.heap.size 28 #[.slice none 0 0, .slice none 0 0, .int .i64 0] ∧ Below wr.heap.size wr v1 := ⟨_, rfl, Obl.make wr _ _, (Below.refl _ _).alloc (Nat.le_refl _) _⟩
                obtain ⟨g18, hg18⟩ : ∃ g, wr.heap.size = g := ⟨_, rfl⟩
                rw [hg18] at O18 hbv1
                obtain ⟨v2, hv2⟩ : ∃ v2, v1.setRow g18 #[.slice A4 n4 k4, .slice D4 m4 d4, .int .i64 p4] = v2 := ⟨_, rfl⟩
                have P18 := O18.row_same #[.slice A4 n4 k4, .slice D4 m4 d4, .int .i64 p4]
                have hb2 := below_row hbv1 (Nat.le_refl _) #[.slice A4 n4 k4, .slice D4 m4 d4, .int .i64 p4]
                rw [hv2] at P18 hb2
                have PYl := PY.lt
                rw [hg18] at PYl
                have P16 := PY.below hb2 PYl
                have hIB := hide (hI.below (by rw [hg18]; exact hb2))
                have hls := PS.1
                rw [hg18] at hIB hls
                have hg18s : g18 ≤ v2.heap.size := by rw [← hg18]; exact hb2.size
                have hN := next_fit y c4 hy8
                have HPS2 := hide (PS.below (by rw [hg18]; exact hb2))
                have HV2 := hide (HV.out.trans (hb2.mono (by omega)))
                clear PS hI hb2 hbv1 PY HV
                go_wp2_with (first | (refine store_prog rfl _ _ rfl rfl rfl O18 rfl ?_; rw [hv2]) | (refine load_cpu rfl _ rfl rfl P16 hy8 ?_) | (refine wpList_val (by rfl) (exec_load_prog rfl rfl P18) ?_) | fail)
                refine (next_any y hy8 c4 A4 D4 n4 k4 m4 d4 p4 g18 v2 hIB.out hg18s h64).mono ?_
                rintro e u6 ⟨rfl, hb6⟩
                have HIB6 := hide (hIB.out.belowLe hb6 hg18s)
                have P16a := P16.below hb6 P16.lt
                have P18a := P18.below hb6 P18.lt
                have HPS6 := hide (HPS2.out.below hb6)
                have HV6 := hide (HV2.out.trans (hb6.mono (by omega)))
                have hg18t : g18 ≤ u6.heap.size := Nat.le_trans hg18s hb6.size
                obtain ⟨rr, hrr⟩ : ∃ rr, Cp.next y c4 = rr := ⟨_, rfl⟩
                have HRR := hide hrr
                rw [hrr] at hN
                rw [hrr]
                obtain ⟨ry, ra⟩ := rr
                simp only at hN
                have hry := hN.1
                have hra := hN.2
                clear hb6 hIB P16 P18 HPS2 HV2 hN hrr hv1 hv2 O18 y0 y1 y2 hg18
                obtain ⟨u7, hu7, ⟨Oa, Ob⟩, hb7⟩ := start_out u6
                obtain ⟨E0, E1, E2, hbe⟩ := out_2 Oa Ob hb7 ry ra
                obtain ⟨g19, hg19⟩ : ∃ g, u6.heap.size = g := ⟨_, rfl⟩
                rw [hg19] at Oa Ob E0 E1 E2 hg18t
                obtain ⟨u8, hu8⟩ : ∃ u8, (u7.setRow g19 (cc ry)).setRow (g19 + 1) (ac ra) = u8 := ⟨_, rfl⟩
                have hbe' : Below u6.heap.size u6 u8 := by rw [← hu8, ← hg19]; exact hbe
                rw [hu8] at E0 E2
                have P16b := P16a.below hbe' P16a.lt
                have P18b := P18a.below hbe' P18a.lt
                have HPS8 := hide (HPS6.out.below hbe')
                have HV8 := hide (HV6.out.trans (hbe'.mono (by rw [hg19]; omega)))
                have HIB8 := hide (HIB6.out.belowLe hbe' (by rw [hg19]; exact hg18t))
                have hs8 := hbe'.size
                clear hb7 hbe hbe' P16a P18a HPS6 HV6 HIB6
                go_wp2_with (first | (refine store_cpu rfl _ _ rfl rfl (c := ry) rfl Oa rfl hry ?_) | (refine store_act rfl _ _ rfl rfl (c := ra) rfl E1 rfl hra ?_; rw [hu8]) | (refine load_cpu rfl _ rfl rfl P16b hy8 ?_) | (refine wpList_val (by rfl) (exec_load_prog rfl rfl P18b) ?_) | fail)
                refine (refNext_any y hy8 c4 A4 D4 n4 k4 m4 d4 p4 g18 u8 HIB8.out (by omega) h64).mono ?_
                rintro e u9 h
                rw [HRR.out] at h
                obtain ⟨rfl, hb9⟩ := h
                have F0 := E0.below hb9 E0.lt
                have F2 := E2.below hb9 E2.lt
                have P16c := P16b.below hb9 P16b.lt
                have HPS9 := hide (HPS8.out.below hb9)
                have HV9 := hide (HV8.out.trans (hb9.mono (by omega)))
                have hs9 := Nat.le_trans hs8 hb9.size
                clear hb9 E0 E1 E2 P16b P18b HPS8 HV8 HIB8 hu7 hu8 Oa Ob hs8
                obtain ⟨u10, hu10, ⟨Oc, Od⟩, hb10⟩ := start_out u9
                obtain ⟨G0, G1, G2, hbg⟩ := out_2 Oc Od hb10 ry ra
                obtain ⟨g21, hg21⟩ : ∃ g, u9.heap.size = g := ⟨_, rfl⟩
                rw [hg21] at Oc Od G0 G1 G2 hs9
                obtain ⟨u11, hu11⟩ : ∃ u11, (u10.setRow g21 (cc ry)).setRow (g21 + 1) (ac ra) = u11 := ⟨_, rfl⟩
                have hbg' : Below u9.heap.size u9 u11 := by rw [← hu11, ← hg21]; exact hbg
                rw [hu11] at G0 G2
                have K0 := F0.below hbg' F0.lt
                have K2 := F2.below hbg' F2.lt
                have P16d := P16c.below hbg' P16c.lt
                have HPS11 := hide (HPS9.out.below hbg')
                have HV11 := hide (HV9.out.trans (hbg'.mono (by rw [hg21]; omega)))
                clear hb10 hbg hbg' F0 F2 P16c HPS9 HV9
                go_wp2_with (first | (refine store_cpu rfl _ _ rfl rfl (c := ry) rfl Oc rfl hry ?_) | (refine store_act rfl _ _ rfl rfl (c := ra) rfl G1 rfl hra ?_; rw [hu11]) | (refine load_cpu rfl _ rfl rfl K0 hry ?_) | (refine load_cpu rfl _ rfl rfl G0 hry ?_) | (refine wpList_val (by rfl) (exec_load_act rfl rfl K2 hra) ?_) | (refine wpList_val (by rfl) (exec_load_act rfl rfl G2 hra) ?_) | (refine wpList_val (by rfl) (exec_nesame_cpu rfl rfl rfl hry) ?_) | (refine wpList_val (by rfl) (exec_nesame_act rfl rfl rfl hra) ?_) | fail)
                go_roundw
                case rel => exact ⟨j + 1, by go_num, by omega, HPS11.out, P16d, HV11⟩
                case measure => simp [intOf]; omega
              · obtain rfl : j = 3 := by omega
                have hv : Hid (Below wo.heap.size wo wr) := hide (by rw [HG16.out]; exact HV.out)
                have hgo : W.heap.size ≤ wo.heap.size := by rw [HG16.out]; exact hgW
                have HBn := hide (HB.out.trans (hv.out.mono hgo))
                go_wp2_with fail
                go_roundw
                case rel => exact ⟨i + 1, by go_num, by omega, CA'.out.below hv.out, ⟨PA'.out.below hv.out, PB'.out.below hv.out, PC'.out.below hv.out⟩, HBn⟩
                case measure => simp [intOf]; omega
          · go_wp2
            go_ret
            exact ⟨rfl, HB.out⟩
end Go.Proofs.Ytkcegdnjgkideaa
