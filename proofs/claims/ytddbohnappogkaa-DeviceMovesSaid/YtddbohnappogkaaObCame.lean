/- A slice of three objects, written out; an object loaded out of one. | What came in: objects. (Written by tools/mkobcame.py.) -/
import Derived.Test.YtddbohnappogkaaOb
import Derived.Test.YtddbohnappogkaaCame
import Derived.Test.YtddbohnappogkaaKeepOb
namespace Go.Proofs.Ytddbohnappogkaa
open Go.RowKit

theorem fill3 (a b c : Ob) : Instr.fill (fun i => some (i * 36, 36)) ((Array.range (3 * 36)).map ((oc Ob.zero)[· % (oc Ob.zero).size]!)) [(0, .agg (oc a)), (1, .agg (oc b)), (2, .agg (oc c))] = some (ocl a ++ (ocl b ++ ocl c)).toArray := by kernel_rfl
theorem run_slice3 (w : World) (a b c : Ob) : (Instr.buildSlice 48 3 #[(0, .agg (oc a)), (1, .agg (oc b)), (2, .agg (oc c))]).run Try.prog w = .ok (.slice (some ⟨w.heap.size, 0, none⟩) 3 3) (w.alloc (.cells (ocl a ++ (ocl b ++ ocl c)).toArray 41)) := by
  have hz : (zeroValue 41).run Try.prog w = .ok (.agg (oc Ob.zero)) w := by kernel_rfl
  have hs : (sizeOf 41).run Try.prog w = .ok 36 w := by kernel_rfl
  have hf := fill3 a b c
  simp only [Instr.buildSlice, Sem.run_bind, run_underlying Try.underlying48, Result.andThen_ok, hs]
  rw [if_neg (by decide), if_neg (by decide)]
  simp only [Sem.run_bind, hz, Result.andThen_ok, Sem.run_pure, Value.cells, hf, newRow, run_newObj_alloc]
theorem exec_slice3 {o : Oper} {act : Act} {w : World} {x y z : Operand} (ho : o.op = .buildSlice 48 3 #[(0, x), (1, y), (2, z)]) {a b c : Ob} (hx : act.eval x = .agg (oc a)) (hy : act.eval y = .agg (oc b)) (hz : act.eval z = .agg (oc c)) :
    (execOp act.eval o).run Try.prog w = .ok (.value (.slice (some ⟨w.heap.size, 0, none⟩) 3 3)) (w.alloc (.cells (ocl a ++ (ocl b ++ ocl c)).toArray 41)) := by
  have hr := run_slice3 w a b c
  unfold execOp
  simp only [ho, hx, hy, hz, List.map_toArray, List.map_cons, List.map_nil, Sem.run_bind, hr, Result.andThen_ok, Sem.run_pure]
theorem ocl_len (y : Ob) : (ocl y).length = 36 := by simp [ocl, pcs]
/-- The k-th of three. -/
theorem three_at {a b c : Ob} {k : Nat} {x : Ob} (hx : [a, b, c][k]? = some x) (j : Nat) (v : Value) (h : (ocl x)[j]? = some v) : (ocl a ++ (ocl b ++ ocl c)).toArray[k * 36 + j]? = some v := by
  have hj : j < 36 := by have := (List.getElem?_eq_some_iff.1 h).1; rw [ocl_len] at this; exact this
  rw [List.getElem?_toArray]
  rcases k with _ | _ | _ | k
  · simp only [List.getElem?_cons_zero, Option.some.injEq] at hx
    subst hx
    rw [List.getElem?_append_left (by rw [ocl_len]; omega), show 0 * 36 + j = j by omega]
    exact h
  · simp only [List.getElem?_cons_succ, List.getElem?_cons_zero, Option.some.injEq] at hx
    subst hx
    rw [List.getElem?_append_right (by rw [ocl_len]; omega), List.getElem?_append_left (by rw [ocl_len, ocl_len]; omega), ocl_len, show (0 + 1) * 36 + j - 36 = j by omega]
    exact h
  · simp only [List.getElem?_cons_succ, List.getElem?_cons_zero, Option.some.injEq] at hx
    subst hx
    rw [List.getElem?_append_right (by rw [ocl_len]; omega), List.getElem?_append_right (by rw [ocl_len, ocl_len]; omega), ocl_len, ocl_len, show (0 + 1 + 1) * 36 + j - 36 - 36 = j by omega]
    exact h
  · simp at hx
theorem exec_load_three {o : Oper} {act : Act} {w : World} {p : Operand} (ho : o.op = .load 41 p) {g k : Nat} (hp : act.eval p = .pointer (some ⟨g, k * 36, none⟩)) {t : TypeId} {a b c x : Ob} (h : Obl w g t (ocl a ++ (ocl b ++ ocl c)).toArray) (hx : [a, b, c][k]? = some x) :
    (execOp act.eval o).run Try.prog w = .ok (.value (.agg (oc x))) w := exec_load_mid ho hp h (ocl x) (three_at hx) rfl Try.underlying41 obSize
end Go.Proofs.Ytddbohnappogkaa
namespace Go.Proofs.Ytddbohnappogkaa
open Go.ChangeShapes Go.WideShapes Go.ChangeAt Go.RowKit

theorem at_one {cs : List Value} {o : Nat} {v : Value} (h : (cs.drop o).take 1 = [v]) : cs[o]? = some v := by
  have := congrArg (·[0]?) h
  simpa [List.getElem?_take, List.getElem?_drop] using this
theorem sub_at {cs : List Value} {o m i : Nat} {v : Value} (h : ((cs.drop o).take m)[i]? = some v) : cs[o + i]? = some v := by
  rw [List.getElem?_take] at h
  split at h
  · rwa [List.getElem?_drop] at h
  · cases h
section
variable {H : Type} {enc : TypeId × Value → H} {W : World} {base : Nat} {sp : Nat → Bool} {held : Bool} {fuel : Nat} {cs : List Value} {x : DataW H × List MemPlace} {t e : TypeId} {o : Nat}
theorem trod_field {fs : Array Field} (ht : Try.prog.underlying t = some (.struct fs)) (h : DataW.trod enc Try.prog W base sp held fuel t cs = some x) :
    ∃ n, cs.length = Try.prog.cellsOf t ∧ ∀ (i : Nat) (f : Field), fs[i]? = some f → ∃ y, DataW.trod enc Try.prog W base sp held n f.type ((cs.drop f.offset).take (Try.prog.cellsOf f.type)) = some y := by
  obtain ⟨xs, n, _, _, hl, hlen, hf⟩ := DataW.trod_struct ht h
  refine ⟨n, hl, fun i f hi => ?_⟩
  have hx : i < xs.length := by rw [hlen]; exact (Array.getElem?_eq_some_iff.1 hi).1
  exact ⟨xs[i], by rw [hf i f hi, List.getElem?_eq_getElem hx]⟩
theorem int_at {k : IntKind} (ht : Try.prog.underlying t = some (.int k)) (hc : Try.prog.cellsOf t = 1) (h : DataW.trod enc Try.prog W base sp held fuel t ((cs.drop o).take (Try.prog.cellsOf t)) = some x) : ∃ v, cs[o]? = some (.int k v) := by
  rw [hc] at h
  obtain ⟨n, e, _, _⟩ := DataW.trod_int ht h
  exact ⟨n, at_one e⟩
theorem slice_one (ht : Try.prog.underlying t = some (.slice e)) (hc : Try.prog.cellsOf t = 1) (h : DataW.trod enc Try.prog W base sp held fuel t ((cs.drop o).take (Try.prog.cellsOf t)) = some x) :
    ∃ A n c, (cs.drop o).take 1 = [.slice A n c] ∧ n ≤ 9223372036854775807 := by
  rw [hc] at h
  rcases DataW.trod_slice ht h with ⟨e, _⟩ | ⟨a, len, cap, _, _, _, _, e, _, _, hl, hm, _⟩
  · exact ⟨none, 0, 0, e, by omega⟩
  · exact ⟨some a, len, cap, e, by unfold maxLen at hm; omega⟩
theorem slice_at (ht : Try.prog.underlying t = some (.slice e)) (hc : Try.prog.cellsOf t = 1) (h : DataW.trod enc Try.prog W base sp held fuel t ((cs.drop o).take (Try.prog.cellsOf t)) = some x) :
    ∃ s : Sl, cs[o]? = some (.slice s.A s.n s.c) ∧ s.n ≤ 9223372036854775807 := by
  obtain ⟨A, n, c, e, hn⟩ := slice_one ht hc h
  exact ⟨⟨A, n, c⟩, at_one e, hn⟩
theorem numsl_at {k : IntKind} (ht : Try.prog.underlying t = some (.slice e)) (he : Try.prog.underlying e = some (.int k)) (hce : Try.prog.cellsOf e = 1) (hc : Try.prog.cellsOf t = 1)
    (h : DataW.trod enc Try.prog W base sp held fuel t ((cs.drop o).take (Try.prog.cellsOf t)) = some x) : ∃ s : Sl, cs[o]? = some (.slice s.A s.n s.c) ∧ s.n ≤ 9223372036854775807 ∧ ∃ l, Nums k W W.heap.size s.A s.n l := by
  rw [hc] at h
  rcases Go.ChangeShapes.open_ints ht he hce h with ⟨hcs, _⟩ | ⟨a, len, cap, zs, hcs, _, hl, hm, hz, _, hcell, hwf⟩
  · exact ⟨⟨none, 0, 0⟩, at_one hcs, by simp, [], Nums.nil⟩
  · have hlz : len ≤ zs.length := by rw [hz]; split <;> omega
    unfold maxLen at hm
    have hr : IsRow k W (some a) len zs.length zs := .inr ⟨a, rfl, hlz, by rw [hz]; unfold maxLen; split <;> omega, rfl, hcell, hwf⟩
    obtain ⟨l, h1, _, h3⟩ := hr.ints
    exact ⟨⟨some a, len, cap⟩, at_one hcs, by show len ≤ _; omega, l, h1, h3⟩
theorem bytesl_at (ht : Try.prog.underlying t = some (.slice e)) (he : Try.prog.underlying e = some (.int .u8)) (hce : Try.prog.cellsOf e = 1) (hc : Try.prog.cellsOf t = 1)
    (h : DataW.trod enc Try.prog W base sp held fuel t ((cs.drop o).take (Try.prog.cellsOf t)) = some x) : ∃ s : Sl, cs[o]? = some (.slice s.A s.n s.c) ∧ s.n ≤ 9223372036854775807 ∧ s.n ≤ s.c ∧ ∃ l, Bytes W W.heap.size s.A s.n l := by
  rw [hc] at h
  rcases Go.ChangeShapes.open_ints ht he hce h with ⟨hcs, _⟩ | ⟨a, len, cap, zs, hcs, _, hl, hm, hz, _, hcell, hwf⟩
  · exact ⟨⟨none, 0, 0⟩, at_one hcs, by simp, by simp, [], Bytes.nil⟩
  · have hlz : len ≤ zs.length := by rw [hz]; split <;> omega
    unfold maxLen at hm
    have hr : IsRow .u8 W (some a) len zs.length zs := .inr ⟨a, rfl, hlz, by rw [hz]; unfold maxLen; split <;> omega, rfl, hcell, hwf⟩
    obtain ⟨l, h1⟩ := hr.bytes
    exact ⟨⟨some a, len, cap⟩, at_one hcs, by show len ≤ _; omega, hl, l, h1⟩
theorem numslc_at {k : IntKind} (ht : Try.prog.underlying t = some (.slice e)) (he : Try.prog.underlying e = some (.int k)) (hce : Try.prog.cellsOf e = 1) (hc : Try.prog.cellsOf t = 1)
    (h : DataW.trod enc Try.prog W base sp held fuel t ((cs.drop o).take (Try.prog.cellsOf t)) = some x) : ∃ s : Sl, cs[o]? = some (.slice s.A s.n s.c) ∧ s.n ≤ 9223372036854775807 ∧ s.n ≤ s.c ∧ ∃ l, Nums k W W.heap.size s.A s.n l := by
  rw [hc] at h
  rcases Go.ChangeShapes.open_ints ht he hce h with ⟨hcs, _⟩ | ⟨a, len, cap, zs, hcs, _, hl, hm, hz, _, hcell, hwf⟩
  · exact ⟨⟨none, 0, 0⟩, at_one hcs, by simp, by simp, [], Nums.nil⟩
  · have hlz : len ≤ zs.length := by rw [hz]; split <;> omega
    unfold maxLen at hm
    have hr : IsRow k W (some a) len zs.length zs := .inr ⟨a, rfl, hlz, by rw [hz]; unfold maxLen; split <;> omega, rfl, hcell, hwf⟩
    obtain ⟨l, h1, _, h3⟩ := hr.ints
    exact ⟨⟨some a, len, cap⟩, at_one hcs, by show len ≤ _; omega, hl, l, h1, h3⟩
/-- The lists of an object that came in, but for words, names and strings. -/
structure Lists (w : World) (o : Ob) : Prop where
  data : ∃ D, Bytes w w.heap.size o.data.A o.data.n D
  backlog : ∃ I, Nums .u64 w w.heap.size o.backlog.A o.backlog.n I
  q0 : ∃ D, Bytes w w.heap.size o.q0.A o.q0.n D
  q1 : ∃ D, Bytes w w.heap.size o.q1.A o.q1.n D
  caps : o.data.n ≤ o.data.c ∧ o.q0.n ≤ o.q0.c ∧ o.q1.n ≤ o.q1.c
  back : o.backlog.n ≤ o.backlog.c ∧ o.backlog.n ≤ 9223372036854775807
theorem u64Cells : Try.prog.cellsOf 22 = 1 := by kernel_rfl
theorem nmCells : Try.prog.cellsOf 56 = 3 := by kernel_rfl
theorem sl64 : Try.prog.cellsOf 23 = 1 := by kernel_rfl
/-- An entry that came in. -/
theorem name_came (h : DataW.trod enc Try.prog W base sp held fuel 56 cs = some x) : ∃ y : Nm, (cs[0]? = some (.string ⟨y.path.toArray⟩) ∧ cs[1]? = some (.int .i64 y.kind) ∧ cs[2]? = some (.slice y.ids.A y.ids.n y.ids.c)) ∧
    (y.path.length ≤ 9223372036854775807 ∧ y.ids.n ≤ 9223372036854775807) ∧ ∃ I, Nums .u64 W W.heap.size y.ids.A y.ids.n I := by
  obtain ⟨n, _, F⟩ := trod_field Try.underlying56 h
  obtain ⟨y0, g0⟩ := F 0 _ rfl
  obtain ⟨y1, g1⟩ := F 1 _ rfl
  obtain ⟨y2, g2⟩ := F 2 _ rfl
  have g0' : DataW.trod enc Try.prog W base sp held n 9 ((cs.drop 0).take 1) = some y0 := by rw [← strCells1]; exact g0
  obtain ⟨s, e0, _, hs⟩ := DataW.trod_string Try.underlying9 g0'
  obtain ⟨kd, c1⟩ := int_at (o := 1) Try.underlying3 intCells g1
  obtain ⟨S, c2, hn, I, hI⟩ := numsl_at (o := 2) Try.underlying23 Try.underlying22 u64Cells sl64 g2
  unfold maxLen at hs
  refine ⟨⟨s.data.toList, kd, S⟩, ⟨?_, c1, c2⟩, ⟨?_, hn⟩, I, hI⟩
  · rw [Lib.mk_data]; exact at_one e0
  · show s.data.toList.length ≤ _; rw [← Lib.size_eq]; omega
/-- A slice of entries that came in. -/
theorem names_came {v : Value} (h : DataW.trod enc Try.prog W base sp held fuel 39 [v] = some x) : ∃ (s : Sl) (l : List Nm), v = .slice s.A s.n s.c ∧ Nms W W.heap.size s.A s.n l ∧ s.n ≤ 9223372036854775807 ∧
    ∀ y ∈ l, y.path.length ≤ 9223372036854775807 ∧ y.ids.n ≤ 9223372036854775807 := by
  rcases DataW.trod_slice Try.underlying39 h with ⟨hcs, _⟩ | ⟨a, len, cap, elems, rest, m, _, hcs, _, _, hl, hm, hlen, hel, _⟩
  · simp only [List.cons.injEq, and_true] at hcs
    exact ⟨⟨none, 0, 0⟩, [], hcs, Nms.nil, by simp, by simp⟩
  · simp only [List.cons.injEq, and_true] at hcs
    unfold maxLen at hm
    have each : ∀ i, i < len → ∃ y : Nm, (W.cell? ((a.add (i * 3)).add 0) = some (.string ⟨y.path.toArray⟩) ∧ W.cell? ((a.add (i * 3)).add 1) = some (.int .i64 y.kind) ∧ W.cell? ((a.add (i * 3)).add 2) = some (.slice y.ids.A y.ids.n y.ids.c)) ∧
        (y.path.length ≤ 9223372036854775807 ∧ y.ids.n ≤ 9223372036854775807) ∧ ∃ I, Nums .u64 W W.heap.size y.ids.A y.ids.n I := by
      intro i hi
      have he := hel i hi
      rw [nmCells, List.getElem?_eq_getElem (by omega)] at he
      obtain ⟨cs, h1, h2⟩ := Option.bind_eq_some_iff.1 he
      obtain ⟨_, hl3, hcell⟩ := World.cells?_some h1
      obtain ⟨y, ⟨c0, c1, c2⟩, hy⟩ := name_came h2
      exact ⟨y, ⟨(hcell 0 (by omega)).trans c0, (hcell 1 (by omega)).trans c1, (hcell 2 (by omega)).trans c2⟩, hy⟩
    haveI : Inhabited Nm := ⟨⟨[], 0, ⟨none, 0, 0⟩⟩⟩
    obtain ⟨Y, hY⟩ := Go.Deep.choose_lt each
    refine ⟨⟨some a, len, cap⟩, (List.range len).map Y, hcs, ⟨by simp, ⟨by rw [nmv_length]; simp, by simp, fun hne => ?_⟩, ?_⟩, by show len ≤ _; omega, ?_⟩
    · have h0 : 0 < len := by
        rcases Nat.eq_zero_or_pos len with h0 | h0
        · subst h0; simp [nmv] at hne
        · exact h0
      have hc0 := (hY 0 h0).1.1
      obtain ⟨b, o, spot⟩ := a
      have hspot : spot = none := by simpa [Addr.add] using World.cell?_spot hc0
      subst hspot
      have hlt := World.block_lt_of_cell? W _ hc0
      rw [add_spot, add_spot] at hlt
      refine ⟨b, o, rfl, hlt, fun j u hu => ?_⟩
      have hj : j < len * 3 := by
        have := (List.getElem?_eq_some_iff.1 hu).1
        rw [nmv_length] at this
        simpa using this
      have hi : j / 3 < len := by omega
      have hil : j / 3 < ((List.range len).map Y).length := by simpa using hi
      obtain ⟨i0, i1, i2⟩ := nmv_at hil
      obtain ⟨⟨c0, c1, c2⟩, _⟩ := hY (j / 3) hi
      rw [add_spot, add_spot] at c0 c1 c2
      have hg : ((List.range len).map Y)[j / 3] = Y (j / 3) := by simp
      rw [hg] at i0 i1 i2
      rcases (show j = j / 3 * 3 ∨ j = j / 3 * 3 + 1 ∨ j = j / 3 * 3 + 2 by omega) with e | e | e
      · rw [e, i0] at hu
        rw [e, show o + j / 3 * 3 = o + j / 3 * 3 + 0 by omega]
        exact c0.trans hu
      · rw [e, i1] at hu
        rw [e, ← Nat.add_assoc]
        exact c1.trans hu
      · rw [e, i2] at hu
        rw [e, ← Nat.add_assoc]
        exact c2.trans hu
    · intro y hy
      simp only [List.mem_map, List.mem_range] at hy
      obtain ⟨i, hi, rfl⟩ := hy
      exact (hY i hi).2.2
    · intro y hy
      simp only [List.mem_map, List.mem_range] at hy
      obtain ⟨i, hi, rfl⟩ := hy
      exact (hY i hi).2.1
theorem procCells : Try.prog.cellsOf 34 = 20 := by kernel_rfl
theorem objCells : Try.prog.cellsOf 41 = 36 := by kernel_rfl
theorem progCells : Try.prog.cellsOf 27 = 3 := by kernel_rfl
theorem qCells : Try.prog.cellsOf 37 = 2 := by kernel_rfl
theorem endsCells : Try.prog.cellsOf 38 = 2 := by kernel_rfl
theorem sl8 : Try.prog.cellsOf 36 = 1 := by kernel_rfl
theorem slI64 : Try.prog.cellsOf 35 = 1 := by kernel_rfl
theorem slStr : Try.prog.cellsOf 25 = 1 := by kernel_rfl
theorem slIns : Try.prog.cellsOf 24 = 1 := by kernel_rfl
theorem slRef : Try.prog.cellsOf 31 = 1 := by kernel_rfl
theorem slSlot : Try.prog.cellsOf 32 = 1 := by kernel_rfl
theorem slNm : Try.prog.cellsOf 39 = 1 := by kernel_rfl
set_option maxRecDepth 100000 in
/-- A process that came in: its cells. -/
theorem proc_came (h : DataW.trod enc Try.prog W base sp held fuel 34 cs = some x) : ∃ o : Ob, cs = pcs o ∧ (o.children.n ≤ 9223372036854775807 ∧ o.code.n ≤ 9223372036854775807 ∧ o.strs.n ≤ 9223372036854775807 ∧ o.pages.n ≤ 9223372036854775807 ∧ o.table.n ≤ 9223372036854775807) ∧
    ∃ l, Strs W W.heap.size o.strs.A o.strs.n l ∧ ∀ y ∈ l, y.length ≤ 9223372036854775807 := by
  obtain ⟨n, hl, F⟩ := trod_field Try.underlying34 h
  rw [procCells] at hl
  obtain ⟨y0, g0⟩ := F 0 _ rfl
  obtain ⟨y1, g1⟩ := F 1 _ rfl
  obtain ⟨y2, g2⟩ := F 2 _ rfl
  obtain ⟨y3, g3⟩ := F 3 _ rfl
  obtain ⟨y4, g4⟩ := F 4 _ rfl
  obtain ⟨y5, g5⟩ := F 5 _ rfl
  obtain ⟨y6, g6⟩ := F 6 _ rfl
  obtain ⟨y7, g7⟩ := F 7 _ rfl
  obtain ⟨y8, g8⟩ := F 8 _ rfl
  obtain ⟨y9, g9⟩ := F 9 _ rfl
  obtain ⟨st, c0⟩ := int_at (o := 0) Try.underlying3 intCells g0
  obtain ⟨pa, c1⟩ := int_at (o := 1) Try.underlying22 u64Cells g1
  obtain ⟨ch, c2, n2⟩ := slice_at (o := 2) Try.underlying23 sl64 g2
  obtain ⟨n3, _, P⟩ := trod_field Try.underlying27 g3
  obtain ⟨z0, p0⟩ := P 0 _ rfl
  obtain ⟨z1, p1⟩ := P 1 _ rfl
  obtain ⟨z2, p2⟩ := P 2 _ rfl
  obtain ⟨co, d0, m0⟩ := slice_at (o := 0) Try.underlying24 slIns p0
  obtain ⟨A1, k1, b1, d1, m1⟩ := slice_one (o := 1) Try.underlying25 slStr p1
  obtain ⟨pg, d2⟩ := int_at (o := 2) Try.underlying3 intCells p2
  have p1' : DataW.trod enc Try.prog W base sp held n3 25 [.slice A1 k1 b1] = some z1 := by rw [← d1, ← slStr]; exact p1
  obtain ⟨A2, k2, b2, L, e2, hS, _, hL⟩ := strs_came p1'
  simp only [Value.slice.injEq] at e2
  obtain ⟨rfl, rfl, rfl⟩ := e2
  have c3 := sub_at d0
  have c4 := sub_at (at_one d1)
  have c5 := sub_at d2
  obtain ⟨n4, _, C⟩ := trod_field Try.underlying30 g4
  obtain ⟨v0, u0⟩ := C 0 _ rfl
  obtain ⟨v1, u1⟩ := C 1 _ rfl
  obtain ⟨pc, f0⟩ := int_at (o := 0) Try.underlying3 intCells u0
  have c6 := sub_at f0
  obtain ⟨R, e1, hR, _⟩ := nums_came u1
  match R, hR with
  | [r0, r1, r2, r3, r4, r5, r6, r7], _ =>
    have c7 := sub_at (sub_at (i := 0) (v := .int .i64 r0) (by rw [e1]; rfl))
    have c8 := sub_at (sub_at (i := 1) (v := .int .i64 r1) (by rw [e1]; rfl))
    have c9 := sub_at (sub_at (i := 2) (v := .int .i64 r2) (by rw [e1]; rfl))
    have c10 := sub_at (sub_at (i := 3) (v := .int .i64 r3) (by rw [e1]; rfl))
    have c11 := sub_at (sub_at (i := 4) (v := .int .i64 r4) (by rw [e1]; rfl))
    have c12 := sub_at (sub_at (i := 5) (v := .int .i64 r5) (by rw [e1]; rfl))
    have c13 := sub_at (sub_at (i := 6) (v := .int .i64 r6) (by rw [e1]; rfl))
    have c14 := sub_at (sub_at (i := 7) (v := .int .i64 r7) (by rw [e1]; rfl))
    obtain ⟨pp, c15, n15⟩ := slice_at (o := 15) Try.underlying31 slRef g5
    obtain ⟨tb, c16, n16⟩ := slice_at (o := 16) Try.underlying32 slSlot g6
    obtain ⟨pe, c17⟩ := int_at (o := 17) Try.underlying2 i64Cells g7
    obtain ⟨al, c18⟩ := int_at (o := 18) Try.underlying2 i64Cells g8
    obtain ⟨su, c19⟩ := int_at (o := 19) Try.underlying2 i64Cells g9
    refine ⟨{ Ob.zero with state := st, parent := pa, children := ch, code := co, strs := ⟨A1, k1, b1⟩, ppages := pg, pc := pc, r0 := r0, r1 := r1, r2 := r2, r3 := r3, r4 := r4, r5 := r5, r6 := r6, r7 := r7, pages := pp, table := tb, pending := pe, alarm := al, status := su }, ?_, ⟨n2, m0, m1, n15, n16⟩, L, hS, hL⟩
    apply List.ext_getElem?
    intro i
    rcases i with _ | _ | _ | _ | _ | _ | _ | _ | _ | _ | _ | _ | _ | _ | _ | _ | _ | _ | _ | _ | i
    · exact c0
    · exact c1
    · exact c2
    · exact c3
    · exact c4
    · exact c5
    · exact c6
    · exact c7
    · exact c8
    · exact c9
    · exact c10
    · exact c11
    · exact c12
    · exact c13
    · exact c14
    · exact c15
    · exact c16
    · exact c17
    · exact c18
    · exact c19
    · rw [List.getElem?_eq_none (by omega), List.getElem?_eq_none (by simp [pcs])]
set_option maxRecDepth 100000 in
/-- An object that came in: its cells. -/
theorem obj_cells (h : DataW.trod enc Try.prog W base sp held fuel 41 cs = some x) : ∃ (o : Ob) (l : List Nm) (strs : List (List UInt8)) (L : List Int), cs = ocl o ∧ Nms W W.heap.size o.names.A o.names.n l ∧ Strs W W.heap.size o.strs.A o.strs.n strs ∧ Fits o l strs ∧
    Nums .i64 W W.heap.size o.words.A o.words.n L ∧ Lists W o := by
  obtain ⟨n, hl, F⟩ := trod_field Try.underlying41 h
  rw [objCells] at hl
  obtain ⟨y0, g0⟩ := F 0 _ rfl
  obtain ⟨y1, g1⟩ := F 1 _ rfl
  obtain ⟨y2, g2⟩ := F 2 _ rfl
  obtain ⟨y3, g3⟩ := F 3 _ rfl
  obtain ⟨y4, g4⟩ := F 4 _ rfl
  obtain ⟨y5, g5⟩ := F 5 _ rfl
  obtain ⟨y6, g6⟩ := F 6 _ rfl
  obtain ⟨y7, g7⟩ := F 7 _ rfl
  obtain ⟨y8, g8⟩ := F 8 _ rfl
  obtain ⟨y9, g9⟩ := F 9 _ rfl
  obtain ⟨y10, g10⟩ := F 10 _ rfl
  obtain ⟨y11, g11⟩ := F 11 _ rfl
  obtain ⟨y12, g12⟩ := F 12 _ rfl
  obtain ⟨y13, g13⟩ := F 13 _ rfl
  obtain ⟨y14, g14⟩ := F 14 _ rfl
  obtain ⟨id, c0⟩ := int_at (o := 0) Try.underlying22 u64Cells g0
  obtain ⟨kd, c1⟩ := int_at (o := 1) Try.underlying3 intCells g1
  obtain ⟨rf, c2⟩ := int_at (o := 2) Try.underlying3 intCells g2
  have g3' : DataW.trod enc Try.prog W base sp held n 34 ((cs.drop 3).take 20) = some y3 := by rw [← procCells]; exact g3
  obtain ⟨p, ep, ⟨b1, b2, b3, b4, b5⟩, S, hS, hSl⟩ := proc_came g3'
  have c3 := sub_at (i := 0) (by rw [ep]; rfl)
  have c4 := sub_at (i := 1) (by rw [ep]; rfl)
  have c5 := sub_at (i := 2) (by rw [ep]; rfl)
  have c6 := sub_at (i := 3) (by rw [ep]; rfl)
  have c7 := sub_at (i := 4) (by rw [ep]; rfl)
  have c8 := sub_at (i := 5) (by rw [ep]; rfl)
  have c9 := sub_at (i := 6) (by rw [ep]; rfl)
  have c10 := sub_at (i := 7) (by rw [ep]; rfl)
  have c11 := sub_at (i := 8) (by rw [ep]; rfl)
  have c12 := sub_at (i := 9) (by rw [ep]; rfl)
  have c13 := sub_at (i := 10) (by rw [ep]; rfl)
  have c14 := sub_at (i := 11) (by rw [ep]; rfl)
  have c15 := sub_at (i := 12) (by rw [ep]; rfl)
  have c16 := sub_at (i := 13) (by rw [ep]; rfl)
  have c17 := sub_at (i := 14) (by rw [ep]; rfl)
  have c18 := sub_at (i := 15) (by rw [ep]; rfl)
  have c19 := sub_at (i := 16) (by rw [ep]; rfl)
  have c20 := sub_at (i := 17) (by rw [ep]; rfl)
  have c21 := sub_at (i := 18) (by rw [ep]; rfl)
  have c22 := sub_at (i := 19) (by rw [ep]; rfl)
  obtain ⟨wo, c23, n23, L, hL⟩ := numsl_at (o := 23) Try.underlying35 Try.underlying2 i64Cells slI64 g4
  obtain ⟨da, c24, n24, g24, hda⟩ := bytesl_at (o := 24) Try.underlying36 Try.underlying5 u8Cells sl8 g5
  obtain ⟨of, c25⟩ := int_at (o := 25) Try.underlying3 intCells g6
  obtain ⟨ta, c26⟩ := int_at (o := 26) Try.underlying22 u64Cells g7
  obtain ⟨rd, c27⟩ := int_at (o := 27) Try.underlying3 intCells g8
  obtain ⟨wr, c28⟩ := int_at (o := 28) Try.underlying3 intCells g9
  obtain ⟨bl, c29, n29, g29, hbl⟩ := numslc_at (o := 29) Try.underlying23 Try.underlying22 u64Cells sl64 g10
  obtain ⟨xs, m, _, _, _, hxl, hx⟩ := DataW.trod_array Try.underlying37 g11
  have x0 := hx 0 (by omega)
  have x1 := hx 1 (by omega)
  rw [List.getElem?_eq_getElem (by omega)] at x0 x1
  obtain ⟨q0, d0, n30, g30, hq0⟩ := bytesl_at (o := 0 * Try.prog.cellsOf 36) Try.underlying36 Try.underlying5 u8Cells sl8 x0
  obtain ⟨q1, d1, n31, g31, hq1⟩ := bytesl_at (o := 1 * Try.prog.cellsOf 36) Try.underlying36 Try.underlying5 u8Cells sl8 x1
  rw [sl8] at d0 d1
  have c30 := sub_at d0
  have c31 := sub_at d1
  obtain ⟨ys, m2, _, _, _, hyl, hy⟩ := DataW.trod_array Try.underlying38 g12
  have w0 := hy 0 (by omega)
  have w1 := hy 1 (by omega)
  rw [List.getElem?_eq_getElem (by omega)] at w0 w1
  obtain ⟨e0, f0⟩ := int_at (o := 0 * Try.prog.cellsOf 3) Try.underlying3 intCells w0
  obtain ⟨e1, f1⟩ := int_at (o := 1 * Try.prog.cellsOf 3) Try.underlying3 intCells w1
  rw [intCells] at f0 f1
  have c32 := sub_at f0
  have c33 := sub_at f1
  obtain ⟨ct, c34⟩ := int_at (o := 34) Try.underlying2 i64Cells g13
  obtain ⟨A9, k9, b9, e9, _⟩ := slice_one (o := 35) Try.underlying39 slNm g14
  have g14' : DataW.trod enc Try.prog W base sp held n 39 [.slice A9 k9 b9] = some y14 := by rw [← e9, ← slNm]; exact g14
  obtain ⟨nm, N, en, hN, n35, hNl⟩ := names_came g14'
  have c35 := at_one e9
  rw [en] at c35
  refine ⟨{ p with id := id, kind := kd, refs := rf, words := wo, data := da, offset := of, target := ta, readers := rd, writers := wr, backlog := bl, q0 := q0, q1 := q1, e0 := e0, e1 := e1, count := ct, names := nm }, N, S, L, ?_, hN, hS, ⟨b1, b2, b3, b4, b5, n23, n24, n29, n30, n31, n35, hNl, hSl⟩, hL, ⟨hda, hbl, hq0, hq1, ⟨g24, g30, g31⟩, g29, n29⟩⟩
  apply List.ext_getElem?
  intro i
  rcases i with _ | _ | _ | _ | _ | _ | _ | _ | _ | _ | _ | _ | _ | _ | _ | _ | _ | _ | _ | _ | _ | _ | _ | _ | _ | _ | _ | _ | _ | _ | _ | _ | _ | _ | _ | _ | i
  · exact c0
  · exact c1
  · exact c2
  · exact c3
  · exact c4
  · exact c5
  · exact c6
  · exact c7
  · exact c8
  · exact c9
  · exact c10
  · exact c11
  · exact c12
  · exact c13
  · exact c14
  · exact c15
  · exact c16
  · exact c17
  · exact c18
  · exact c19
  · exact c20
  · exact c21
  · exact c22
  · exact c23
  · exact c24
  · exact c25
  · exact c26
  · exact c27
  · exact c28
  · exact c29
  · exact c30
  · exact c31
  · exact c32
  · exact c33
  · exact c34
  · exact c35
  · rw [List.getElem?_eq_none (by omega), List.getElem?_eq_none (by simp [ocl, pcs])]
set_option maxRecDepth 100000 in
/-- An object that came in by value. -/
theorem ob_came {b0 : Nat} {r : Reach} {v : Value} {d : DataW H} {p : List MemPlace} (hv : Value.okWide Try.prog W r b0 41 v) (h : DataW.Trod enc Try.prog W base sp held 41 v d p) :
    ∃ (o : Ob) (l : List Nm) (strs : List (List UInt8)) (L : List Int), v = .agg (oc o) ∧ Nms W W.heap.size o.names.A o.names.n l ∧ Strs W W.heap.size o.strs.A o.strs.n strs ∧ Fits o l strs ∧ Nums .i64 W W.heap.size o.words.A o.words.n L ∧ Lists W o := by
  obtain ⟨cs, rfl, hsz⟩ := okWide_struct Try.underlying41 hv
  obtain ⟨fuel, hf⟩ := h
  obtain ⟨o, l, strs, L, hcs, hr⟩ := obj_cells hf
  refine ⟨o, l, strs, L, ?_, hr⟩
  simp only [Value.cells] at hcs
  rw [oc, ← hcs]
end
end Go.Proofs.Ytddbohnappogkaa
