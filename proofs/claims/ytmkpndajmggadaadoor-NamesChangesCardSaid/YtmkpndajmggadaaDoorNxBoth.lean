/- Layer 9: both packages' changes of one object are the same; two objects in a block; an entry that came in. -/
import Derived.Test.YtmkpndajmggadaaDoorNxKeeps0
import Derived.Test.YtmkpndajmggadaaDoorObCame
import Derived.Test.YtmkpndajmggadaaDoorNmMade
namespace Go.Proofs.YtmkpndajmggadaaDoor
open Go.RowKit

/-- An object of few and short entries, apart from block d. -/
def NamedE (w : World) (d : Nat) (x : Ob) (l : List Nm) (E : List Nx.Ent) : Prop := Short l ∧ x.names.n ≤ 1000 ∧ (Ents w d x.names.A x.names.n l E ∨ NmOutE w (d + 1) x.names.A x.names.n x.names.c l E)
def Named (w : World) (d : Nat) (x : Ob) : Prop := ∃ l E, NamedE w d x l E
section
variable {w w' W : World} {d gs : Nat} {x a b c : Ob}
theorem NamedE.below {l : List Nm} {E : List Nx.Ent} (h : NamedE w d x l E) (hb : Below w.heap.size w w') (hd : d ≤ w.heap.size) : NamedE w' d x l E :=
  ⟨h.1, h.2.1, h.2.2.imp (fun h => h.below (hb.mono hd)) (fun h => h.later hb)⟩
theorem NamedE.bel {l : List Nm} {E : List Nx.Ent} (h : NamedE w d x l E) (hB : Bel w.heap.size d w w') (hd : d ≤ w.heap.size) : NamedE w' d x l E :=
  ⟨h.1, h.2.1, h.2.2.imp (fun h => h.below (hB.below hd (Nat.le_refl _))) (fun h => h.keep (keep_bel hB (Nat.lt_succ_self _)) hB.size)⟩
theorem NamedE.all {l : List Nm} {E : List Nx.Ent} (h : NamedE w d x l E) (hd : d ≤ w.heap.size) : Ents w w.heap.size x.names.A x.names.n l E := h.2.2.elim (fun h => h.mono hd) (fun h => h.ents)
theorem Named.below (h : Named w d x) (hb : Below w.heap.size w w') (hd : d ≤ w.heap.size) : Named w' d x := h.imp fun _ h => h.imp fun _ h => h.below hb hd
theorem Named.bel (h : Named w d x) (hB : Bel w.heap.size d w w') (hd : d ≤ w.heap.size) : Named w' d x := h.imp fun _ h => h.imp fun _ h => h.bel hB hd
end
theorem known_cell {w : World} {g : Nat} {t : TypeId} (h : Obl w g t (sv pathsL).toArray) {k : Nat} (hk : k < 8) : ∃ s : ByteArray, w.cell? ⟨g, k, none⟩ = some (.string s) := by
  have hl : k < pathsL.length := hk
  exact ⟨_, by rw [h.cell, List.getElem?_toArray, sv_at hl]⟩
/-- Two objects that are the same, with entries that hold F. -/
structure Pair (w : World) (a b : Ob) : Prop where
  alike : Alike a b
  pa : a.NoProc
  pb : b.NoProc
  za : a.words.n = 0 ∧ a.data.n = 0 ∧ a.backlog.n = 0 ∧ a.q0.n = 0 ∧ a.q1.n = 0
  zb : b.words.n = 0 ∧ b.data.n = 0 ∧ b.backlog.n = 0 ∧ b.q0.n = 0 ∧ b.q1.n = 0
  ents : ∃ l r E, Ents w w.heap.size a.names.A a.names.n l E ∧ Ents w w.heap.size b.names.A b.names.n r E ∧ E.length ≤ 1000000 ∧ ∀ x ∈ E, x.ids.length ≤ 1000000
theorem Pair.below {w w' : World} {a b : Ob} (h : Pair w a b) (hb : Below w.heap.size w w') : Pair w' a b :=
  ⟨h.alike, h.pa, h.pb, h.za, h.zb, h.ents.imp fun _ h => h.imp fun _ h => h.imp fun _ h => ⟨(h.1.below hb).mono hb.size, (h.2.1.below hb).mono hb.size, h.2.2⟩⟩
theorem nums_none {k : IntKind} {w : World} {B : Nat} {A : Option Addr} {n : Nat} (h : n = 0) : Nums k w B A n [] := by subst h; exact ⟨rfl, rfl, fun _ => rfl, fun h => absurd rfl h⟩
theorem bytes_none {w : World} {B : Nat} {A : Option Addr} {n : Nat} (h : n = 0) : Bytes w B A n [] := by subst h; exact ⟨rfl, rfl, fun _ => rfl, fun h => absurd rfl h⟩
theorem Pair.same {W : World} {a b : Ob} (h : Pair W a b) : Calls Tryd.prog 23 #[.agg (oc a), .agg (oc b)] W (BoolPost true W) := by
  obtain ⟨l, r, E, ha, hb, hE, hx⟩ := h.ents
  obtain ⟨a1, a2, a3, a4, a5⟩ := h.za
  obtain ⟨b1, b2, b3, b4, b5⟩ := h.zb
  have hB : Both W a b [] [] [] [] [] := ⟨nums_none a1, nums_none b1, bytes_none a2, bytes_none b2, bytes_none a4, bytes_none b4, bytes_none a5, bytes_none b5, nums_none a3, nums_none b3, by decide⟩
  have hP : ∀ w, Below W.heap.size W w → Calls Tryd.prog 56 #[.agg (pcell a), .agg (pcell b)] w (BoolPost true w) := fun w _ => sameProc_none a b h.pa h.pb w
  by_cases h0 : E.length = 0
  · exact same_ob a b [] [] [] [] [] W h.alike (by have := ha.len; omega) (by have := hb.len; omega) hB hP
  · exact same_full a b [] [] [] [] [] l r E W h.alike ha hb ⟨hE, hx⟩ h0 hB hP
theorem pair_zero (w : World) : Pair w Ob.zero Ob.zero :=
  ⟨⟨rfl, rfl, rfl, rfl, rfl, rfl, rfl, rfl, rfl, rfl⟩, noProc_zero, noProc_zero, ⟨rfl, rfl, rfl, rfl, rfl⟩, ⟨rfl, rfl, rfl, rfl, rfl⟩, [], [], [], Ents.nil, Ents.nil, by decide, by simp⟩
theorem space_short {E : List Nx.Ent} (h : Nx.Space E) : ∀ x ∈ E, x.ids.length ≤ 1000000 := fun x hx => by
  obtain ⟨i, hi, rfl⟩ := List.getElem_of_mem hx
  have := (h.1 i hi).1
  omega
/-- What the program makes and what the reference makes of a name space. -/
theorem pair_dir {w : World} {o : Ob} {E F : List Nx.Ent} {s t : Sl} {l r : List Nm} (h : o.Names E) (hs : Ents w w.heap.size s.A s.n l F) (ht : Ents w w.heap.size t.A t.n r F) (hF : Nx.Space F) (hn : F.length ≤ 1000000) : Pair w (Ob.dir s) { o with names := t } := by
  obtain ⟨h1, h2, _, _, hw, ⟨c1, c2, c3, c4, c5, c6, c7⟩, ⟨d1, d2, _, d4, d5⟩, hp⟩ := h
  simp only [List.cons.injEq, and_true] at c6
  refine ⟨⟨h2.symm, h1.symm, c1.symm, c2.symm, c3.symm, c4.symm, c5.symm, c7.symm, c6.1.symm, c6.2.symm⟩, noProc_dir s, hp, ⟨rfl, rfl, rfl, rfl, rfl⟩, ⟨hw, d1, d2, d4, d5⟩, l, r, F, hs, ht, hn, space_short hF⟩
/-- What both packages give: an error, and two objects that are the same once both are there. -/
def ProgIs (r : Int) (F : List Nx.Ent) (w : World) (e : Ending) (w' : World) : Prop := ∃ a : Ob, e = .returned (.tuple #[.agg (oc a), .int .i64 r]) ∧ Below w.heap.size w w' ∧ ((r = 0 ∧ ∃ s l, a = Ob.dir s ∧ Ents w' w'.heap.size s.A s.n l F) ∨ (r ≠ 0 ∧ a = Ob.zero))
def RefIs (o : Ob) (r : Int) (F : List Nx.Ent) (w : World) (e : Ending) (w' : World) : Prop := ∃ b : Ob, e = .returned (.tuple #[.agg (oc b), .int .i64 r]) ∧ Below w.heap.size w w' ∧ ((r = 0 ∧ ∃ s l, b = { o with names := s } ∧ Ents w' w'.heap.size s.A s.n l F) ∨ (r ≠ 0 ∧ b = Ob.zero))
theorem DirIs.prog {r : Int} {F : List Nx.Ent} {w w' : World} {e : Ending} (h : DirIs r F w e w') : ProgIs r F w e w' := by
  rcases h with ⟨rfl, A, n, c, l, he, hM, hb⟩ | ⟨h0, he, hb⟩
  · exact ⟨_, he, hb, .inl ⟨rfl, _, l, rfl, hM.ents⟩⟩
  · exact ⟨_, he, hb, .inr ⟨h0, rfl⟩⟩
theorem ObIs.ref {o : Ob} {r : Int} {F : List Nx.Ent} {w w' : World} {e : Ending} (h : ObIs o r F w e w') : RefIs o r F w e w' := by
  rcases h with ⟨rfl, A, n, c, l, he, hM, hb⟩ | ⟨h0, he, hb⟩
  · exact ⟨_, he, hb, .inl ⟨rfl, _, l, rfl, hM.ents⟩⟩
  · exact ⟨_, he, hb, .inr ⟨h0, rfl⟩⟩
theorem AddIs.ref {o : Ob} {E : List Nx.Ent} {x : Nx.Ent} {w w' : World} {e : Ending} (h : AddIs o E x w e w') : RefIs o (o.addErr E x) (Nx.insert E x) w e w' := by
  rcases h with ⟨h0, A, n, c, l, he, _, hM, hb⟩ | ⟨h0, he, hb⟩
  · obtain ⟨h1, _, h3, _⟩ := Ob.addErr_0 h0
    rw [Nx.insertL_eq (Nx.asc_of_space h1.2.2.2.1) (Nx.find_none h3)] at hM
    exact ⟨_, by rw [h0]; exact he, hb, .inl ⟨h0, _, l, rfl, hM.ents⟩⟩
  · exact ⟨_, he, hb, .inr ⟨h0, rfl⟩⟩
/-- What Add and Rename leave where they give no error. -/
structure Good (o : Ob) (r : Int) (F : List Nx.Ent) : Prop where
  names : r = 0 → ∃ E, o.Names E
  space : r = 0 → Nx.Space F ∧ F.length ≤ 1000000
theorem good_add (o : Ob) (E : List Nx.Ent) (x : Nx.Ent) (hn : E.length ≤ 1000) : Good o (o.addErr E x) (Nx.insert E x) := by
  refine ⟨fun h => ⟨E, (Ob.addErr_0 h).1⟩, fun h => ?_⟩
  obtain ⟨h1, h2, h3, _⟩ := Ob.addErr_0 h
  exact ⟨Nx.insert_space h1.2.2.2.1 h2 h3, by rw [Nx.insert_length]; omega⟩
theorem good_ren (o : Ob) (E : List Nx.Ent) (p q : List UInt8) (hn : E.length ≤ 1000) : Good o (o.renErr E p q) (Nx.renamed E p q) := by
  have key : o.renErr E p q = 0 → o.Names E ∧ Nx.renErr E p q = 0 := fun h => by
    unfold Ob.renErr at h
    split at h
    · rename_i hN
      exact ⟨hN, h⟩
    · cases h
  refine ⟨fun h => ⟨E, (key h).1⟩, fun h => ?_⟩
  obtain ⟨hN, h0⟩ := key h
  obtain ⟨z, hz, hq, hf⟩ := Nx.renErr_0 h0
  obtain ⟨k1, k2, _, _, _, _, k7, _⟩ := Nx.keeps hN.2.2.2.1 hz hq hf
  rw [k7]
  exact ⟨k1, by omega⟩
theorem Good.pair {o a b : Ob} {r : Int} {F : List Nx.Ent} {w : World} (h : Good o r F) (ha : (r = 0 ∧ ∃ s l, a = Ob.dir s ∧ Ents w w.heap.size s.A s.n l F) ∨ (r ≠ 0 ∧ a = Ob.zero)) (hb : (r = 0 ∧ ∃ s l, b = { o with names := s } ∧ Ents w w.heap.size s.A s.n l F) ∨ (r ≠ 0 ∧ b = Ob.zero)) : Pair w a b := by
  rcases ha with ⟨h0, s, l, rfl, ha⟩ | ⟨h0, rfl⟩
  · rcases hb with ⟨_, t, k, rfl, hb⟩ | ⟨h1, _⟩
    · obtain ⟨E, hE⟩ := h.names h0
      exact pair_dir hE ha hb (h.space h0).1 (h.space h0).2
    · exact absurd h0 h1
  · rcases hb with ⟨h1, _⟩ | ⟨_, rfl⟩
    · exact absurd h1 h0
    · exact pair_zero w
/-- Two objects in a row. -/
theorem fill2 (a b : Ob) : Instr.fill (fun i => some (i * 36, 36)) ((Array.range (2 * 36)).map ((oc Ob.zero)[· % (oc Ob.zero).size]!)) [(0, .agg (oc a)), (1, .agg (oc b))] = some (ocl a ++ ocl b).toArray := by kernel_rfl
theorem run_slice2 (w : World) (a b : Ob) : (Instr.buildSlice 47 2 #[(0, .agg (oc a)), (1, .agg (oc b))]).run Tryd.prog w = .ok (.slice (some ⟨w.heap.size, 0, none⟩) 2 2) (w.alloc (.cells (ocl a ++ ocl b).toArray 41)) := by
  have hz : (zeroValue 41).run Tryd.prog w = .ok (.agg (oc Ob.zero)) w := by kernel_rfl
  have hs : (sizeOf 41).run Tryd.prog w = .ok 36 w := by kernel_rfl
  have hf := fill2 a b
  simp only [Instr.buildSlice, Sem.run_bind, run_underlying Tryd.underlying47, Result.andThen_ok, hs]
  rw [if_neg (by decide), if_neg (by decide)]
  simp only [Sem.run_bind, hz, Result.andThen_ok, Sem.run_pure, Value.cells, hf, newRow, run_newObj_alloc]
theorem wpList_slice2 {ops : Array Oper} {rest : List Oper} {o : Oper} {a : Act} {w : World} {Q : Exit → Act → World → Prop} (hg : o.guard = none) {x y : Operand} (ho : o.op = .buildSlice 47 2 #[(0, x), (1, y)]) {p q : Ob} (hx : a.eval x = .agg (oc p)) (hy : a.eval y = .agg (oc q))
    (hK : wpList Tryd.prog ops Q rest (a.put o.dst (.slice (some ⟨w.heap.size, 0, none⟩) 2 2)) (w.alloc (.cells (ocl p ++ ocl q).toArray 41))) : wpList Tryd.prog ops Q (o :: rest) a w := by
  refine wpList_plain hg fun K' hK' => ?_
  have hr := run_slice2 w p q
  unfold Oper.wp execOp
  simp only [ho, hx, hy, List.map_toArray, List.map_cons, List.map_nil, Sem.run_bind, hr, Result.andThen_ok, Sem.run_pure]
  exact hK' _ _ hK
theorem two_at {a b : Ob} {k : Nat} {x : Ob} (hx : [a, b][k]? = some x) (j : Nat) (v : Value) (h : (ocl x)[j]? = some v) : (ocl a ++ ocl b).toArray[k * 36 + j]? = some v := by
  have hj : j < 36 := by have := (List.getElem?_eq_some_iff.1 h).1; rw [ocl_len] at this; exact this
  rw [List.getElem?_toArray]
  rcases k with _ | _ | k
  · simp only [List.getElem?_cons_zero, Option.some.injEq] at hx
    subst hx
    rw [List.getElem?_append_left (by rw [ocl_len]; omega), show 0 * 36 + j = j by omega]
    exact h
  · simp only [List.getElem?_cons_succ, List.getElem?_cons_zero, Option.some.injEq] at hx
    subst hx
    rw [List.getElem?_append_right (by rw [ocl_len]; omega), ocl_len, show (0 + 1) * 36 + j - 36 = j by omega]
    exact h
  · simp at hx
theorem exec_load_two {o : Oper} {act : Act} {w : World} {p : Operand} (ho : o.op = .load 41 p) {g k : Nat} (hp : act.eval p = .pointer (some ⟨g, k * 36, none⟩)) {t : TypeId} {a b x : Ob} (h : Obl w g t (ocl a ++ ocl b).toArray) (hx : [a, b][k]? = some x) :
    (execOp act.eval o).run Tryd.prog w = .ok (.value (.agg (oc x))) w := exec_load_mid ho hp h (ocl x) (two_at hx) rfl Tryd.underlying41 obSize
section
open Go.ChangeShapes Go.WideShapes Go.ChangeAt
set_option maxRecDepth 100000
variable {H : Type} {enc : TypeId × Value → H} {W : World} {base : Nat} {sp : Nat → Bool} {held : Bool}
theorem nm_came {b0 : Nat} {r : Reach} {v : Value} {d : DataW H} {p : List MemPlace} (hv : Value.okWide Tryd.prog W r b0 51 v) (h : DataW.Trod enc Tryd.prog W base sp held 51 v d p) :
    ∃ (y : Nm) (I : List Int), v = .agg (nc y) ∧ Nums .u64 W W.heap.size y.ids.A y.ids.n I ∧ y.path.length ≤ 9223372036854775807 ∧ y.ids.n ≤ 9223372036854775807 := by
  obtain ⟨cs, rfl, hsz⟩ := okWide_struct Tryd.underlying51 hv
  obtain ⟨fuel, hf⟩ := h
  obtain ⟨y, ⟨c0, c1, c2⟩, ⟨hp, hn⟩, I, hI⟩ := name_came hf
  refine ⟨y, I, ?_, hI, hp, hn⟩
  simp only [Value.cells] at c0 c1 c2
  have h3 : cs.size = 3 := by rw [hsz]; exact nmCells
  congr 1
  apply Array.ext'
  apply List.ext_getElem?
  intro i
  obtain rfl | rfl | rfl | hi : i = 0 ∨ i = 1 ∨ i = 2 ∨ 3 ≤ i := by omega
  · rw [c0]; rfl
  · rw [c1]; rfl
  · rw [c2]; rfl
  · rw [List.getElem?_eq_none (by rw [Array.length_toList]; omega), List.getElem?_eq_none (by show 3 ≤ i; exact hi)]
end
end Go.Proofs.YtmkpndajmggadaaDoor
