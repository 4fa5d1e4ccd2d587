/- Layer 10, package table: copied: a contract. (Written by tools/mktbcopied.py.) -/
import Derived.Test.YtbbibbniphmgbaaTbProc
namespace Go.Proofs.Ytbbibbniphmgbaa
open Go.RowKit

theorem obl_there {w : World} {g : Nat} {t : TypeId} {cs : Array Value} (h : Obl w g t cs) {i n : Nat} (hn : i + n ≤ cs.size) : w.there g i n := fun j hj => ⟨by rw [h.cell, Array.getElem?_eq_getElem (by omega)]; rfl, h.free _⟩
theorem pcs_size (c : Ob) : (pcell c).size = 20 := rfl
theorem oc_size (c : Ob) : (oc c).size = 36 := rfl
theorem store_procMid {ops : Array Oper} {rest : List Oper} {o : Oper} {a : Act} {w : World} {Q : Exit → Act → World → Prop} (hgd : o.guard = none) (x y : Operand) (ho : o.op = .store 56 x y) {g : Nat} (hx : a.eval x = .pointer (some ⟨g, 3, none⟩)) {c y' : Ob} (hy : a.eval y = .agg (pcell c)) {t : TypeId} (h : Obl w g t (oc y'))
    (hK : wpList Try.prog ops Q rest (a.put o.dst undef) (w.setCells g 3 (pcs c))) : wpList Try.prog ops Q (o :: rest) a w :=
  wpList_store_mid hgd _ x y ho g 3 (pcell c) hx hy (obl_there h (by rw [pcs_size, oc_size]; omega)) procSize (pcell_one c) hK
theorem Fr.set_above {lo g : Nat} {w w' : World} (h : Fr lo w w') (hg : w.heap.size ≤ g) (i : Nat) (v : Value) : Fr lo w (w'.setCell ⟨g, i, none⟩ v) :=
  ⟨by simpa [World.setCell] using h.1, fun k h1 h2 => by
    have : ¬ g = k := by omega
    simpa [World.setCell, Array.getElem?_modify, this] using h.2 k h1 h2⟩
theorem qSize : (Try.prog.info? 57).map (·.size) = some 2 := by kernel_rfl
theorem two_mid (p : Nat → Option Value) (x y : Value) (h0 : p 0 = some x) (h1 : p 1 = some y) (j : Nat) (v : Value) (h : [x, y][j]? = some v) : p j = some v := by
  rcases j with _ | _ | j
  · simpa [h0] using h
  · simpa [h1] using h
  · simp at h
theorem exec_load_qs {w : World} {a : Act} {o : Oper} {x : Operand} (ho : o.op = .load 57 x) {g : Nat} (hx : a.eval x = .pointer (some ⟨g, 30, none⟩)) {t : TypeId} {y : Ob} (h : Obl w g t (oc y)) :
    (execOp a.eval o).run Try.prog w = .ok (.value (.agg #[.slice y.q0.A y.q0.n y.q0.c, .slice y.q1.A y.q1.n y.q1.c])) w :=
  exec_load_mid ho hx h [_, _] (two_mid (fun j => (oc y)[30 + j]?) _ _ rfl rfl) rfl Try.underlying57 qSize
theorem bytesSize1 : (Try.prog.info? 26).map (·.size) = some 1 := by kernel_rfl
theorem run_index_q {w : World} (u v x : Value) (k : Nat) (hk : k < 2) (hx : (#[u, v] : Array Value)[k]? = some x) : (Instr.index 57 (.agg #[u, v]) (.int .i64 (k : Int))).run Try.prog w = .ok x w := by
  have hsz : (sizeOf 26).run Try.prog w = .ok 1 w := by
    cases hq : Try.prog.info? 26 with
    | none => have := bytesSize1; simp [hq] at this
    | some i =>
      have hs : i.size = 1 := by have := bytesSize1; simpa [hq] using this
      simp [sizeOf, typeInfo, hq, hs]
  have hp : (part 26 #[u, v] (k * 1)).run Try.prog w = .ok x w := run_part_one Try.underlying26 rfl (by rw [Nat.mul_one]; exact hx)
  unfold Instr.index
  simp only [asIntOf, Sem.run_bind, Sem.run_pure, Result.andThen_ok, run_underlying Try.underlying57, Int.toNat_natCast]
  rw [if_pos (by omega)]
  simp only [Sem.run_bind, Result.andThen_ok, hsz, hp]
theorem exec_index_q {w : World} {a : Act} {o : Oper} {x i : Operand} (ho : o.op = .index 57 x i) {u v y : Value} (hx : a.eval x = .agg #[u, v]) (k : Nat) (hi : a.eval i = .int .i64 (k : Int)) (hk : k < 2) (hy : (#[u, v] : Array Value)[k]? = some y) :
    (execOp a.eval o).run Try.prog w = .ok (.value y) w := by
  unfold execOp
  simp only [ho, hx, hi, Sem.run_bind, run_index_q u v y k hk hy, Sem.run_pure, Result.andThen_ok]
theorem nmv_set (l : List Nm) (k : Nat) (h : k < l.length) (s : Sl) : (nmv l).set (k * 3 + 2) (.slice s.A s.n s.c) = nmv (l.set k ⟨l[k].path, l[k].kind, s⟩) := by
  induction l generalizing k with
  | nil => simp at h
  | cons a l ih =>
    rcases k with _ | k
    · simp [nmv, nmc]
    · have := ih k (by simpa using h)
      rw [List.set_cons_succ, nmv_cons, nmv_cons]
      simp only [List.getElem_cons_succ]
      rw [← this]
      simp only [nmc, List.cons_append, List.nil_append, show (k + 1) * 3 + 2 = (k * 3 + 2) + 1 + 1 + 1 by omega, List.set_cons_succ]
/-- The entries of a row of the call's own, the first k of them with identifiers of their own. -/
structure NmAt (w : World) (base lo : Nat) (A : Option Addr) (n c : Nat) (l : List Nm) (E : List Nx.Ent) (k : Nat) (L : List Nm) : Prop where
  len : L.length = n
  row : w.ownsRow base 84 3 (.slice A n c) n (nmv L)
  ids : Stays lo w (fun u => ∀ j (h : j < L.length) (h' : j < E.length), j < k → Nums .u64 u u.heap.size L[j].ids.A L[j].ids.n E[j].ids)
  old : ∀ j (h : j < L.length) (h2 : j < l.length), k ≤ j → L[j] = l[j]
  same : ∀ j (h : j < L.length) (h' : j < E.length), L[j].path = E[j].path ∧ L[j].kind = E[j].kind
theorem NmAt.carry {w w' : World} {base lo n c k : Nat} {A : Option Addr} {l L : List Nm} {E : List Nx.Ent} (h : NmAt w base lo A n c l E k L) (hb : Below w.heap.size w w') : NmAt w' base lo A n c l E k L :=
  ⟨h.len, own_below h.row hb, h.ids.next (Fr.below hb), h.old, h.same⟩
/-- Entry k's identifiers are laid anew. -/
theorem NmAt.step {w : World} {base lo n c k g : Nat} {l L : List Nm} {E : List Nx.Ent} {s : Sl} (h : NmAt w base lo (some ⟨g, 0, none⟩) n c l E k L) (hk : k < L.length) (hg : g < lo) (hs : ∀ h' : k < E.length, Stays lo w (fun u => Nums .u64 u u.heap.size s.A s.n E[k].ids)) :
    NmAt (w.setCell ⟨g, k * 3 + 2, none⟩ (.slice s.A s.n s.c)) base lo (some ⟨g, 0, none⟩) n c l E (k + 1) (L.set k ⟨L[k].path, L[k].kind, s⟩) := by
  refine ⟨by simpa using h.len, by rw [← nmv_set L k hk s]; exact own_set h.row _, ?_, ?_, ?_⟩
  · intro u hu j h1 h2 h3
    have hf : Fr lo w u := (Fr.put hg _ _).trans hu
    rw [List.length_set] at h1
    by_cases e : j = k
    · subst e
      rw [List.getElem_set_self]
      exact hs h2 u hf
    · rw [List.getElem_set_ne (Ne.symm e)]
      exact h.ids u hf j h1 h2 (by omega)
  · intro j h1 h2 h3
    rw [List.length_set] at h1
    rw [List.getElem_set_ne (by omega)]
    exact h.old j h1 h2 (by omega)
  · intro j h1 h2
    rw [List.length_set] at h1
    by_cases e : j = k
    · subst e
      rw [List.getElem_set_self]
      exact h.same j hk h2
    · rw [List.getElem_set_ne (Ne.symm e)]
      exact h.same j h1 h2
set_option maxRecDepth 100000 in
set_option maxHeartbeats 32000000 in
theorem tbCopied_any (o : Ob) (X : Cont) (W : World) (h : Holds W W.heap.size o X) (hX : X.Short) : Calls Try.prog 53 #[.agg (oc o)] W (CopPost o X W) := by
  obtain ⟨w0, hw0, P0, Q0, hb0, hs0⟩ := start_oz W o
  have HB0 := hide hb0
  have H0 := hide h
  have HX := hide hX
  have hl0 : W.heap.size + 2 ≤ w0.heap.size := by omega
  obtain ⟨l, hEnts⟩ := h.names
  have HE := hide hEnts
  clear h hX hb0 hEnts
  go_enter Try.func53, Try.ntmps53
  go_wp2_with (first | (refine wpList_val (by rfl) (exec_load_proc rfl rfl P0) ?_) | fail)
  refine (copProc_any o X _ ((H0.out.below HB0.out).mono HB0.out.size) HX.out).mono ?_
  rintro e v1 ⟨c, rfl, hst, hb⟩
  have O1 := P0.below hb P0.lt
  have Z1 := Q0.below hb Q0.lt
  obtain ⟨w1, hw1⟩ : ∃ w, v1.setCells W.heap.size 3 (pcs (o.reproc c)) = w := ⟨_, rfl⟩
  have P1 : Obl w1 W.heap.size 61 (oc (o.reproc c)) := by rw [← hw1]; exact obl_proc O1 (o.reproc c)
  have Q1 : Obl w1 (W.heap.size + 1) 61 (oc Ob.zero) := by rw [← hw1]; exact obl_cells_other Z1 (by omega) _ _
  have HB1 : Hid (Below W.heap.size W w1) := hide (by rw [← hw1]; exact below_cells (HB0.out.trans (hb.mono HB0.out.size)) (Nat.le_refl _) _ _)
  have HS1 : Hid (Stays (W.heap.size + 2) w1 (fun u => Owns u w0.heap.size c X)) := hide (by rw [← hw1]; exact (show Stays (W.heap.size + 2) v1 _ from hst.lower hl0).next (Fr.cells (by omega) _ _))
  have hl1 : W.heap.size + 2 ≤ w1.heap.size := by have := Q1.lt; omega
  have m1 : w1.cell? ⟨W.heap.size, 23, none⟩ = some (.slice o.words.A o.words.n o.words.c) := P1.cell 23
  clear hst hb P0 Q0 Z1 HB0
  go_wp2_with (first | (refine store_procMid rfl _ _ rfl rfl (c := o.reproc c) rfl O1 ?_; rw [hw1]) | fail)
  clear O1
  refine (cloneI64_any _ (nv_one _ _) _ _ _ W.heap.size _ (H0.out.words.2.below HB1.out) HB1.out.size (by have := H0.out.words.1; have := HX.out.2.2.2.2.2.1; omega)).mono ?_
  rintro e v2 ⟨Awords, cwords, rfl, hown, hb⟩
  have O2 := P1.below hb P1.lt
  have Z2 := Q1.below hb Q1.lt
  have k2 : v2.cell? ⟨W.heap.size, 23, none⟩ = some (.slice _ _ _) := O2.cell 23
  have z2 := O2.free 23
  obtain ⟨w2, hw2⟩ : ∃ w, v2.setCell ⟨W.heap.size, 23, none⟩ (.slice Awords o.words.n cwords) = w := ⟨_, rfl⟩
  have P2 := O2.put 23 (.slice Awords o.words.n cwords)
  rw [oc_words, hw2] at P2
  have Q2 := Z2.put_other (b' := W.heap.size) (by omega) 23 (.slice Awords o.words.n cwords)
  rw [hw2] at Q2
  have HF2 : Hid (Fr (W.heap.size + 2) v2 w2) := hide (by rw [← hw2]; exact Fr.put (by omega) _ _)
  have HBn : Hid (Below W.heap.size W w2) := hide (by rw [← hw2]; exact (HB1.out.trans (hb.mono HB1.out.size)).setCell (p := ⟨W.heap.size, 23, none⟩) (by simp only; omega) _)
  have HB2 := HBn
  have HS2 : Hid (Stays (W.heap.size + 2) w2 _) := hide (((HS1.out.next (Fr.below hb)).and (Stays.own hown (by omega))).next HF2.out)
  have hl2 : W.heap.size + 2 ≤ w2.heap.size := by have := P2.lt; have := Q2.lt; omega
  have m2 : w2.cell? ⟨W.heap.size, 24, none⟩ = some (.slice o.data.A o.data.n o.data.c) := P2.cell 24
  clear hown hb HBn O2 Z2 HF2 P1 Q1 HB1 HS1
  go_wp2_with fail
  refine (cloneU8_any _ (bv_one _) _ _ _ W.heap.size _ (H0.out.data.2.below HB2.out) HB2.out.size (by have := H0.out.data.1; have := HX.out.2.2.2.2.2.2.1; omega)).mono ?_
  rintro e v3 ⟨Adata, cdata, rfl, hown, hb⟩
  have O3 := P2.below hb P2.lt
  have Z3 := Q2.below hb Q2.lt
  have k3 : v3.cell? ⟨W.heap.size, 24, none⟩ = some (.slice _ _ _) := O3.cell 24
  have z3 := O3.free 24
  obtain ⟨w3, hw3⟩ : ∃ w, v3.setCell ⟨W.heap.size, 24, none⟩ (.slice Adata o.data.n cdata) = w := ⟨_, rfl⟩
  have P3 := O3.put 24 (.slice Adata o.data.n cdata)
  rw [oc_data, hw3] at P3
  have Q3 := Z3.put_other (b' := W.heap.size) (by omega) 24 (.slice Adata o.data.n cdata)
  rw [hw3] at Q3
  have HF3 : Hid (Fr (W.heap.size + 2) v3 w3) := hide (by rw [← hw3]; exact Fr.put (by omega) _ _)
  have HBn : Hid (Below W.heap.size W w3) := hide (by rw [← hw3]; exact (HB2.out.trans (hb.mono HB2.out.size)).setCell (p := ⟨W.heap.size, 24, none⟩) (by simp only; omega) _)
  have HB3 := HBn
  have HS3 : Hid (Stays (W.heap.size + 2) w3 _) := hide (((HS2.out.next (Fr.below hb)).and (Stays.own hown (by omega))).next HF3.out)
  have hl3 : W.heap.size + 2 ≤ w3.heap.size := by have := P3.lt; have := Q3.lt; omega
  have m3 : w3.cell? ⟨W.heap.size, 29, none⟩ = some (.slice o.backlog.A o.backlog.n o.backlog.c) := P3.cell 29
  clear hown hb HBn O3 Z3 HF3 P2 Q2 HB2 HS2
  go_wp2_with fail
  refine (cloneU64_any _ (nv_one _ _) _ _ _ W.heap.size _ (H0.out.backlog.2.below HB3.out) HB3.out.size (by have := H0.out.backlog.1; have := HX.out.2.2.2.2.2.2.2.1; omega)).mono ?_
  rintro e v4 ⟨Abacklog, cbacklog, rfl, hown, hb⟩
  have O4 := P3.below hb P3.lt
  have Z4 := Q3.below hb Q3.lt
  have k4 : v4.cell? ⟨W.heap.size, 29, none⟩ = some (.slice _ _ _) := O4.cell 29
  have z4 := O4.free 29
  obtain ⟨w4, hw4⟩ : ∃ w, v4.setCell ⟨W.heap.size, 29, none⟩ (.slice Abacklog o.backlog.n cbacklog) = w := ⟨_, rfl⟩
  have P4 := O4.put 29 (.slice Abacklog o.backlog.n cbacklog)
  rw [oc_backlog, hw4] at P4
  have Q4 := Z4.put_other (b' := W.heap.size) (by omega) 29 (.slice Abacklog o.backlog.n cbacklog)
  rw [hw4] at Q4
  have HF4 : Hid (Fr (W.heap.size + 2) v4 w4) := hide (by rw [← hw4]; exact Fr.put (by omega) _ _)
  have HBn : Hid (Below W.heap.size W w4) := hide (by rw [← hw4]; exact (HB3.out.trans (hb.mono HB3.out.size)).setCell (p := ⟨W.heap.size, 29, none⟩) (by simp only; omega) _)
  have HB4 := HBn
  have HS4 : Hid (Stays (W.heap.size + 2) w4 _) := hide (((HS3.out.next (Fr.below hb)).and (Stays.own hown (by omega))).next HF4.out)
  have hl4 : W.heap.size + 2 ≤ w4.heap.size := by have := P4.lt; have := Q4.lt; omega
  clear hown hb HBn O4 Z4 HF4 P3 Q3 HB3 HS3
  obtain ⟨oA, hoA⟩ : ∃ oA, ({ ({ ({ o.reproc c with words := ⟨Awords, o.words.n, cwords⟩ } : Ob) with data := ⟨Adata, o.data.n, cdata⟩ } : Ob) with backlog := ⟨Abacklog, o.backlog.n, cbacklog⟩ } : Ob) = oA := ⟨_, rfl⟩
  have hq0 : oA.q0 = o.q0 := by rw [← hoA]; rfl
  have hq1 : oA.q1 = o.q1 := by rw [← hoA]; rfl
  have hnm : oA.names = o.names := by rw [← hoA]; rfl
  have hrel : ∀ S0 S1 N : Sl, ({ oA with q0 := S0, q1 := S1, names := N } : Ob) = o.relist { c with words := ⟨Awords, o.words.n, cwords⟩, data := ⟨Adata, o.data.n, cdata⟩, backlog := ⟨Abacklog, o.backlog.n, cbacklog⟩, q0 := S0, q1 := S1, names := N } := fun S0 S1 N => by rw [← hoA]; rfl
  have HREL := hide hrel
  rw [hoA] at P4
  have HQ0 : Hid (Row W W.heap.size 1 oA.q0.A oA.q0.n (bv X.q0)) := hide (by rw [hq0]; exact H0.out.q0.2)
  have HQ1 : Hid (Row W W.heap.size 1 oA.q1.A oA.q1.n (bv X.q1)) := hide (by rw [hq1]; exact H0.out.q1.2)
  have HN0 : Hid (oA.q0.n ≤ 1000000 ∧ oA.q1.n ≤ 1000000) := hide (by rw [hq0, hq1]; have h1 := H0.out.q0.1; have h2 := H0.out.q1.1; have h3 := HX.out.2.2.2.2.2.2.2.2.1; have h4 := HX.out.2.2.2.2.2.2.2.2.2.1; omega)
  obtain ⟨PS, hPS, HS5⟩ : ∃ PS : World → Prop, (∀ u, PS u → (((Owns u w0.heap.size c X ∧ u.ownsRow (W.heap.size + 2) 2 1 (.slice Awords o.words.n cwords) o.words.n (nv .i64 X.words)) ∧ u.ownsRow (W.heap.size + 2) 5 1 (.slice Adata o.data.n cdata) o.data.n (bv X.data)) ∧ u.ownsRow (W.heap.size + 2) 23 1 (.slice Abacklog o.backlog.n cbacklog) o.backlog.n (nv .u64 X.backlog))) ∧ Hid (Stays (W.heap.size + 2) w4 PS) := ⟨_, fun _ h => h, HS4⟩
  have HPS := hide hPS
  have HNM := hide hnm
  clear HS4 hq0 hq1 hrel hoA hPS hnm
  go_wp2_with (first | (refine wpList_val (by rfl) (exec_load_qs rfl rfl P4) ?_) | fail)
  go_loopw [25] (fun s25 wr => ∃ (k : Nat) (S0 S1 : Sl), s25 = .int .i64 (k : Int) ∧ k ≤ 2 ∧ Hid (Obl wr W.heap.size 61 (oc { oA with q0 := S0, q1 := S1 })) ∧ Hid (Obl wr (W.heap.size + 1) 61 (oc Ob.zero)) ∧ Hid (Below W.heap.size W wr) ∧ Hid (Stays (W.heap.size + 2) wr PS) ∧
      Hid (1 ≤ k → Stays (W.heap.size + 2) wr (fun u => u.ownsRow (W.heap.size + 2) 5 1 (.slice S0.A S0.n S0.c) S0.n (bv X.q0))) ∧ Hid (2 ≤ k → Stays (W.heap.size + 2) wr (fun u => u.ownsRow (W.heap.size + 2) 5 1 (.slice S1.A S1.n S1.c) S1.n (bv X.q1)))) (fun s25 _ => 2 - (intOf s25).toNat)
  case atStart => exact ⟨0, oA.q0, oA.q1, rfl, by omega, hide P4, hide Q4, HB4, HS5, hide (fun h => by omega), hide (fun h => by omega)⟩
  case round =>
    obtain ⟨k, S0, S1, rfl, hk, HP, HQ, HB, HS, HU, HV⟩ := hrel
    have hlr : W.heap.size + 2 ≤ wr.heap.size := by have := HQ.out.lt; omega
    rcases (show k = 0 ∨ k = 1 ∨ k = 2 by omega) with rfl | rfl | rfl
    · go_wp2_with (first | (refine wpList_val (by rfl) (exec_index_q rfl rfl 0 rfl (by omega) rfl) ?_) | fail)
      refine (cloneU8_any _ (bv_one _) _ _ _ W.heap.size _ (HQ0.out.below HB.out) HB.out.size HN0.out.1).mono ?_
      rintro e v ⟨A, d, rfl, hown, hb⟩
      have OV := HP.out.below hb HP.out.lt
      have ZV := HQ.out.below hb HQ.out.lt
      have kv : v.cell? ⟨W.heap.size, 30, none⟩ = some (.slice S0.A S0.n S0.c) := OV.cell 30
      have zv := OV.free 30
      obtain ⟨w', hw'⟩ : ∃ w, v.setCell ⟨W.heap.size, 30, none⟩ (.slice A oA.q0.n d) = w := ⟨_, rfl⟩
      have HFn : Hid (Fr (W.heap.size + 2) v w') := hide (by rw [← hw']; exact Fr.put (by omega) _ _)
      have HPn : Hid (Obl w' W.heap.size 61 (oc { oA with q0 := ⟨A, oA.q0.n, d⟩, q1 := S1 })) := hide (by have := OV.put 30 (.slice A oA.q0.n d); rw [oc_q0, hw'] at this; exact this)
      have HQn : Hid (Obl w' (W.heap.size + 1) 61 (oc Ob.zero)) := hide (by rw [← hw']; exact ZV.put_other (b' := W.heap.size) (by omega) 30 _)
      have HBn : Hid (Below W.heap.size W w') := hide (by rw [← hw']; exact (HB.out.trans (hb.mono HB.out.size)).setCell (p := ⟨W.heap.size, 30, none⟩) (by simp only; omega) _)
      have HSn := hide ((HS.out.next (Fr.below hb)).next HFn.out)
      have HUn := hide ((Stays.own (lo := W.heap.size + 2) hown (by omega)).next HFn.out)
      clear hown hb OV ZV HP HQ HB HS HU HV
      go_wp2_with fail
      go_roundw
      case rel => exact ⟨1, ⟨A, oA.q0.n, d⟩, S1, by go_num, by omega, HPn, HQn, HBn, HSn, hide (fun _ => HUn.out), hide (fun h => by omega)⟩
      case measure => simp [intOf]
    · go_wp2_with (first | (refine wpList_val (by rfl) (exec_index_q rfl rfl 1 rfl (by omega) rfl) ?_) | fail)
      refine (cloneU8_any _ (bv_one _) _ _ _ W.heap.size _ (HQ1.out.below HB.out) HB.out.size HN0.out.2).mono ?_
      rintro e v ⟨A, d, rfl, hown, hb⟩
      have OV := HP.out.below hb HP.out.lt
      have ZV := HQ.out.below hb HQ.out.lt
      have kv : v.cell? ⟨W.heap.size, 31, none⟩ = some (.slice S1.A S1.n S1.c) := OV.cell 31
      have zv := OV.free 31
      obtain ⟨w', hw'⟩ : ∃ w, v.setCell ⟨W.heap.size, 31, none⟩ (.slice A oA.q1.n d) = w := ⟨_, rfl⟩
      have HFn : Hid (Fr (W.heap.size + 2) v w') := hide (by rw [← hw']; exact Fr.put (by omega) _ _)
      have HPn : Hid (Obl w' W.heap.size 61 (oc { oA with q0 := S0, q1 := ⟨A, oA.q1.n, d⟩ })) := hide (by have := OV.put 31 (.slice A oA.q1.n d); rw [oc_q1, hw'] at this; exact this)
      have HQn : Hid (Obl w' (W.heap.size + 1) 61 (oc Ob.zero)) := hide (by rw [← hw']; exact ZV.put_other (b' := W.heap.size) (by omega) 31 _)
      have HBn : Hid (Below W.heap.size W w') := hide (by rw [← hw']; exact (HB.out.trans (hb.mono HB.out.size)).setCell (p := ⟨W.heap.size, 31, none⟩) (by simp only; omega) _)
      have HSn := hide ((HS.out.next (Fr.below hb)).next HFn.out)
      have HUn := hide (((HU.out (by omega)).next (Fr.below hb)).next HFn.out)
      have HVn := hide ((Stays.own (lo := W.heap.size + 2) hown (by omega)).next HFn.out)
      clear hown hb OV ZV HP HQ HB HS HU HV
      go_wp2_with fail
      go_roundw
      case rel => exact ⟨2, S0, ⟨A, oA.q1.n, d⟩, by go_num, by omega, HPn, HQn, HBn, HSn, hide (fun _ => HUn.out), hide (fun _ => HVn.out)⟩
      case measure => simp [intOf]
    · generalize wr = wo at *
      have m35 : wo.cell? ⟨W.heap.size, 35, none⟩ = some (.slice o.names.A o.names.n o.names.c) := (HP.out.cell 35).trans (by show some (Value.slice oA.names.A oA.names.n oA.names.c) = _; rw [HNM.out])
      have HUn := hide (HU.out (by omega))
      have HVn := hide (HV.out (by omega))
      have HEN : Hid (o.names.n ≤ 1000000) := hide (by have h1 := HE.out.len; have h3 := HX.out.2.2.2.2.2.2.2.2.2.2.1; omega)
      clear HU HV
      go_wp2_with fail
      refine (cloneNm_any _ (nmv_one l) _ _ _ W.heap.size _ (HE.out.nms.2.1.below HB.out) HB.out.size HEN.out).mono ?_
      rintro e v ⟨A, d, rfl, hown, hb⟩
      have OV := HP.out.below hb HP.out.lt
      have ZV := HQ.out.below hb HQ.out.lt
      have hsw : wo.heap.size ≤ v.heap.size := hb.size
      have kv : v.cell? ⟨W.heap.size, 35, none⟩ = some (.slice o.names.A o.names.n o.names.c) := (OV.cell 35).trans (by show some (Value.slice oA.names.A oA.names.n oA.names.c) = _; rw [HNM.out])
      have zv := OV.free 35
      obtain ⟨w5, hw5⟩ : ∃ w, v.setCell ⟨W.heap.size, 35, none⟩ (.slice A o.names.n d) = w := ⟨_, rfl⟩
      have hs5 : w5.heap.size = v.heap.size := by rw [← hw5]; simp [World.setCell]
      have HF5 : Hid (Fr (W.heap.size + 2) v w5) := hide (by rw [← hw5]; exact Fr.put (by omega) _ _)
      have HP5 : Hid (Obl w5 W.heap.size 61 (oc { oA with q0 := S0, q1 := S1, names := ⟨A, o.names.n, d⟩ })) := hide (by have := OV.put 35 (.slice A o.names.n d); rw [oc_names, hw5] at this; exact this)
      have HQ5 : Hid (Obl w5 (W.heap.size + 1) 61 (oc Ob.zero)) := hide (by rw [← hw5]; exact ZV.put_other (b' := W.heap.size) (by omega) 35 _)
      have HB5 : Hid (Below W.heap.size W w5) := hide (by rw [← hw5]; exact (HB.out.trans (hb.mono HB.out.size)).setCell (p := ⟨W.heap.size, 35, none⟩) (by simp only; omega) _)
      have HS6 := hide (HS.out.and (HUn.out.and HVn.out))
      have HFR : Hid (Fr (W.heap.size + 2) wo w5) := hide ((Fr.below hb).trans HF5.out)
      have hvs : v.heap.size ≤ w5.heap.size := by omega
      have HN5 : Hid (NmAt w5 wo.heap.size v.heap.size A o.names.n d l X.names 0 l) := hide ⟨HE.out.nms.1, (Stays.own hown (Nat.le_refl _)) w5 (by rw [← hw5]; exact Fr.put (by omega) _ _), fun u _ j h1 h2 h3 => by omega, fun j h1 h2 _ => rfl, fun j h1 h2 => ⟨(HE.out.2.2 j h1 h2).1, (HE.out.2.2 j h1 h2).2.1⟩⟩
      have HGA : Hid (0 < o.names.n → ∃ g, A = some ⟨g, 0, none⟩ ∧ wo.heap.size ≤ g ∧ g < v.heap.size) := hide (fun h0 => own_addr hown h0)
      have HC5 : Hid (o.names.n ≤ d) := hide (own_cap hown)
      have k5 : w5.cell? ⟨W.heap.size, 35, none⟩ = some (.slice A o.names.n d) := HP5.out.cell 35
      have hn6 : (o.names.n : Int) ≤ 1000000 := by have := HEN.out; omega
      clear hown hb OV ZV HP HQ HB HS HUn HVn HF5
      go_wp2_with fail
      generalize hN : o.names.n = N at *
      have HNN := hide hN
      clear hN
      go_loopw [42] (fun s42 wr => ∃ (k : Nat) (L : List Nm), s42 = .int .i64 (k : Int) ∧ k ≤ N ∧ Hid (NmAt wr wo.heap.size v.heap.size A N d l X.names k L) ∧ Hid (Obl wr W.heap.size 61 (oc { oA with q0 := S0, q1 := S1, names := ⟨A, N, d⟩ })) ∧ Hid (Obl wr (W.heap.size + 1) 61 (oc Ob.zero)) ∧ Hid (Below W.heap.size W wr) ∧ Hid (Fr (W.heap.size + 2) wo wr) ∧ Hid (v.heap.size ≤ wr.heap.size)) (fun s42 _ => N - (intOf s42).toNat)
      case atStart => exact ⟨0, l, rfl, by omega, HN5, HP5, HQ5, HB5, HFR, hide hvs⟩
      case round =>
        obtain ⟨k, L, rfl, hk, HN, HP, HQ, HB, HF, HV⟩ := hrel
        have hvq := HV.out
        have hlq : W.heap.size + 2 ≤ wr.heap.size := by have := HQ.out.lt; omega
        by_cases hlt : k < N
        · have hlt' : (k : Int) < (N : Int) := by omega
          have hNd : (N : Int) ≤ (d : Int) := by have := HC5.out; omega
          obtain ⟨g, rfl, hg1, hg2⟩ := HGA.out (by omega)
          have hkL : k < L.length := by rw [HN.out.len]; exact hlt
          have hkE : k < X.names.length := by have := HE.out.len; omega
          have hkl : k < l.length := by have := HE.out.nms.1; omega
          obtain ⟨a0, a1, a2⟩ := nmv_at hkL
          have e0 := own_cell HN.out.row a0
          have e1 := own_cell HN.out.row a1
          have e2 := own_cell HN.out.row a2
          have hI := (HE.out.2.2 k hkl hkE).2.2
          rw [← HN.out.old k hkL hkl (Nat.le_refl _)] at hI
          have hin := hI.1
          have hsh : (X.names[k]).ids.length ≤ 100000 := HX.out.2.2.2.2.2.2.2.2.2.2.2 _ (List.getElem_mem hkE)
          obtain ⟨I, hIe⟩ : ∃ I, (X.names[k]).ids = I := ⟨_, rfl⟩
          have HIE : Hid (∀ h' : k < X.names.length, (X.names[k]'h').ids = I) := hide (fun _ => hIe)
          rw [hIe] at hI hin hsh
          obtain ⟨x, hx⟩ : ∃ x, L[k] = x := ⟨_, rfl⟩
          have HXL : Hid (∀ h' : k < L.length, L[k]'h' = x) := hide (fun _ => hx)
          rw [hx] at e0 e1 e2 hI hin
          have HI := hide hI
          have HKL := hide hkL
          have hxn : x.ids.n ≤ 1000000 := by omega
          obtain ⟨w7, hw7, gx, hgx, w8, hw8, OZ, ON, hb8, hs8⟩ := start_nm wr x
          have HN8 := hide (HN.out.carry (hb8.mono (by omega)))
          have HP8 := HP.out.below hb8 (by omega)
          have HQ8 := hide (HQ.out.below hb8 (by omega))
          have HB8 := hide (HB.out.trans (hb8.mono (by omega)))
          have HF8 := hide (HF.out.trans (Fr.below (hb8.mono (by omega))))
          clear a0 a1 a2 hI hin hsh hIe hx hb8 HN HP HQ HB HF HV hkL hkE hkl HGA
          go_wp2_with (first | (refine wpList_val (by rfl) (exec_load_nmid rfl rfl e0 e1 e2) ?_) | (refine store_nm rfl _ _ rfl rfl (c := x) rfl OZ rfl ?_; rw [hw8]) | fail)
          clear e0 e1 e2 OZ hw7 hw8
          have hg8 : g < w8.heap.size := by omega
          refine region_D (by kernel_rfl) w8.heap.size g [8] ?_
          obtain ⟨u, hu, OU, NU, HNu, HQu, HBu, HFu, hus⟩ : ∃ u, w8.drew = u ∧ Obl u W.heap.size 61 (oc { oA with q0 := S0, q1 := S1, names := ⟨some ⟨g, 0, none⟩, N, d⟩ }) ∧ Obl u gx 84 (nc x) ∧ Hid (NmAt u wo.heap.size v.heap.size (some ⟨g, 0, none⟩) N d l X.names k L) ∧ Hid (Obl u (W.heap.size + 1) 61 (oc Ob.zero)) ∧ Hid (Below W.heap.size W u) ∧ Hid (Fr (W.heap.size + 2) wo u) ∧ u.heap.size = w8.heap.size :=
            ⟨_, rfl, HP8, ON, hide (HN8.out.carry ⟨rfl, rfl, rfl, Nat.le_refl _, fun _ _ => rfl⟩), HQ8, hide (HB8.out.trans ⟨rfl, rfl, rfl, Nat.le_refl _, fun _ _ => rfl⟩), hide (HF8.out.trans ⟨Nat.le_refl _, fun _ _ _ => rfl⟩), rfl⟩
          rw [hu]
          clear hu HP8 ON HN8 HQ8 HB8 HF8
          refine takeDX 0 rfl (by kernel_rfl) (fun _ _ _ h => h) (by rfl) (by intro w'; go_simp; try with_reducible rfl) ?_
          refine takeD 1 [1, 6, 7, 8] rfl (by kernel_rfl) (fun _ _ _ h => h) (by rfl) (by intro w' hg; have g1 : w'.cell? ⟨W.heap.size, 35, none⟩ = some (.slice (some ⟨g, 0, none⟩) N d) := (hg.obl OU (by omega) (by omega)).cell 35; go_simp; try with_reducible rfl) ?_
          refine takeDX 2 rfl (by kernel_rfl) (fun _ _ _ h => h) (by rfl) (by intro w'; go_simp; try with_reducible rfl) ?_
          refine takeDX 3 rfl (by kernel_rfl) (fun _ _ _ h => h) (by rfl) (by intro w'; go_simp; try with_reducible rfl) ?_
          refine takeD 4 [4, 5, 6, 7, 8] rfl (by kernel_rfl) (fun _ _ _ h => h) (by rfl) (by intro w' hg; have g1 : w'.cell? ⟨gx, 2, none⟩ = some (.slice x.ids.A x.ids.n x.ids.c) := (hg.obl NU (by omega) (by omega)).cell 2; go_simp; try with_reducible rfl) ?_
          refine onlyD 5 rfl (by kernel_rfl) (by rfl) ?_
          intro K hK
          go_simp
          refine (cloneU64_any _ (nv_one _ _) _ _ _ W.heap.size _ (HI.out.2.below HBu.out) HBu.out.size hxn).mono ?_
          rintro e v2 ⟨A2, d2, rfl, hown2, hb2⟩
          have HN9 := hide (HNu.out.carry hb2)
          have HP9 := hide (OU.below hb2 OU.lt)
          have HQ9 := hide (HQu.out.below hb2 HQu.out.lt)
          have HB9 := hide (HBu.out.trans (hb2.mono HBu.out.size))
          have HF9 := hide (HFu.out.trans (Fr.below hb2))
          have HO9 := hide (Stays.own (lo := v.heap.size) hown2 (by omega))
          have hv2 : u.heap.size ≤ v2.heap.size := hb2.size
          have kq : v2.cell? ⟨g, k * 3 + 2, none⟩ = some (.slice x.ids.A x.ids.n x.ids.c) := by have h3 := own_cell HN9.out.row (nmv_at HKL.out).2.2; rw [HXL.out HKL.out] at h3; exact h3
          have zq : v2.frozen? ⟨g, k * 3 + 2, none⟩ = false := own_free HN9.out.row _
          refine hK _ _ (fun _ => Bel.of (hb2.mono (by omega))) ?_
          clear hK K hb2 hown2 OU NU HNu HQu HBu HFu
          refine takeDX 6 rfl (by kernel_rfl) (fun _ _ _ h => h) (by rfl) (by intro w'; go_simp; try with_reducible rfl) ?_
          refine takeDX 7 rfl (by kernel_rfl) (fun _ _ _ h => h) (by rfl) (by intro w'; go_simp; try with_reducible rfl) ?_
          refine onlyD 8 rfl (by kernel_rfl) (by rfl) ?_
          intro K hK
          go_simp
          refine hK _ _ (fun h => absurd h (by decide)) ?_
          clear hK K
          have HN10 : Hid (NmAt (v2.setCell ⟨g, k * 3 + 2, none⟩ (.slice A2 x.ids.n d2)) wo.heap.size v.heap.size (some ⟨g, 0, none⟩) N d l X.names (k + 1) (L.set k ⟨(L[k]'HKL.out).path, (L[k]'HKL.out).kind, ⟨A2, x.ids.n, d2⟩⟩)) := hide (HN9.out.step (s := ⟨A2, x.ids.n, d2⟩) HKL.out hg2 (fun h' => HO9.out.imp (fun u h => by rw [HIE.out h']; exact Nums.of_own h)))
          have HP10 := hide (HP9.out.put_other (b' := g) (by omega) (k * 3 + 2) (.slice A2 x.ids.n d2))
          have HQ10 := hide (HQ9.out.put_other (b' := g) (by omega) (k * 3 + 2) (.slice A2 x.ids.n d2))
          have HB10 := hide (HB9.out.setCell (p := ⟨g, k * 3 + 2, none⟩) (by simp only; omega) (.slice A2 x.ids.n d2))
          have HF10 := hide (HF9.out.set_above hg1 (k * 3 + 2) (.slice A2 x.ids.n d2))
          have HV10 : Hid (v.heap.size ≤ (v2.setCell ⟨g, k * 3 + 2, none⟩ (.slice A2 x.ids.n d2)).heap.size) := hide (by simp [World.setCell]; omega)
          generalize v2.setCell ⟨g, k * 3 + 2, none⟩ (.slice A2 x.ids.n d2) = w10 at *
          refine doneD (by kernel_rfl) ?_
          go_simp
          go_wp2
          go_roundw
          case rel => exact ⟨k + 1, _, by go_num, by omega, HN10, HP10, HQ10, HB10, HF10, HV10⟩
          case measure => simp [intOf]; omega
        · obtain rfl : k = N := by omega
          have HPq := HP.out
          have HQq := HQ.out
          go_wp2_with (first | (refine load_ob rfl _ rfl rfl HPq ?_) | (refine store_ob rfl _ _ rfl rfl (c := { oA with q0 := S0, q1 := S1, names := ⟨A, k, d⟩ }) rfl HQq rfl ?_) | fail)
          refine bodyPost_ret (ret_ob rfl _ rfl (HQq.row_same _)) rfl ?_
          refine ⟨{ c with words := ⟨Awords, o.words.n, cwords⟩, data := ⟨Adata, o.data.n, cdata⟩, backlog := ⟨Abacklog, o.backlog.n, cbacklog⟩, q0 := S0, q1 := S1, names := ⟨A, k, d⟩ }, by rw [← HREL.out], ?_, below_row HB.out (by omega) _⟩
          intro w2 h1 h2
          have hF : Fr (W.heap.size + 2) wr w2 := (Fr.row (by omega) _).trans ⟨h1, fun i i1 i2 => h2 i (by omega) i2⟩
          have hS := (HS6.out.next HF.out) w2 hF
          have hP := HPS.out _ hS.1
          have hrow := (Stays.own (lo := W.heap.size + 2) HN.out.row hlr) w2 hF
          have hids := HN.out.ids w2 ⟨hF.1, fun i i1 i2 => hF.2 i (by omega) i2⟩
          have hE := HE.out.len
          have hlen := HN.out.len
          have hnn := HNN.out
          have hlast : ∀ j (h1 : j < L.length) (h2 : j < X.names.length), Nums .u64 w2 w2.heap.size L[j].ids.A L[j].ids.n X.names[j].ids := fun j h1 h2 => hids j h1 h2 (by omega)
          refine ⟨Nums.of_own hP.1.1.1.children, Inss.of_own hP.1.1.1.code, Strs.of_own hP.1.1.1.strs, Refs.of_own hP.1.1.1.pages, Slots.of_own hP.1.1.1.table, Nums.of_own hP.1.1.2, Bytes.of_own hP.1.2, Nums.of_own hP.2, Bytes.of_own hS.2.1, Bytes.of_own hS.2.2, L, ⟨hlen, Row.of_own hrow, fun y hy => ?_⟩, by show X.names.length = k; omega, fun j h1 h2 => ⟨(HN.out.same j h1 h2).1, (HN.out.same j h1 h2).2, hlast j h1 h2⟩⟩
          obtain ⟨j, hj, rfl⟩ := List.getElem_of_mem hy
          exact ⟨_, hlast j hj (by omega)⟩
end Go.Proofs.Ytbbibbniphmgbaa
