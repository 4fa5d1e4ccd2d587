/- Layer 9 (NamesOrder): the walk. DRAFT: goes up to the first loop's end. -/
import Derived.Test.YtejhnfeligifgaaDoorNamesOrder
import Derived.Test.YtejhnfeligifgaaDoorNxCard
namespace Go.Proofs.YtejhnfeligifgaaDoor
open Go.RowKit Go.Maps Go.WideMaps

def keyO (k : Nat) : Lit := .string (entO k).path
theorem keyO_inj {i j : Nat} (hi : i < 8) (hj : j < 8) (h : keyO i = keyO j) : i = j := by
  refine Classical.byContradiction fun hne => entO_ne hi hj hne ?_
  unfold keyO at h
  injection h
/-- The keys that have been added: the values of the map. -/
def valsO (L : List Nat) : List (Lit × Value) := (L.reverse).map fun k => (keyO k, .bool true)
theorem valsO_snoc (L : List Nat) (k : Nat) : valsO (L ++ [k]) = (keyO k, .bool true) :: valsO L := by unfold valsO; simp
theorem look_vals {L : List Nat} {k : Nat} (h8 : ∀ j ∈ L, j < 8) (hk : k < 8) : look (valsO L) (keyO k) = if k ∈ L then some (.bool true) else none := by
  induction L using snocRec with
  | nil => rfl
  | snoc L j ih =>
    rw [valsO_snoc]
    by_cases hj : k = j
    · subst hj
      rw [look_same (by trivial), if_pos (by simp)]
    · rw [look_other (fun e => hj (keyO_inj hk (h8 j (by simp)) e)), ih (fun i hi => h8 i (by simp [hi]))]
      simp [hj]
/-- The first loop's book: the order so far, and the map in block m, made after U. -/
structure OrderAt (U w : World) (m : Nat) (A : Option Addr) (n c : Nat) (L : List Nat) : Prop where
  map : MapIs Tryd.prog 9 w m n (valsO L)
  row : w.ownsRow (m + 1) 3 1 (.slice A n c) n (nv .i64 (L.map fun k : Nat => (k : Int)))
  small : ∀ j ∈ L, j < 8
  once : L.Nodup
  bel : Below m U w
/-- .. while a number is added: the map has it already. -/
structure HalfAt (U w : World) (m : Nat) (A : Option Addr) (n c : Nat) (L : List Nat) (k : Nat) : Prop where
  map : MapIs Tryd.prog 9 w m (n + 1) (valsO (L ++ [k]))
  row : w.ownsRow (m + 1) 3 1 (.slice A n c) n (nv .i64 (L.map fun k : Nat => (k : Int)))
  small : ∀ j ∈ L ++ [k], j < 8
  once : (L ++ [k]).Nodup
  bel : Below m U w
section
variable {U w w' : World} {m n c : Nat} {A : Option Addr} {L : List Nat} {k : Nat}
theorem OrderAt.put (h : OrderAt U w m A n c L) (hm : MapIs Tryd.prog 9 w' m (n + 1) ((keyO k, .bool true) :: valsO L)) (ht : w.mapTurned w' m) (hk : k < 8) (hn : k ∉ L) : HalfAt U w' m A n c L k := by
  refine ⟨by rw [valsO_snoc]; exact hm, own_keep h.row (fun g hg hgl => ht.grown.block g hgl (by intro e; injection e with e; omega)), fun j hj => ?_, ?_, below_turned h.bel ht (Nat.le_refl _)⟩
  · rcases List.mem_append.1 hj with hj | hj
    · exact h.small j hj
    · simp only [List.mem_singleton] at hj
      omega
  · refine List.nodup_append.2 ⟨h.once, by simp, fun a ha b hb e => ?_⟩
    simp only [List.mem_singleton] at hb
    exact hn (hb ▸ e ▸ ha)
theorem HalfAt.more (h : HalfAt U w m A n c L k) {o : Obj} {A' : Option Addr} {c' : Nat} (hown : w'.ownsRow (m + 1) 3 1 (.slice A' (n + 1) c') (n + 1) (nv .i64 ((L.map fun k : Nat => (k : Int)) ++ [(k : Int)]))) (hg : (w.alloc o).grownBy w' (blk A)) : OrderAt U w' m A' (n + 1) c' (L ++ [k]) := by
  have hs : m + 1 ≤ w.heap.size := h.map.lt
  have hb := below_own (((Below.refl _ w).mono hs).alloc hs o) (h.row.alloc o) hg (by simp; omega)
  exact ⟨h.map.below hb (by omega), by simpa using hown, h.small, h.once, h.bel.trans (hb.mono (by omega))⟩
end
theorem nodup_few (k : Nat) : ∀ {L : List Nat}, (∀ j ∈ L, j < k) → L.Nodup → L.length ≤ k := by
  induction k with
  | zero =>
    intro L h _
    cases L with
    | nil => exact Nat.le_refl _
    | cons a L => exact absurd (h a (by simp)) (by omega)
  | succ k ih =>
    intro L h hn
    by_cases hk : k ∈ L
    · have h1 := ih (L := L.erase k) (fun j hj => by have := (hn.mem_erase_iff).1 hj; have := h j this.2; omega) (hn.erase k)
      rw [List.length_erase_of_mem hk] at h1
      omega
    · have := ih (L := L) (fun j hj => by have := h j hj; have : j ≠ k := fun e => hk (e ▸ hj); omega) hn
      omega
theorem nodup_eight {L : List Nat} (h8 : ∀ j ∈ L, j < 8) (hn : L.Nodup) : L.length ≤ 8 := nodup_few 8 h8 hn
theorem path8_len {k : Nat} (hk : k < 8) : (entO k).path.toArray.size ≤ 1000 := by
  have : ∀ k : Fin 8, (entO k.1).path.toArray.size ≤ 1000 := by decide
  exact this ⟨k, hk⟩
theorem zeroBool (w : World) : (zeroValue 4).run Tryd.prog w = .ok (.bool false) w := by kernel_rfl
theorem intTy : ElemTy Tryd.prog 69 3 1 8 := by
  obtain ⟨i0, hi, hz0, hz1, hz2⟩ := info_parts (show (Tryd.prog.info? 3).map (fun i => (i.zero, i.size, i.bytes)) = some (some (.int .i64 0), 1, 8) by kernel_rfl)
  exact ⟨i0, _, Tryd.underlying69, hi, hz0, hz1, hz2, rfl, by omega⟩
/-- A name space of these entries in block m. -/
def DirE (w : World) (m base : Nat) (E : List Nx.Ent) : Prop := ∃ A n c l, Obl w m 41 (oc (Ob.dir ⟨A, n, c⟩)) ∧ NmOutE w base A n c l E
theorem NmOutE.nil {w : World} {base : Nat} (h : base ≤ w.heap.size) : NmOutE w base none 0 0 [] [] := ⟨⟨own_nil, by simp⟩, by intro y hy; simp at hy, h, rfl, fun k h => by simp at h⟩
/-- One more of the entries added. -/
theorem addO {W : World} {base n c : Nat} {A : Option Addr} {l : List Nm} {L : List Nat} {k : Nat} (hE : NmOutE W base A n c l (adds L)) (HM : Mx W) (h8 : ∀ j ∈ L, j < 8) (hn : L.Nodup) (hk : k < 8) (hkL : k ∉ L) (y : Nm) (hp : y.path = (entO k).path) (hki : y.kind = 3) (hI : Nums .u64 W W.heap.size y.ids.A y.ids.n [10 + (k : Int)]) :
    Calls Tryd.prog 21 #[.agg (oc (Ob.dir ⟨A, n, c⟩)), .agg (nc y)] W (DirIs 0 (adds (L ++ [k])) W) := by
  have hL8 := nodup_eight h8 hn
  have hnn : n = L.length := by have := hE.has.1; have := own_nmv hE.own.1; rw [adds_length] at *; omega
  have hx := entO_ok hk
  have e : (⟨y.path, y.kind, [10 + (k : Int)]⟩ : Nx.Ent) = entO k := by rw [hp, hki]; rfl
  have := nxAdd_any (Ob.dir ⟨A, n, c⟩) y l (adds L) [10 + (k : Int)] W hE.ents hE.short HM ⟨by rw [hp]; have := hx.2.2.1.2; omega, by have := hI.len; simp at this; omega⟩ hI
  rw [e, dir_addErr (show n ≤ 256 by omega) (adds_space h8 hn) hx (adds_none h8 hk hkL) (show n < 256 by omega), ← adds_snoc] at this
  exact this
/-- The second loop's book: both name spaces. -/
structure TwoAt (U w : World) (m gp : Nat) (A : Option Addr) (c : Nat) (L : List Nat) (i : Nat) : Prop where
  paths : Obl w gp 9 (sv paths8).toArray
  order : w.ownsRow (m + 1 + 1 + 1) 3 1 (.slice A L.length c) L.length (nv .i64 (L.map fun k : Nat => (k : Int)))
  up : DirE w m (m + 1 + 1) (adds (L.take i))
  down : DirE w (m + 1) (m + 1 + 1) (adds (L.reverse.take i))
  bel : Below m U w
theorem wp_store_dir {o : Oper} {a : Act} {w : World} {Q : Exit → Act → World → Prop} {K : Act → World → Prop} {x y : Operand} (ho : o.op = .store 41 x y) {g : Nat} (hx : a.eval x = .pointer (some ⟨g, 0, none⟩)) {c : Ob} (hy : a.eval y = .agg (oc c)) {old : Array Value} {t : TypeId} (h : Obl w g t old) (hold : old.size = 36)
    (hK : K (a.put o.dst undef) (w.setRow g (oc c))) : o.wp Tryd.prog a w K Q := wp_store_row _ x y ho g (oc c) hx hy t old h obSize hold (oc_one c) hK
theorem TwoAt.drews {U w : World} {m gp c i : Nat} {A : Option Addr} {L : List Nat} (h : TwoAt U w m gp A c L i) (q : Nat) : TwoAt U (w.drewN q) m gp A c L i := by
  obtain ⟨p, o, ⟨uA, un, uc, ul, uO, uE⟩, ⟨dA, dn, dc, dl, dO, dE⟩, b⟩ := h
  exact ⟨p, o, ⟨uA, un, uc, ul, uO, uE.keep (fun _ _ _ => rfl) (Nat.le_refl _)⟩, ⟨dA, dn, dc, dl, dO, dE.keep (fun _ _ _ => rfl) (Nat.le_refl _)⟩, ⟨b.os, b.tape, b.output, b.size, b.block⟩⟩
theorem bel_row_self {B b : Nat} {w : World} (cells : Array Value) : Bel B b w (w.setRow b cells) :=
  ⟨rfl, rfl, rfl, by simp [World.setRow], fun k _ hne => setRow_other w b cells hne⟩
/-- Both stores of a round. -/
theorem TwoAt.next {U wr u : World} {m gp c i n1 c1 n2 c2 : Nat} {A A1 A2 : Option Addr} {L : List Nat} {l1 l2 : List Nm} (h : TwoAt U wr m gp A c L i) (hw : m + 1 + 1 ≤ wr.heap.size) (hb : Below wr.heap.size wr u)
    (h1 : NmOutE u wr.heap.size A1 n1 c1 l1 (adds (L.take (i + 1)))) (h2 : NmOutE u wr.heap.size A2 n2 c2 l2 (adds (L.reverse.take (i + 1)))) :
    TwoAt U ((u.setRow m (oc (Ob.dir ⟨A1, n1, c1⟩))).setRow (m + 1) (oc (Ob.dir ⟨A2, n2, c2⟩))) m gp A c L (i + 1) := by
  obtain ⟨p, o, ⟨uA, un, uc, ul, uO, uE⟩, ⟨dA, dn, dc, dl, dO, dE⟩, b⟩ := h
  have hgm : ∀ (k : Nat) (cs : Array Value), Obl wr k 41 cs → gp ≠ k := fun k cs hO e => by
    subst e
    have h9 := Option.some.inj (p.symm.trans hO)
    injection h9 with _ h
    exact absurd h (by decide)
  have hm0 := uO.lt
  have uO' := (uO.below hb uO.lt).row_same (oc (Ob.dir ⟨A1, n1, c1⟩))
  have dO' := (dO.below hb dO.lt).row_other (g := m) (by omega) (oc (Ob.dir ⟨A1, n1, c1⟩))
  refine ⟨((p.below hb p.lt).row_other (hgm _ _ uO) _).row_other (hgm _ _ dO) _, ?_, ⟨A1, n1, c1, l1, uO'.row_other (by omega) _, ?_⟩, ⟨A2, n2, c2, l2, dO'.row_same _, ?_⟩, ?_⟩
  · exact own_keep (own_keep (own_below o hb) (keep_row (by omega) _)) (keep_row (by omega) _)
  · exact ((h1.keep (keep_row (by omega) _) (by simp [World.setRow])).keep (keep_row (by omega) _) (by simp [World.setRow])).weaken hw
  · exact ((h2.keep (keep_row (by omega) _) (by simp [World.setRow])).keep (keep_row (by omega) _) (by simp [World.setRow])).weaken hw
  · exact below_row (below_row (b.trans (hb.mono (by omega))) (Nat.le_refl _) _) (by omega) _
/-- The third loop's book: the name space in block g, made after U. -/
structure ManyAt (U w : World) (g i : Nat) (A : Option Addr) (c : Nat) (l : List Nm) : Prop where
  obl : Obl w g 41 (oc (Ob.dir ⟨A, i, c⟩))
  nms : NmOutE w (g + 1) A i c l (manyE i)
  bel : Below U.heap.size U w
theorem TwoAt.later {U w w' : World} {m gp c i : Nat} {A : Option Addr} {L : List Nat} (h : TwoAt U w m gp A c L i) (hb : Below w.heap.size w w') : TwoAt U w' m gp A c L i := by
  obtain ⟨p, o, ⟨uA, un, uc, ul, uO, uE⟩, ⟨dA, dn, dc, dl, dO, dE⟩, b⟩ := h
  have := uO.lt
  exact ⟨p.below hb p.lt, own_below o hb, ⟨uA, un, uc, ul, uO.below hb uO.lt, uE.later hb⟩, ⟨dA, dn, dc, dl, dO.below hb dO.lt, dE.later hb⟩, b.trans (hb.mono (by omega))⟩
set_option maxRecDepth 100000 in
set_option maxHeartbeats 16000000 in
theorem namesOrder_any (S : Option Addr) (q r : Nat) (bs : List UInt8) (nn : Int) (W : World) (h : Bytes W W.heap.size S q bs) (hn : 0 ≤ nn ∧ nn < 65536) (HM0 : Mx W) :
    Calls Tryd.prog 6 #[.slice S q r, .int .u16 nn] W (BoolPost true W) := by
  have HS := hide h
  have HM := hide HM0
  clear h HM0
  go_enter Tryd.func6, Tryd.ntmps6
  go_wp2_with fail
  refine (nxSane_any _ HM.out).mono ?_
  rintro e w1 ⟨rfl, hb1⟩
  obtain ⟨w2, hw2⟩ : ∃ w2, w1.alloc (.cells #[.string ⟨#[47, 97]⟩, .string ⟨#[47, 98]⟩, .string ⟨#[47, 97, 47, 98]⟩, .string ⟨#[47, 97, 45, 98]⟩, .string ⟨#[47, 48]⟩, .string ⟨#[47, 122, 122]⟩, .string ⟨#[47, 122]⟩, .string ⟨#[47, 97, 47, 98, 47, 99]⟩] 9) = w2 := ⟨_, rfl⟩
  have OP : Obl w2 w1.heap.size 9 (sv paths8).toArray := hw2 ▸ Obl.make w1 _ _
  have hb2 : Below w1.heap.size w1 w2 := hw2 ▸ (Below.refl _ _).alloc (Nat.le_refl _) _
  have HB2 := hide (hb1.trans (hb2.mono hb1.size))
  clear hb1 hb2
  go_upto_region 4 with fail
  clear hw2
  generalize w1.heap.size = gp at *
  go_wp2_with fail
  refine (nxNew_any _).mono ?_
  rintro e w3 ⟨rfl, hb3⟩
  replace OP := OP.below hb3 OP.lt
  replace HB2 := hide (HB2.out.trans (hb3.mono HB2.out.size))
  clear hb3
  go_wp2_with fail
  refine (nxNew_any _).mono ?_
  rintro e w4 ⟨rfl, hb4⟩
  replace OP := OP.below hb4 OP.lt
  replace HB2 := hide (HB2.out.trans (hb4.mono HB2.out.size))
  clear hb4
  obtain ⟨w5, hw5, O5, hb5, hs5⟩ := start_z w4
  obtain ⟨w6, hw6, O6, hb6, hs6⟩ := start_z w5
  obtain ⟨m, hm⟩ : ∃ m, w4.heap.size = m := ⟨_, rfl⟩
  have hm5 : w5.heap.size = m + 1 := by omega
  rw [hm] at O5
  rw [hm5] at O6
  replace O5 := O5.below hb6 O5.lt
  obtain ⟨w7, hw7⟩ : ∃ w7, w6.setRow m (oc (Ob.dir ⟨none, 0, 0⟩)) = w7 := ⟨_, rfl⟩
  obtain ⟨w8, hw8⟩ : ∃ w8, w7.setRow (m + 1) (oc (Ob.dir ⟨none, 0, 0⟩)) = w8 := ⟨_, rfl⟩
  have O7 : Obl w7 m 41 (oc (Ob.dir ⟨none, 0, 0⟩)) := hw7 ▸ O5.row_same _
  have Q7 : Obl w7 (m + 1) 41 (oc Ob.zero) := hw7 ▸ O6.row_other (by omega) _
  have O8 : Obl w8 m 41 (oc (Ob.dir ⟨none, 0, 0⟩)) := hw8 ▸ O7.row_other (by omega) _
  have Q8 : Obl w8 (m + 1) 41 (oc (Ob.dir ⟨none, 0, 0⟩)) := hw8 ▸ Q7.row_same _
  go_upto_region 5 with (first | (refine store_ob rfl _ _ rfl rfl (c := Ob.dir ⟨none, 0, 0⟩) rfl O5 rfl ?_; rw [hw7]) | (refine store_ob rfl _ _ rfl rfl (c := Ob.dir ⟨none, 0, 0⟩) rfl Q7 rfl ?_; rw [hw8]) | fail)
  have HB8 := hide (HB2.out.trans (show Below W.heap.size w4 w8 from hw8 ▸ below_row (hw7 ▸ below_row ((hb5.trans (hb6.mono (by omega))).mono HB2.out.size) (by have := HB2.out.size; omega) _) (by have := HB2.out.size; omega) _))
  have hs8 : w8.heap.size = m + 1 + 1 := by rw [← hw8, ← hw7]; simpa [World.setRow] using (by omega : w6.heap.size = m + 1 + 1)
  replace OP : Obl w8 gp 9 (sv paths8).toArray := hw8 ▸ hw7 ▸ ((((OP.below hb5 OP.lt).below hb6 (by have := OP.lt; omega)).row_other (by have := OP.lt; omega) _).row_other (by have := OP.lt; omega) _)
  have hgp := OP.lt
  have HWm := hide (show W.heap.size ≤ m from by have := HB2.out.size; omega)
  clear hb5 hb6 HB2 O5 O6 O7 Q7 hw5 hw6 hw7 hw8 hm5 hs5 hs6
  have hM : MapIs Tryd.prog 9 (w8.alloc (.map #[] 0)) (m + 1 + 1) 0 [] := by rw [← hs8]; exact MapIs.made w8
  have HO : Hid (OrderAt w8 (w8.alloc (.map #[] 0)) (m + 1 + 1) none 0 0 []) := hide ⟨hM, own_none, by simp, List.Pairwise.nil, (Below.refl _ _).alloc (by omega) _⟩
  clear hM
  obtain ⟨wM, hwM⟩ : ∃ wM, w8.alloc (.map #[] 0) = wM := ⟨_, rfl⟩
  rw [hwM] at HO
  have hmm := @run_makeMap Tryd.prog
  go_upto_block 0 with fail
  clear hmm hwM
  go_cut [9] from 32 to 63 (fun s9 wx => ∃ (n c : Nat) (A : Option Addr) (L : List Nat), s9 = .slice A n c ∧ Hid (OrderAt w8 wx (m + 1 + 1) A n c L))
  case first =>
    go_wp2_with fail
    go_loopw [9, 10] (fun s9 s10 wr => ∃ (i n c : Nat) (A : Option Addr) (L : List Nat), s9 = .slice A n c ∧ s10 = .int .i64 (i : Int) ∧ i ≤ 20 ∧ i ≤ q ∧ Hid (OrderAt w8 wr (m + 1 + 1) A n c L)) (fun _ s10 _ => 20 - (intOf s10).toNat)
    case atStart => exact ⟨0, 0, 0, none, [], rfl, rfl, by omega, by omega, HO⟩
    case round =>
      clear HO
      obtain ⟨i, n, c, A, L, rfl, rfl, hi, hiq, HO⟩ := hrel
      have hnL : n = L.length := by have := HO.out.row.1; simpa [nv] using this.symm
      subst hnL
      have hL8 := nodup_eight HO.out.small HO.out.once
      by_cases hlt : i < q ∧ i < 20
      · obtain ⟨g1, g2⟩ := hlt
        have g1' : (i : Int) < (q : Int) := by omega
        have g2' : (i : Int) < 20 := by omega
        have hWm := HB8.out.size
        obtain ⟨b1, o1, hl1, rfl, hbb1, hc1⟩ := HS.out.at_ g1
        have hc : wr.cell? ⟨b1, o1 + i, none⟩ = some (.int .u8 (bs[i].toNat : Int)) := (HO.out.bel.cell (p := ⟨b1, o1 + i, none⟩) (by show b1 < m + 1 + 1; omega)).trans ((HB8.out.cell (p := ⟨b1, o1 + i, none⟩) hbb1).trans hc1)
        have ha : bs[i].toNat < 256 := bs[i].toNat_lt
        generalize bs[i].toNat = a at *
        have hk8 : a % 8 < 8 := Nat.mod_lt _ (by omega)
        have hcp := cell8 (OP.below HO.out.bel (by omega)) hk8
        have hkk : ((a : Int) % 8) = ((a % 8 : Nat) : Int) := by omega
        obtain ⟨k, hk⟩ : ∃ k, a % 8 = k := ⟨_, rfl⟩
        rw [hk] at hk8 hcp hkk
        obtain ⟨ps, hps⟩ : ∃ ps : ByteArray, (⟨(entO k).path.toArray⟩ : ByteArray) = ps := ⟨_, rfl⟩
        rw [hps] at hcp
        have hkey : keyOf Tryd.prog 9 (.string ps) = some (keyO k) := by
          rw [keyOf_string_mk Tryd.underlying9 (by rw [← hps]; exact Nat.le_trans (path8_len hk8) (by unfold maxLen; omega)), ← hps]
          unfold keyO
          simp
        have hlook := look_vals (L := L) HO.out.small hk8
        have hrun : (Instr.lookup 68 (.map (some (m + 1 + 1))) (.string ps) false).run Tryd.prog wr = .ok (.bool (decide (k ∈ L))) wr := by
          rw [HO.out.map.look_one (string_keyed Tryd.underlying9) Tryd.underlying68 (zeroBool _) hkey, hlook]
          by_cases hkL : k ∈ L
          · rw [if_pos hkL, decide_eq_true hkL]; rfl
          · rw [if_neg hkL, decide_eq_false hkL]; rfl
        by_cases hkL : k ∈ L
        · rw [decide_eq_true hkL] at hrun
          go_wp2_with fail
          go_roundw
          case rel => exact ⟨i + 1, _, c, A, L, rfl, by go_num, by omega, by omega, HO⟩
          case measure => simp [intOf]; omega
        · rw [decide_eq_false hkL] at hrun
          go_wp2_with (first | (refine wpList_put_map rfl _ _ _ 68 (.inl rfl) (string_keyed Tryd.underlying9) Tryd.underlying68 HO.out.map (by unfold maxLen; omega) rfl rfl rfl hkey (by trivial) ?_; intro w9 hM9 ht9; have H9 := hide (HO.out.put hM9 ht9 hk8 hkL); clear hM9 ht9 hrun hlook hcp hkey) | (at_builtin; refine wpList_append_rd rfl _ _ _ rfl intTy (base := m + 1 + 1 + 1) rfl (H9.out.row.alloc (.cells #[.int .i64 (k : Int)] 3)) rfl (Row.new w9 (.int .i64 (k : Int)) 3) (by simp [Value.oneCell']) (by unfold maxLen; omega) (by omega) (by have := H9.out.map.lt; simp; omega) ?_; intro A8 c8 w8' hown8 hg8 _; rw [nv_snoc] at hown8; have HN := hide (H9.out.more hown8 hg8); clear hown8 hg8 H9) | fail)
          go_roundw
          case rel => exact ⟨i + 1, _, c8, A8, L ++ [k], rfl, by go_num, by omega, by omega, HN⟩
          case measure => simp [intOf]; omega
      · by_cases g1 : i < q
        · have g1' : (i : Int) < (q : Int) := by omega
          have g2' : ¬ (i : Int) < 20 := by omega
          go_wp2_with fail
          go_meet
          case rel => exact ⟨_, c, A, L, rfl, HO⟩
        · have g1' : ¬ (i : Int) < (q : Int) := by omega
          go_wp2_with fail
          go_meet
          case rel => exact ⟨_, c, A, L, rfl, HO⟩
  case rest =>
    clear HO
    obtain ⟨n, c, A, L, rfl, HO⟩ := hcut
    have hnL : n = L.length := by have := HO.out.row.1; simpa [nv] using this.symm
    subst hnL
    have hL8 := nodup_eight HO.out.small HO.out.once
    have HS8 := hide HO.out.small
    have HON := hide HO.out.once
    have HT : Hid (TwoAt w8 wc m gp A c L 0) := hide ⟨OP.below HO.out.bel (by omega), HO.out.row, ⟨none, 0, 0, [], O8.below HO.out.bel (by omega), NmOutE.nil (by have := HO.out.map.lt; omega)⟩, ⟨none, 0, 0, [], Q8.below HO.out.bel (by omega), NmOutE.nil (by have := HO.out.map.lt; omega)⟩, HO.out.bel.mono (by omega)⟩
    clear HO O8 Q8 OP hgp
    have hWm : W.heap.size ≤ m := HWm.out
    go_upto_block 2 with fail
    go_cut [] from 66 to 117 (fun wx => Hid (TwoAt w8 wx m gp A c L L.length))
    case first =>
      go_wp2_with fail
      go_loopw [66] (fun s66 wr => ∃ i : Nat, s66 = .int .i64 (i : Int) ∧ i ≤ L.length ∧ Hid (TwoAt w8 wr m gp A c L i)) (fun s66 _ => 8 - (intOf s66).toNat)
      case atStart => exact ⟨0, rfl, by omega, HT⟩
      case round =>
        clear HT
        obtain ⟨i, rfl, hi, HT⟩ := hrel
        by_cases hlt : i < L.length
        · have hlt' : (i : Int) < (L.length : Int) := by omega
          obtain ⟨g, rfl, hg, hgl⟩ := own_addr HT.out.order (by omega)
          have hj : L.length - 1 - i < L.length := by omega
          have hc1 : wr.cell? ⟨g, i, none⟩ = some (.int .i64 (L[i] : Int)) := own_cell HT.out.order (by simp [nv, hlt])
          have hc2 : wr.cell? ⟨g, L.length - 1 - i, none⟩ = some (.int .i64 (L[L.length - 1 - i] : Int)) := own_cell HT.out.order (by simp [nv, hj])
          have hsub : ((L.length : Int) - 1 - (i : Int)) = ((L.length - 1 - i : Nat) : Int) := by omega
          have hu : adds (L.take i ++ [L[i]]) = adds (L.take (i + 1)) := by rw [List.take_succ_eq_append_getElem hlt]
          have hd : adds (L.reverse.take i ++ [L[L.length - 1 - i]]) = adds (L.reverse.take (i + 1)) := by rw [List.take_succ_eq_append_getElem (by simpa using hlt), List.getElem_reverse]
          have hk1 := HS8.out _ (List.getElem_mem hlt)
          have hk2 := HS8.out _ (List.getElem_mem hj)
          have hn1 : L[i] ∉ L.take i := fun h => by
            obtain ⟨j, hj, he⟩ := List.getElem_of_mem h
            rw [List.getElem_take] at he
            have hj' : j < i := by simp at hj; omega
            exact List.pairwise_iff_getElem.1 HON.out j i (by omega) hlt hj' he
          have hn2 : L[L.length - 1 - i] ∉ L.reverse.take i := fun h => by
            obtain ⟨j, hj, he⟩ := List.getElem_of_mem h
            rw [List.getElem_take, List.getElem_reverse] at he
            have hj' : j < i := by simp at hj; omega
            exact List.pairwise_iff_getElem.1 HON.out (L.length - 1 - i) (L.length - 1 - j) (by omega) (by omega) (by omega) he.symm
          generalize L[i] = k1 at *
          generalize L[L.length - 1 - i] = k2 at *
          go_upto_region 18 with (go_quiet (fail))
          replace HT : Hid (TwoAt w8 (wr.drewN nq) m gp (some ⟨g, 0, none⟩) c L i) := hide (HT.out.drews nq)
          replace hgl : g < (wr.drewN nq).heap.size := hgl
          clear hc1 hc2
          generalize wr.drewN nq = wr at *
          have hk1' : (k1 : Int) < 8 := by omega
          have hk2' : (k2 : Int) < 8 := by omega
          have hwa : IntKind.i64.wrap (10 + (k1 : Int)) = 10 + (k1 : Int) := by rw [IntKind.wrap_i64]; omega
          have hwb : IntKind.u64.wrap (10 + (k1 : Int)) = 10 + (k1 : Int) := by simp [IntKind.wrap, IntKind.bits, IntKind.signed]; omega
          have hwc : IntKind.i64.wrap (10 + (k2 : Int)) = 10 + (k2 : Int) := by rw [IntKind.wrap_i64]; omega
          have hwd : IntKind.u64.wrap (10 + (k2 : Int)) = 10 + (k2 : Int) := by simp [IntKind.wrap, IntKind.bits, IntKind.signed]; omega
          have hcp1 := cell8 HT.out.paths hk1
          have hgp := HT.out.paths.lt
          obtain ⟨uA, un, uc, ul, uO, uE⟩ := HT.out.up
          have uOl := uO.lt
          have HUE := hide uE
          have HMr := hide (HM.out.below (HB8.out.trans (HT.out.bel.mono hWm)))
          clear uE
          go_cut [15, 16] from 81 to 94 (fun s15 s16 wx => ∃ (g1 n1 c1 : Nat) (A1 : Option Addr) (l1 : List Nm), s15 = .pointer (some ⟨g1, 0, none⟩) ∧ s16 = .int .i64 0 ∧ wr.heap.size ≤ g1 ∧ Hid (Obl wx g1 41 (oc (Ob.dir ⟨A1, n1, c1⟩))) ∧ Hid (NmOutE wx wr.heap.size A1 n1 c1 l1 (adds (L.take (i + 1)))) ∧ Hid (Below wr.heap.size wr wx))
          case first =>
            refine region_B (by kernel_rfl) wr.heap.size ?_
            refine takeB 0 rfl (by kernel_rfl) (fun _ _ _ h => h) (by rfl) (by intro w' hg; exact exec_load_ob rfl rfl ((show Obl wr.drew m 41 _ from uO).below hg uOl); skip) ?_
            refine takeB 1 rfl (by kernel_rfl) (fun _ _ _ h => h) (by rfl) (by intro w' hg; go_simp; try with_reducible rfl) ?_
            refine takeB 2 rfl (by kernel_rfl) (fun _ _ _ h => h) (by rfl) (by intro w' hg; go_simp; try with_reducible rfl) ?_
            refine takeB 3 rfl (by kernel_rfl) (fun _ _ _ h => h) (by rfl) (by intro w' hg; go_simp; try with_reducible rfl) ?_
            refine takeB 4 rfl (by kernel_rfl) (fun _ _ _ h => h) (by rfl) (by intro w' hg; have hcA := (hg.cell (p := ⟨gp, k1, none⟩) (by show gp < wr.heap.size; omega)).trans (show _ = _ from hcp1); go_simp; try with_reducible rfl) ?_
            refine takeB 5 rfl (by kernel_rfl) (fun _ _ _ h => h) (by rfl) (by intro w' hg; go_simp; try with_reducible rfl) ?_
            refine takeB 6 rfl (by kernel_rfl) (fun _ _ _ h => h) (by rfl) (by intro w' hg; go_simp; try with_reducible rfl) ?_
            refine takeB 7 rfl (by kernel_rfl) (fun _ _ _ h => h) (by rfl) (by intro w' hg; go_simp; try with_reducible rfl) ?_
            refine twoB 8 14 rfl rfl (by kernel_rfl) (by rfl) (by rfl) ?_ ?_
            · intro K hK
              go_simp
              obtain ⟨ws, hws⟩ : ∃ ws, (wr.alloc (.cells #[.int .u64 (10 + (k1 : Int))] 22)).drew = ws := ⟨_, rfl⟩
              try rw [hws]
              have hb0 : Below wr.heap.size wr ws := hws ▸ ⟨rfl, rfl, rfl, by simp, fun k hk => Below.heap_alloc wr _ k hk⟩
              have hss : ws.heap.size = wr.heap.size + 1 := by rw [← hws]; exact World.size_alloc _ _
              have HI : Hid (Nums .u64 ws ws.heap.size (some ⟨wr.heap.size, 0, none⟩) 1 [10 + (k1 : Int)]) := hide ⟨rfl, by rw [hss, ← hws]; exact Row.list wr [.int .u64 (10 + (k1 : Int))] 22⟩
              clear hws
              refine hK _ _ ⟨hb0.os, hb0.tape, hb0.output, hb0.size, hb0.block⟩ ?_
              clear hK K
              have HXB := hide hb0
              have hXs : wr.heap.size ≤ ws.heap.size := by omega
              clear hb0 hss
              refine takeB 9 rfl (by kernel_rfl) (fun _ _ _ h => h) (by rfl) (by intro w' hg; go_simp; try with_reducible rfl) ?_
              refine twoB 10 14 rfl rfl (by kernel_rfl) (by rfl) (by rfl) ?_ ?_
              · have HE := hide (HUE.out.later HXB.out)
                have HX := hide (HMr.out.below HXB.out)
                intro K hK
                go_simp
                refine (addO HE.out HX.out (fun j hj => HS8.out j (List.mem_of_mem_take hj)) (HON.out.sublist (List.take_sublist _ _)) hk1 hn1 ⟨(entO k1).path, 3, ⟨some ⟨wr.heap.size, 0, none⟩, 1, 1⟩⟩ rfl rfl HI.out).mono ?_
                rintro e y1 hpost
                obtain ⟨A1, n1, c1, l1, rfl, hM1, hb1⟩ := hpost.ok
                rw [hu] at hM1
                refine hK _ _ (hb1.mono hXs) ?_
                clear hK K hpost
                obtain ⟨y2, hy2, g1, hg1, y3, hy3, OZ, OM, hb8, hs8'⟩ := laid_ob (Ob.dir ⟨A1, n1, c1⟩) y1
                have hgW : wr.heap.size ≤ g1 := by have := hb1.size; omega
                have HF := hide OM
                have HO := hide ((hM1.later hb8).weaken hXs)
                have HB : Hid (Below wr.heap.size wr y3) := hide (HXB.out.trans ((hb1.trans (hb8.mono hb1.size)).mono hXs))
                have HA8 := hide (show Below wr.heap.size y1 y2 from hy2 ▸ (Below.refl _ _).alloc (by have := hb1.size; omega) _)
                have HA9 := hide (show Below wr.heap.size y2 y3 from hy3 ▸ below_row (Below.refl _ _) hgW _)
                clear hb1 hM1 OM hb8 hs8'
                refine takeB 11 rfl (by kernel_rfl) (fun _ _ _ h => h) (by rfl) (by intro w' hg; go_simp; try with_reducible rfl) ?_
                refine takeB 12 rfl (by kernel_rfl) (fun _ _ _ h => h) (by rfl) (by intro w' hg; go_simp; try with_reducible rfl) ?_
                refine takeB 13 rfl (by kernel_rfl) (fun _ _ _ h => h) (by rfl) (by intro w' hg; go_simp; try with_reducible rfl) ?_
                refine onlyB 14 rfl (by kernel_rfl) (by rfl) ?_
                intro K hK
                go_simp
                refine hK _ _ HA8.out ?_
                clear hK K
                go_simp
                refine onlyB 15 rfl (by kernel_rfl) (by rfl) ?_
                intro K hK
                refine wp_store_dir rfl rfl (c := Ob.dir ⟨A1, n1, c1⟩) rfl OZ rfl ?_
                rw [hy3]
                refine hK _ _ HA9.out ?_
                clear hK K
                refine takeB 16 rfl (by kernel_rfl) (fun _ _ _ h => h) (by rfl) (by intro w' hg; go_simp; try with_reducible rfl) ?_
                refine doneB (by kernel_rfl) ?_
                go_simp
                go_wp2_with fail
                go_meet
                case rel => exact ⟨_, n1, c1, A1, l1, rfl, rfl, hgW, HF, HO, HB⟩
              · intro K hK
                go_simp
                generalize hwz : ws.alloc _ = wz
                have hz : (ws.alloc (.cells (oc Ob.zero) 41)) = wz := hwz
                have OZ0 : Obl wz ws.heap.size 41 (oc Ob.zero) := hz ▸ (show Obl (ws.alloc (.cells (oc Ob.zero) 41)) ws.heap.size 41 (oc Ob.zero) from Obl.make ws _ _)
                have hbz : Below ws.heap.size ws wz := hz ▸ ⟨rfl, rfl, rfl, by simp, fun k hk => Below.heap_alloc ws _ k hk⟩
                have hsz : wz.heap.size = ws.heap.size + 1 := by rw [← hz]; exact World.size_alloc ws _
                clear hz hwz
                refine hK _ _ (hbz.mono hXs) ?_
                clear hK K
                replace HXB : Hid (Below wr.heap.size wr wz) := hide (HXB.out.trans (hbz.mono hXs))
                replace HI := hide ((HI.out.below hbz).mono hbz.size)
                have hgW : wr.heap.size ≤ ws.heap.size := hXs
                replace hXs : wr.heap.size ≤ wz.heap.size := by omega
                clear hsz hbz
                generalize ws.heap.size = g1 at *
                refine onlyB 10 rfl (by kernel_rfl) (by rfl) ?_
                have HE := hide (HUE.out.later HXB.out)
                have HX := hide (HMr.out.below HXB.out)
                intro K hK
                go_simp
                refine (addO HE.out HX.out (fun j hj => HS8.out j (List.mem_of_mem_take hj)) (HON.out.sublist (List.take_sublist _ _)) hk1 hn1 ⟨(entO k1).path, 3, ⟨some ⟨wr.heap.size, 0, none⟩, 1, 1⟩⟩ rfl rfl HI.out).mono ?_
                rintro e y1 hpost
                obtain ⟨A1, n1, c1, l1, rfl, hM1, hb1⟩ := hpost.ok
                rw [hu] at hM1
                refine hK _ _ (hb1.mono hXs) ?_
                clear hK K hpost
                have OZ := OZ0.below hb1 OZ0.lt
                have hgl1 := OZ0.lt
                obtain ⟨y3, hy3⟩ : ∃ y3, y1.setRow g1 (oc (Ob.dir ⟨A1, n1, c1⟩)) = y3 := ⟨_, rfl⟩
                have HF : Hid (Obl y3 g1 41 (oc (Ob.dir ⟨A1, n1, c1⟩))) := hide (hy3 ▸ OZ.row_same _)
                have HO := hide (show NmOutE y3 wr.heap.size A1 n1 c1 l1 (adds (L.take (i + 1))) from hy3 ▸ (hM1.keep (keep_row hgl1 _) (by simp [World.setRow])).weaken hXs)
                have HA9 := hide (show Below wr.heap.size y1 y3 from hy3 ▸ below_row (Below.refl _ _) hgW _)
                have HB : Hid (Below wr.heap.size wr y3) := hide (HXB.out.trans ((hb1.mono hXs).trans HA9.out))
                clear hb1 hM1
                refine takeB 11 rfl (by kernel_rfl) (fun _ _ _ h => h) (by rfl) (by intro w' hg; go_simp; try with_reducible rfl) ?_
                refine takeB 12 rfl (by kernel_rfl) (fun _ _ _ h => h) (by rfl) (by intro w' hg; go_simp; try with_reducible rfl) ?_
                refine takeB 13 rfl (by kernel_rfl) (fun _ _ _ h => h) (by rfl) (by intro w' hg; go_simp; try with_reducible rfl) ?_
                go_simp
                refine onlyB 15 rfl (by kernel_rfl) (by rfl) ?_
                intro K hK
                refine wp_store_dir rfl rfl (c := Ob.dir ⟨A1, n1, c1⟩) rfl OZ rfl ?_
                rw [hy3]
                refine hK _ _ HA9.out ?_
                clear hK K
                refine takeB 16 rfl (by kernel_rfl) (fun _ _ _ h => h) (by rfl) (by intro w' hg; go_simp; try with_reducible rfl) ?_
                refine doneB (by kernel_rfl) ?_
                go_simp
                go_wp2_with fail
                go_meet
                case rel => exact ⟨_, n1, c1, A1, l1, rfl, rfl, hgW, HF, HO, HB⟩
            · intro K hK
              go_simp
              generalize hwz : (wr.alloc _).drew = wv
              have hz : (wr.alloc (.cells (oc Ob.zero) 41)).drew = wv := hwz
              have OZ0 : Obl wv wr.heap.size 41 (oc Ob.zero) := hz ▸ (show Obl (wr.alloc (.cells (oc Ob.zero) 41)).drew wr.heap.size 41 (oc Ob.zero) from Obl.make wr _ _)
              have hbz : Below wr.heap.size wr wv := hz ▸ ⟨rfl, rfl, rfl, by simp, fun k hk => Below.heap_alloc wr _ k hk⟩
              have hsz : wr.heap.size < wv.heap.size := by rw [← hz]; show wr.heap.size < (wr.alloc _).heap.size; rw [World.size_alloc]; omega
              clear hz hwz
              refine hK _ _ ⟨hbz.os, hbz.tape, hbz.output, hbz.size, hbz.block⟩ ?_
              clear hK K
              refine onlyB 8 rfl (by kernel_rfl) (by rfl) ?_
              intro K hK
              go_simp
              obtain ⟨ws, hws⟩ : ∃ ws, (wv.alloc (.cells #[.int .u64 (10 + (k1 : Int))] 22)) = ws := ⟨_, rfl⟩
              try rw [hws]
              have hb0 : Below wv.heap.size wv ws := hws ▸ ⟨rfl, rfl, rfl, by simp, fun k hk => Below.heap_alloc wv _ k hk⟩
              have hss : ws.heap.size = wv.heap.size + 1 := by rw [← hws]; exact World.size_alloc _ _
              have HI : Hid (Nums .u64 ws ws.heap.size (some ⟨wv.heap.size, 0, none⟩) 1 [10 + (k1 : Int)]) := hide ⟨rfl, by rw [hss, ← hws]; exact Row.list wv [.int .u64 (10 + (k1 : Int))] 22⟩
              clear hws
              refine hK _ _ (hb0.mono (by omega)) ?_
              clear hK K
              have HXB : Hid (Below wr.heap.size wr ws) := hide (hbz.trans (hb0.mono (by omega)))
              have hXs : wr.heap.size ≤ ws.heap.size := by omega
              have hgW : wr.heap.size ≤ wr.heap.size := Nat.le_refl _
              replace OZ0 := OZ0.below hb0 OZ0.lt
              clear hb0 hbz hss
              refine takeB 9 rfl (by kernel_rfl) (fun _ _ _ h => h) (by rfl) (by intro w' hg; go_simp; try with_reducible rfl) ?_
              refine onlyB 10 rfl (by kernel_rfl) (by rfl) ?_
              have HE := hide (HUE.out.later HXB.out)
              have HX := hide (HMr.out.below HXB.out)
              intro K hK
              go_simp
              refine (addO HE.out HX.out (fun j hj => HS8.out j (List.mem_of_mem_take hj)) (HON.out.sublist (List.take_sublist _ _)) hk1 hn1 ⟨(entO k1).path, 3, ⟨some ⟨wv.heap.size, 0, none⟩, 1, 1⟩⟩ rfl rfl HI.out).mono ?_
              rintro e y1 hpost
              obtain ⟨A1, n1, c1, l1, rfl, hM1, hb1⟩ := hpost.ok
              rw [hu] at hM1
              refine hK _ _ (hb1.mono hXs) ?_
              clear hK K hpost
              have OZ := OZ0.below hb1 OZ0.lt
              have hgl1 := OZ0.lt
              obtain ⟨y3, hy3⟩ : ∃ y3, y1.setRow wr.heap.size (oc (Ob.dir ⟨A1, n1, c1⟩)) = y3 := ⟨_, rfl⟩
              have HF : Hid (Obl y3 wr.heap.size 41 (oc (Ob.dir ⟨A1, n1, c1⟩))) := hide (hy3 ▸ OZ.row_same _)
              have HO := hide (show NmOutE y3 wr.heap.size A1 n1 c1 l1 (adds (L.take (i + 1))) from hy3 ▸ (hM1.keep (keep_row hgl1 _) (by simp [World.setRow])).weaken hXs)
              have HA9 := hide (show Below wr.heap.size y1 y3 from hy3 ▸ below_row (Below.refl _ _) hgW _)
              have HB : Hid (Below wr.heap.size wr y3) := hide (HXB.out.trans ((hb1.mono hXs).trans HA9.out))
              clear hb1 hM1
              refine takeB 11 rfl (by kernel_rfl) (fun _ _ _ h => h) (by rfl) (by intro w' hg; go_simp; try with_reducible rfl) ?_
              refine takeB 12 rfl (by kernel_rfl) (fun _ _ _ h => h) (by rfl) (by intro w' hg; go_simp; try with_reducible rfl) ?_
              refine takeB 13 rfl (by kernel_rfl) (fun _ _ _ h => h) (by rfl) (by intro w' hg; go_simp; try with_reducible rfl) ?_
              go_simp
              refine onlyB 15 rfl (by kernel_rfl) (by rfl) ?_
              intro K hK
              refine wp_store_dir rfl rfl (c := Ob.dir ⟨A1, n1, c1⟩) rfl OZ rfl ?_
              rw [hy3]
              refine hK _ _ HA9.out ?_
              clear hK K
              refine takeB 16 rfl (by kernel_rfl) (fun _ _ _ h => h) (by rfl) (by intro w' hg; go_simp; try with_reducible rfl) ?_
              refine doneB (by kernel_rfl) ?_
              go_simp
              go_wp2_with fail
              go_meet
              case rel => exact ⟨_, n1, c1, A1, l1, rfl, rfl, hgW, HF, HO, HB⟩
          case rest =>
            obtain ⟨g1, n1, c1, A1, l1, rfl, rfl, hg1, HF1, HO1, HB1⟩ := hcut
            generalize wc = we at *
            refine ‹∀ (a : Act) (w : World), Code.wp _ _ _ a w → _› _ _ ?_
            have hwrc : wr.heap.size ≤ we.heap.size := HB1.out.size
            have hcp2 : we.cell? ⟨gp, k2, none⟩ = some (.string ⟨(entO k2).path.toArray⟩) := (HB1.out.cell (p := ⟨gp, k2, none⟩) hgp).trans (cell8 HT.out.paths hk2)
            have hgp2 : gp < we.heap.size := by omega
            obtain ⟨dA, dn, dc, dl, dO0, dE0⟩ := HT.out.down
            have dO := dO0.below HB1.out dO0.lt
            have dOl := dO.lt
            have HDE := hide (dE0.later HB1.out)
            have HMc := hide (HMr.out.below HB1.out)
            have HNR : Hid L.reverse.Nodup := hide (List.pairwise_reverse.2 (HON.out.imp fun h => Ne.symm h))
            clear dO0 dE0 hwa hwb hcp1
            go_upto_region 19 with (fail)
            go_cut [17, 18] from 95 to 108 (fun s17 s18 wx => ∃ (g2 n2 c2 : Nat) (A2 : Option Addr) (l2 : List Nm), s17 = .pointer (some ⟨g2, 0, none⟩) ∧ s18 = .int .i64 0 ∧ we.heap.size ≤ g2 ∧ Hid (Obl wx g2 41 (oc (Ob.dir ⟨A2, n2, c2⟩))) ∧ Hid (NmOutE wx we.heap.size A2 n2 c2 l2 (adds (L.reverse.take (i + 1)))) ∧ Hid (Below we.heap.size we wx))
            case first =>
              refine region_B (by kernel_rfl) we.heap.size ?_
              refine takeB 0 rfl (by kernel_rfl) (fun _ _ _ h => h) (by rfl) (by intro w' hg; exact exec_load_ob rfl rfl ((show Obl we.drew (m + 1) 41 _ from dO).below hg dOl); skip) ?_
              refine takeB 1 rfl (by kernel_rfl) (fun _ _ _ h => h) (by rfl) (by intro w' hg; go_simp; try with_reducible rfl) ?_
              refine takeB 2 rfl (by kernel_rfl) (fun _ _ _ h => h) (by rfl) (by intro w' hg; go_simp; try with_reducible rfl) ?_
              refine takeB 3 rfl (by kernel_rfl) (fun _ _ _ h => h) (by rfl) (by intro w' hg; go_simp; try with_reducible rfl) ?_
              refine takeB 4 rfl (by kernel_rfl) (fun _ _ _ h => h) (by rfl) (by intro w' hg; have hcA := (hg.cell (p := ⟨gp, k2, none⟩) (by show gp < we.heap.size; omega)).trans (show _ = _ from hcp2); go_simp; try with_reducible rfl) ?_
              refine takeB 5 rfl (by kernel_rfl) (fun _ _ _ h => h) (by rfl) (by intro w' hg; go_simp; try with_reducible rfl) ?_
              refine takeB 6 rfl (by kernel_rfl) (fun _ _ _ h => h) (by rfl) (by intro w' hg; go_simp; try with_reducible rfl) ?_
              refine takeB 7 rfl (by kernel_rfl) (fun _ _ _ h => h) (by rfl) (by intro w' hg; go_simp; try with_reducible rfl) ?_
              refine twoB 8 14 rfl rfl (by kernel_rfl) (by rfl) (by rfl) ?_ ?_
              · intro K hK
                go_simp
                obtain ⟨ws, hws⟩ : ∃ ws, (we.alloc (.cells #[.int .u64 (10 + (k2 : Int))] 22)).drew = ws := ⟨_, rfl⟩
                try rw [hws]
                have hb0 : Below we.heap.size we ws := hws ▸ ⟨rfl, rfl, rfl, by simp, fun k hk => Below.heap_alloc we _ k hk⟩
                have hss : ws.heap.size = we.heap.size + 1 := by rw [← hws]; exact World.size_alloc _ _
                have HI : Hid (Nums .u64 ws ws.heap.size (some ⟨we.heap.size, 0, none⟩) 1 [10 + (k2 : Int)]) := hide ⟨rfl, by rw [hss, ← hws]; exact Row.list we [.int .u64 (10 + (k2 : Int))] 22⟩
                clear hws
                refine hK _ _ ⟨hb0.os, hb0.tape, hb0.output, hb0.size, hb0.block⟩ ?_
                clear hK K
                have HXB := hide hb0
                have hXs : we.heap.size ≤ ws.heap.size := by omega
                clear hb0 hss
                refine takeB 9 rfl (by kernel_rfl) (fun _ _ _ h => h) (by rfl) (by intro w' hg; go_simp; try with_reducible rfl) ?_
                refine twoB 10 14 rfl rfl (by kernel_rfl) (by rfl) (by rfl) ?_ ?_
                · have HE := hide (HDE.out.later HXB.out)
                  have HX := hide (HMc.out.below HXB.out)
                  intro K hK
                  go_simp
                  refine (addO HE.out HX.out (fun j hj => HS8.out j (List.mem_reverse.1 (List.mem_of_mem_take hj))) (HNR.out.sublist (List.take_sublist _ _)) hk2 hn2 ⟨(entO k2).path, 3, ⟨some ⟨we.heap.size, 0, none⟩, 1, 1⟩⟩ rfl rfl HI.out).mono ?_
                  rintro e y1 hpost
                  obtain ⟨A2, n2, c2, l2, rfl, hM2, hb1⟩ := hpost.ok
                  rw [hd] at hM2
                  refine hK _ _ (hb1.mono hXs) ?_
                  clear hK K hpost
                  obtain ⟨y2, hy2, g2, hg1, y3, hy3, OZ, OM, hb8, hs8'⟩ := laid_ob (Ob.dir ⟨A2, n2, c2⟩) y1
                  have hgW : we.heap.size ≤ g2 := by have := hb1.size; omega
                  have HF := hide OM
                  have HO := hide ((hM2.later hb8).weaken hXs)
                  have HB : Hid (Below we.heap.size we y3) := hide (HXB.out.trans ((hb1.trans (hb8.mono hb1.size)).mono hXs))
                  have HA8 := hide (show Below we.heap.size y1 y2 from hy2 ▸ (Below.refl _ _).alloc (by have := hb1.size; omega) _)
                  have HA9 := hide (show Below we.heap.size y2 y3 from hy3 ▸ below_row (Below.refl _ _) hgW _)
                  clear hb1 hM2 OM hb8 hs8'
                  refine takeB 11 rfl (by kernel_rfl) (fun _ _ _ h => h) (by rfl) (by intro w' hg; go_simp; try with_reducible rfl) ?_
                  refine takeB 12 rfl (by kernel_rfl) (fun _ _ _ h => h) (by rfl) (by intro w' hg; go_simp; try with_reducible rfl) ?_
                  refine takeB 13 rfl (by kernel_rfl) (fun _ _ _ h => h) (by rfl) (by intro w' hg; go_simp; try with_reducible rfl) ?_
                  refine onlyB 14 rfl (by kernel_rfl) (by rfl) ?_
                  intro K hK
                  go_simp
                  refine hK _ _ HA8.out ?_
                  clear hK K
                  go_simp
                  refine onlyB 15 rfl (by kernel_rfl) (by rfl) ?_
                  intro K hK
                  refine wp_store_dir rfl rfl (c := Ob.dir ⟨A2, n2, c2⟩) rfl OZ rfl ?_
                  rw [hy3]
                  refine hK _ _ HA9.out ?_
                  clear hK K
                  refine takeB 16 rfl (by kernel_rfl) (fun _ _ _ h => h) (by rfl) (by intro w' hg; go_simp; try with_reducible rfl) ?_
                  refine doneB (by kernel_rfl) ?_
                  go_simp
                  go_wp2_with fail
                  go_meet
                  case rel => exact ⟨_, n2, c2, A2, l2, rfl, rfl, hgW, HF, HO, HB⟩
                · intro K hK
                  go_simp
                  generalize hwz : ws.alloc _ = wz
                  have hz : (ws.alloc (.cells (oc Ob.zero) 41)) = wz := hwz
                  have OZ0 : Obl wz ws.heap.size 41 (oc Ob.zero) := hz ▸ (show Obl (ws.alloc (.cells (oc Ob.zero) 41)) ws.heap.size 41 (oc Ob.zero) from Obl.make ws _ _)
                  have hbz : Below ws.heap.size ws wz := hz ▸ ⟨rfl, rfl, rfl, by simp, fun k hk => Below.heap_alloc ws _ k hk⟩
                  have hsz : wz.heap.size = ws.heap.size + 1 := by rw [← hz]; exact World.size_alloc ws _
                  clear hz hwz
                  refine hK _ _ (hbz.mono hXs) ?_
                  clear hK K
                  replace HXB : Hid (Below we.heap.size we wz) := hide (HXB.out.trans (hbz.mono hXs))
                  replace HI := hide ((HI.out.below hbz).mono hbz.size)
                  have hgW : we.heap.size ≤ ws.heap.size := hXs
                  replace hXs : we.heap.size ≤ wz.heap.size := by omega
                  clear hsz hbz
                  generalize ws.heap.size = g2 at *
                  refine onlyB 10 rfl (by kernel_rfl) (by rfl) ?_
                  have HE := hide (HDE.out.later HXB.out)
                  have HX := hide (HMc.out.below HXB.out)
                  intro K hK
                  go_simp
                  refine (addO HE.out HX.out (fun j hj => HS8.out j (List.mem_reverse.1 (List.mem_of_mem_take hj))) (HNR.out.sublist (List.take_sublist _ _)) hk2 hn2 ⟨(entO k2).path, 3, ⟨some ⟨we.heap.size, 0, none⟩, 1, 1⟩⟩ rfl rfl HI.out).mono ?_
                  rintro e y1 hpost
                  obtain ⟨A2, n2, c2, l2, rfl, hM2, hb1⟩ := hpost.ok
                  rw [hd] at hM2
                  refine hK _ _ (hb1.mono hXs) ?_
                  clear hK K hpost
                  have OZ := OZ0.below hb1 OZ0.lt
                  have hgl1 := OZ0.lt
                  obtain ⟨y3, hy3⟩ : ∃ y3, y1.setRow g2 (oc (Ob.dir ⟨A2, n2, c2⟩)) = y3 := ⟨_, rfl⟩
                  have HF : Hid (Obl y3 g2 41 (oc (Ob.dir ⟨A2, n2, c2⟩))) := hide (hy3 ▸ OZ.row_same _)
                  have HO := hide (show NmOutE y3 we.heap.size A2 n2 c2 l2 (adds (L.reverse.take (i + 1))) from hy3 ▸ (hM2.keep (keep_row hgl1 _) (by simp [World.setRow])).weaken hXs)
                  have HA9 := hide (show Below we.heap.size y1 y3 from hy3 ▸ below_row (Below.refl _ _) hgW _)
                  have HB : Hid (Below we.heap.size we y3) := hide (HXB.out.trans ((hb1.mono hXs).trans HA9.out))
                  clear hb1 hM2
                  refine takeB 11 rfl (by kernel_rfl) (fun _ _ _ h => h) (by rfl) (by intro w' hg; go_simp; try with_reducible rfl) ?_
                  refine takeB 12 rfl (by kernel_rfl) (fun _ _ _ h => h) (by rfl) (by intro w' hg; go_simp; try with_reducible rfl) ?_
                  refine takeB 13 rfl (by kernel_rfl) (fun _ _ _ h => h) (by rfl) (by intro w' hg; go_simp; try with_reducible rfl) ?_
                  go_simp
                  refine onlyB 15 rfl (by kernel_rfl) (by rfl) ?_
                  intro K hK
                  refine wp_store_dir rfl rfl (c := Ob.dir ⟨A2, n2, c2⟩) rfl OZ rfl ?_
                  rw [hy3]
                  refine hK _ _ HA9.out ?_
                  clear hK K
                  refine takeB 16 rfl (by kernel_rfl) (fun _ _ _ h => h) (by rfl) (by intro w' hg; go_simp; try with_reducible rfl) ?_
                  refine doneB (by kernel_rfl) ?_
                  go_simp
                  go_wp2_with fail
                  go_meet
                  case rel => exact ⟨_, n2, c2, A2, l2, rfl, rfl, hgW, HF, HO, HB⟩
              · intro K hK
                go_simp
                generalize hwz : (we.alloc _).drew = wv
                have hz : (we.alloc (.cells (oc Ob.zero) 41)).drew = wv := hwz
                have OZ0 : Obl wv we.heap.size 41 (oc Ob.zero) := hz ▸ (show Obl (we.alloc (.cells (oc Ob.zero) 41)).drew we.heap.size 41 (oc Ob.zero) from Obl.make we _ _)
                have hbz : Below we.heap.size we wv := hz ▸ ⟨rfl, rfl, rfl, by simp, fun k hk => Below.heap_alloc we _ k hk⟩
                have hsz : we.heap.size < wv.heap.size := by rw [← hz]; show we.heap.size < (we.alloc _).heap.size; rw [World.size_alloc]; omega
                clear hz hwz
                refine hK _ _ ⟨hbz.os, hbz.tape, hbz.output, hbz.size, hbz.block⟩ ?_
                clear hK K
                refine onlyB 8 rfl (by kernel_rfl) (by rfl) ?_
                intro K hK
                go_simp
                obtain ⟨ws, hws⟩ : ∃ ws, (wv.alloc (.cells #[.int .u64 (10 + (k2 : Int))] 22)) = ws := ⟨_, rfl⟩
                try rw [hws]
                have hb0 : Below wv.heap.size wv ws := hws ▸ ⟨rfl, rfl, rfl, by simp, fun k hk => Below.heap_alloc wv _ k hk⟩
                have hss : ws.heap.size = wv.heap.size + 1 := by rw [← hws]; exact World.size_alloc _ _
                have HI : Hid (Nums .u64 ws ws.heap.size (some ⟨wv.heap.size, 0, none⟩) 1 [10 + (k2 : Int)]) := hide ⟨rfl, by rw [hss, ← hws]; exact Row.list wv [.int .u64 (10 + (k2 : Int))] 22⟩
                clear hws
                refine hK _ _ (hb0.mono (by omega)) ?_
                clear hK K
                have HXB : Hid (Below we.heap.size we ws) := hide (hbz.trans (hb0.mono (by omega)))
                have hXs : we.heap.size ≤ ws.heap.size := by omega
                have hgW : we.heap.size ≤ we.heap.size := Nat.le_refl _
                replace OZ0 := OZ0.below hb0 OZ0.lt
                clear hb0 hbz hss
                refine takeB 9 rfl (by kernel_rfl) (fun _ _ _ h => h) (by rfl) (by intro w' hg; go_simp; try with_reducible rfl) ?_
                refine onlyB 10 rfl (by kernel_rfl) (by rfl) ?_
                have HE := hide (HDE.out.later HXB.out)
                have HX := hide (HMc.out.below HXB.out)
                intro K hK
                go_simp
                refine (addO HE.out HX.out (fun j hj => HS8.out j (List.mem_reverse.1 (List.mem_of_mem_take hj))) (HNR.out.sublist (List.take_sublist _ _)) hk2 hn2 ⟨(entO k2).path, 3, ⟨some ⟨wv.heap.size, 0, none⟩, 1, 1⟩⟩ rfl rfl HI.out).mono ?_
                rintro e y1 hpost
                obtain ⟨A2, n2, c2, l2, rfl, hM2, hb1⟩ := hpost.ok
                rw [hd] at hM2
                refine hK _ _ (hb1.mono hXs) ?_
                clear hK K hpost
                have OZ := OZ0.below hb1 OZ0.lt
                have hgl1 := OZ0.lt
                obtain ⟨y3, hy3⟩ : ∃ y3, y1.setRow we.heap.size (oc (Ob.dir ⟨A2, n2, c2⟩)) = y3 := ⟨_, rfl⟩
                have HF : Hid (Obl y3 we.heap.size 41 (oc (Ob.dir ⟨A2, n2, c2⟩))) := hide (hy3 ▸ OZ.row_same _)
                have HO := hide (show NmOutE y3 we.heap.size A2 n2 c2 l2 (adds (L.reverse.take (i + 1))) from hy3 ▸ (hM2.keep (keep_row hgl1 _) (by simp [World.setRow])).weaken hXs)
                have HA9 := hide (show Below we.heap.size y1 y3 from hy3 ▸ below_row (Below.refl _ _) hgW _)
                have HB : Hid (Below we.heap.size we y3) := hide (HXB.out.trans ((hb1.mono hXs).trans HA9.out))
                clear hb1 hM2
                refine takeB 11 rfl (by kernel_rfl) (fun _ _ _ h => h) (by rfl) (by intro w' hg; go_simp; try with_reducible rfl) ?_
                refine takeB 12 rfl (by kernel_rfl) (fun _ _ _ h => h) (by rfl) (by intro w' hg; go_simp; try with_reducible rfl) ?_
                refine takeB 13 rfl (by kernel_rfl) (fun _ _ _ h => h) (by rfl) (by intro w' hg; go_simp; try with_reducible rfl) ?_
                go_simp
                refine onlyB 15 rfl (by kernel_rfl) (by rfl) ?_
                intro K hK
                refine wp_store_dir rfl rfl (c := Ob.dir ⟨A2, n2, c2⟩) rfl OZ rfl ?_
                rw [hy3]
                refine hK _ _ HA9.out ?_
                clear hK K
                refine takeB 16 rfl (by kernel_rfl) (fun _ _ _ h => h) (by rfl) (by intro w' hg; go_simp; try with_reducible rfl) ?_
                refine doneB (by kernel_rfl) ?_
                go_simp
                go_wp2_with fail
                go_meet
                case rel => exact ⟨_, n2, c2, A2, l2, rfl, rfl, hgW, HF, HO, HB⟩
            case rest =>
              obtain ⟨g2, n2, c2, A2, l2, rfl, rfl, hg2, HF2, HO2, HB2⟩ := hcut
              generalize wc = wf at *
              refine ‹∀ (a : Act) (w : World), Code.wp _ _ _ a w → _› _ _ ?_
              have hwf : we.heap.size ≤ wf.heap.size := HB2.out.size
              have hg1l := HF1.out.lt
              have hg2l := HF2.out.lt
              have HZ0 : Hid (m + 1 + 1 + 1 < wr.heap.size) := hide (by omega)
              clear hwc hwd hcp2 hgp2 dOl hgp
              go_upto_region 22 with (fail)
              obtain ⟨u, hu, HBu, hus⟩ : ∃ u, wf.drew = u ∧ Hid (Below wf.heap.size wf u) ∧ wf.heap.size ≤ u.heap.size := ⟨_, rfl, hide ⟨rfl, rfl, rfl, Nat.le_refl _, fun _ _ => rfl⟩, Nat.le_refl _⟩
              have HBB : Hid (Below wr.heap.size wr u) := hide (HB1.out.trans ((HB2.out.mono hwrc).trans (HBu.out.mono (by omega))))
              have F1 := (HF1.out.below HB2.out HF1.out.lt).below HBu.out (by omega)
              have F2 := HF2.out.below HBu.out HF2.out.lt
              have HN1 := hide ((HO1.out.later HB2.out).later HBu.out)
              have HN2 := hide ((HO2.out.later HBu.out).weaken hwrc)
              obtain ⟨uA2, un2, uc2, ul2, uO2, _⟩ := HT.out.up
              obtain ⟨dA2, dn2, dc2, dl2, dO2, _⟩ := HT.out.down
              have OM := uO2.below HBB.out uO2.lt
              have OD := (dO2.below HBB.out dO2.lt).row_other (g := m) (by omega) (oc (Ob.dir ⟨A1, n1, c1⟩))
              have hz0 := HZ0.out
              refine region_D (by kernel_rfl) wf.heap.size m [3] ?_
              rw [hu]
              clear hu uO2 dO2
              refine takeD 0 [0, 2, 3] rfl (by kernel_rfl) (fun _ _ _ h => h) (by rfl) (by intro w' hg; exact exec_load_ob rfl rfl (hg.obl F1 (by omega) (by omega))) ?_
              refine takeD 1 [1, 3] rfl (by kernel_rfl) (fun _ _ _ h => h) (by rfl) (by intro w' hg; exact exec_load_ob rfl rfl (hg.obl F2 (by omega) (by omega))) ?_
              refine onlyD 2 rfl (by kernel_rfl) (by rfl) ?_
              intro K hK
              refine wp_store_dir rfl rfl (c := Ob.dir ⟨A1, n1, c1⟩) rfl OM rfl ?_
              refine hK _ _ (fun _ => bel_row_self _) ?_
              clear hK K
              refine onlyD 3 rfl (by kernel_rfl) (by rfl) ?_
              intro K hK
              refine wp_store_dir rfl rfl (c := Ob.dir ⟨A2, n2, c2⟩) rfl OD rfl ?_
              refine hK _ _ (fun h => absurd h (by decide)) ?_
              clear hK K
              have HTN := hide (HT.out.next (by omega) HBB.out HN1.out HN2.out)
              generalize (u.setRow m (oc (Ob.dir ⟨A1, n1, c1⟩))).setRow (m + 1) (oc (Ob.dir ⟨A2, n2, c2⟩)) = wn at *
              refine doneD (by kernel_rfl) ?_
              go_simp
              go_wp2
              refine ⟨⟨i + 1, by go_num, by omega, HTN⟩, ?_⟩
              simp [intOf]
              omega
        · obtain rfl : i = L.length := by omega
          go_wp2_with fail
          go_meet
          case rel => exact HT
    case rest =>
      clear HT
      rename Hid (TwoAt w8 wc m gp A c L L.length) => HT
      generalize wc = wt at *
      refine ‹∀ (a : Act) (w : World), Code.wp _ _ _ a w → _› _ _ ?_
      go_upto_block 4 with fail
      go_cut [19] from 118 to 138 (fun s19 wx => ∃ i : Nat, s19 = .int .i64 (i : Int) ∧ Hid (TwoAt w8 wx m gp A c L L.length))
      case first =>
        go_wp2_with fail
        go_loopw [19] (fun s19 wr => ∃ i : Nat, s19 = .int .i64 (i : Int) ∧ 1 ≤ i ∧ Hid (TwoAt w8 wr m gp A c L L.length)) (fun s19 _ => 9 - (intOf s19).toNat)
        case atStart => exact ⟨1, rfl, by omega, HT⟩
        case round =>
          clear HT
          obtain ⟨i, rfl, hi, HT⟩ := hrel
          obtain ⟨uA, un, uc, ul, uO, uE⟩ := HT.out.up
          have uOl := uO.lt
          have c35 : wr.cell? ⟨m, 35, none⟩ = some (.slice uA un uc) := uO.cell 35
          have hul : ul.length = un := own_nmv uE.own.1
          have hun : un = L.length := by
            have h1 := uE.has.1
            rw [adds_length, List.take_length] at h1
            omega
          by_cases hlt : i < un
          · have hlt' : (i : Int) < (un : Int) := by omega
            obtain ⟨b1, f1, hk1, rfl, hb1, p1, -⟩ := uE.own.nms.at_ (i := i) hlt
            obtain ⟨b2, f2, hk2, hA2, -, p2, -⟩ := uE.own.nms.at_ (i := i - 1) (by omega)
            simp only [Option.some.injEq, Addr.mk.injEq, and_true] at hA2
            obtain ⟨rfl, rfl⟩ := hA2
            have hE1 : i < (adds (L.take L.length)).length := by rw [adds_length, List.take_length]; omega
            have e1 := (uE.has.2 i hk1 hE1).1
            have e2 := (uE.has.2 (i - 1) hk2 (by omega)).1
            have hSp := (adds_space (L := L.take L.length) (by rw [List.take_length]; exact HS8.out) (by rw [List.take_length]; exact HON.out)).2 (i - 1) (by omega)
            obtain ⟨pa, hpa⟩ : ∃ pa : ByteArray, (⟨ul[i - 1].path.toArray⟩ : ByteArray) = pa := ⟨_, rfl⟩
            obtain ⟨pb, hpb⟩ : ∃ pb : ByteArray, (⟨ul[i].path.toArray⟩ : ByteArray) = pb := ⟨_, rfl⟩
            have hbl : Op.bytesLess pa.toList pb.toList = true := by
              rw [← hpa, ← hpb, Lib.toList_data, Lib.toList_data, e1, e2]
              have : i - 1 + 1 = i := by omega
              simp only [this] at hSp
              exact hSp
            rw [hpb] at p1
            rw [hpa] at p2
            have hcast : (i : Int) - 1 = ((i - 1 : Nat) : Int) := by omega
            have hu8 : un ≤ 8 := by omega
            clear hpa hpb hSp e1 e2 uO uE hun
            obtain ⟨q, rfl⟩ : ∃ q, i = q + 1 := ⟨i - 1, by omega⟩
            rw [Nat.add_sub_cancel] at p2 hcast
            have hq0 : (0 : Int) ≤ (q : Int) := by omega
            have hq1 : (0 : Int) ≤ (q : Int) + 1 := by omega
            have hqn1 : (q : Int) + 1 < (un : Int) := by omega
            have hqn : (q : Int) < (un : Int) := by omega
            have hwr : IntKind.i64.wrap (q : Int) = (q : Int) := IntWalk.i64_in _ (by omega)
            clear hk1 hk2 hE1 hul
            go_upto_region 27 with (fail)
            refine region_B (by kernel_rfl) wr.heap.size ?_
            have HTd : Hid (TwoAt w8 wr.drew m gp A c L L.length) := hide (HT.out.drews 1)
            refine takeB 0 rfl (by kernel_rfl) (fun _ _ _ h => h) (by rfl) (by intro w' hg; go_simp; try with_reducible rfl) ?_
            refine takeB 1 rfl (by kernel_rfl) (fun _ _ _ h => h) (by rfl) (by intro w' hg; have g1 := (hg.cell (p := ⟨m, 35, none⟩) (by show m < _; omega)).trans c35; go_simp; try with_reducible rfl) ?_
            refine takeB 2 rfl (by kernel_rfl) (fun _ _ _ h => h) (by rfl) (by intro w' hg; go_simp; try with_reducible rfl) ?_
            refine takeB 3 rfl (by kernel_rfl) (fun _ _ _ h => h) (by rfl) (by intro w' hg; go_simp; try with_reducible rfl) ?_
            refine takeB 4 rfl (by kernel_rfl) (fun _ _ _ h => h) (by rfl) (by intro w' hg; go_simp; try with_reducible rfl) ?_
            refine takeB 5 rfl (by kernel_rfl) (fun _ _ _ h => h) (by rfl) (by intro w' hg; go_simp; try with_reducible rfl) ?_
            refine takeB 6 rfl (by kernel_rfl) (fun _ _ _ h => h) (by rfl) (by intro w' hg; have g1 := (hg.cell (p := ⟨b1, f1 + q * 3, none⟩) (by show b1 < _; omega)).trans p2; go_simp; try with_reducible rfl) ?_
            refine takeB 7 rfl (by kernel_rfl) (fun _ _ _ h => h) (by rfl) (by intro w' hg; go_simp; try with_reducible rfl) ?_
            refine takeB 8 rfl (by kernel_rfl) (fun _ _ _ h => h) (by rfl) (by intro w' hg; have g1 := (hg.cell (p := ⟨m, 35, none⟩) (by show m < _; omega)).trans c35; go_simp; try with_reducible rfl) ?_
            refine takeB 9 rfl (by kernel_rfl) (fun _ _ _ h => h) (by rfl) (by intro w' hg; go_simp; try with_reducible rfl) ?_
            refine takeB 10 rfl (by kernel_rfl) (fun _ _ _ h => h) (by rfl) (by intro w' hg; go_simp; try with_reducible rfl) ?_
            refine takeB 11 rfl (by kernel_rfl) (fun _ _ _ h => h) (by rfl) (by intro w' hg; go_simp; try with_reducible rfl) ?_
            refine takeB 12 rfl (by kernel_rfl) (fun _ _ _ h => h) (by rfl) (by intro w' hg; have g1 := (hg.cell (p := ⟨b1, f1 + (q + 1) * 3, none⟩) (by show b1 < _; omega)).trans p1; go_simp; try with_reducible rfl) ?_
            refine takeB 13 rfl (by kernel_rfl) (fun _ _ _ h => h) (by rfl) (by intro w' hg; go_simp; try with_reducible rfl) ?_
            refine doneB (by kernel_rfl) ?_
            go_simp
            go_wp2_with fail
            refine ⟨⟨q + 1 + 1, by go_num, by omega, HTd⟩, ?_⟩
            simp [intOf]
            omega
          · go_wp2_with fail
            go_meet
            case rel => exact ⟨i, rfl, HT⟩
      case rest =>
        clear HT
        obtain ⟨i3, rfl, HT⟩ := hcut
        generalize wc = wt at *
        refine ‹∀ (a : Act) (w : World), Code.wp _ _ _ a w → _› _ _ ?_
        go_wp2_with fail
        refine (nxNew_any _).mono ?_
        rintro e w10 ⟨rfl, hb10⟩
        obtain ⟨w11, hw11, O11, hb11, hs11⟩ := start_z w10
        obtain ⟨g4, hg4⟩ : ∃ g4, w10.heap.size = g4 := ⟨_, rfl⟩
        rw [hg4] at O11
        obtain ⟨w12, hw12⟩ : ∃ w12, w11.setRow g4 (oc (Ob.dir ⟨none, 0, 0⟩)) = w12 := ⟨_, rfl⟩
        have O12 : Obl w12 g4 41 (oc (Ob.dir ⟨none, 0, 0⟩)) := hw12 ▸ O11.row_same _
        have hs10 := hb10.size
        have hs12 : g4 + 1 ≤ w12.heap.size := by rw [← hw12]; simp [World.setRow]; omega
        have hb12 : Below wt.heap.size wt w12 := hw12 ▸ below_row (hb10.trans (hb11.mono hs10)) (by omega) _
        have HA : Hid (ManyAt wt w12 g4 0 none 0 []) := hide ⟨O12, NmOutE.nil hs12, hb12⟩
        have HG : Hid (wt.heap.size ≤ g4) := hide (by omega)
        clear O12 hs12 hb12 hb10 hs10 hb11 hs11
        go_upto_block 6 with (first | (refine store_ob rfl _ _ rfl rfl (c := Ob.dir ⟨none, 0, 0⟩) rfl O11 rfl ?_; rw [hw12]) | fail)
        clear O11 hw11 hw12 hg4
        go_cut [21] from 140 to 161 (fun s21 wx => ∃ c A l, s21 = .int .i64 256 ∧ Hid (ManyAt wt wx g4 256 A c l))
        case first =>
          go_wp2_with fail
          go_loopw [21] (fun s21 wr => ∃ (i c : Nat) (A : Option Addr) (l : List Nm), s21 = .int .i64 (i : Int) ∧ i ≤ 256 ∧ Hid (ManyAt wt wr g4 i A c l)) (fun s21 _ => 256 - (intOf s21).toNat)
          case atStart => exact ⟨0, 0, none, [], rfl, by omega, HA⟩
          case round =>
            clear HA
            obtain ⟨i, c4, A4, l4, rfl, hi, HA⟩ := hrel
            by_cases hlt : i < 256
            · have hlt' : (i : Int) < 256 := by omega
              have c35 : wr.cell? ⟨g4, 35, none⟩ = some (.slice A4 i c4) := HA.out.obl.cell 35
              have hq16 : (i : Int).tdiv 16 = ((i / 16 : Nat) : Int) := by rw [Int.tdiv_eq_ediv_of_nonneg (by omega)]; omega
              have hr16 : (i : Int).tmod 16 = ((i % 16 : Nat) : Int) := by rw [Int.tmod_eq_emod_of_nonneg (by omega)]; omega
              have hi16 : i / 16 < 16 := by omega
              have hj16 : i % 16 < 16 := Nat.mod_lt _ (by omega)
              generalize hd : i / 16 = d at *
              generalize he : i % 16 = e' at *
              obtain ⟨x1, hx1e, hx1⟩ : ∃ x1 : UInt8, UInt8.ofNat (97 + d) = x1 ∧ (x1.toNat : Int) = 97 + (d : Int) := ⟨_, rfl, by simp; omega⟩
              obtain ⟨x2, hx2e, hx2⟩ : ∃ x2 : UInt8, UInt8.ofNat (97 + e') = x2 ∧ (x2.toNat : Int) = 97 + (e' : Int) := ⟨_, rfl, by simp; omega⟩
              have hentM : Hid (entM i = ⟨[47, x1, x2], 3, [5]⟩) := hide (by unfold entM; rw [hd, he, hx1e, hx2e])
              have hconv : (convert 36 9 (.slice (some ⟨wr.heap.size, 0, none⟩) 2 2)).run Tryd.prog (wr.alloc (.cells #[.int .u8 (97 + (d : Int)), .int .u8 (97 + (e' : Int))] 5)) = .ok (.string ⟨#[x1, x2]⟩) (wr.alloc (.cells #[.int .u8 (97 + (d : Int)), .int .u8 (97 + (e' : Int))] 5)) :=
                run_string_rd (P := Tryd.prog) _ Tryd.underlying36 Tryd.underlying5 Tryd.underlying9 (c := 2) (n := 2) (B := wr.heap.size + 1) (A := some ⟨wr.heap.size, 0, none⟩) (l := [x1, x2]) ⟨rfl, by have := Row.list wr (bv [x1, x2]) 5; simpa [bv, hx1, hx2] using this⟩
              have hcat : (⟨#[47]⟩ ++ ⟨#[x1, x2]⟩ : ByteArray) = ⟨#[47, x1, x2]⟩ := by rfl
              clear hd he hx1e hx2e hx1 hx2
              go_upto_region 33 with (fail)
              have hb2 : Below wr.heap.size wr ((wr.alloc (.cells #[.int .u8 (97 + (d : Int)), .int .u8 (97 + (e' : Int))] 5)).alloc (.cells #[.int .u64 5] 22)) := ((Below.refl _ _).alloc (Nat.le_refl _) _).alloc (by simp) _
              have hg4 := HA.out.obl.lt
              have hI : ((wr.alloc (.cells #[.int .u8 (97 + (d : Int)), .int .u8 (97 + (e' : Int))] 5)).alloc (.cells #[.int .u64 5] 22)).ownsRow (g4 + 1) 22 1 (.slice (some ⟨wr.heap.size + 1, 0, none⟩) 1 1) 1 (nv .u64 [5]) := by
                have := own_list (w := wr.alloc (.cells #[.int .u8 (97 + (d : Int)), .int .u8 (97 + (e' : Int))] 5)) (base := g4 + 1) [.int .u64 5] 22 (by simp; omega) (by simp)
                simpa [nv] using this
              have hrow := (own_keep HA.out.nms.own.1 (keep_below hb2)).alloc (.cells #[.string ⟨#[47, x1, x2]⟩, .int .i64 3, .slice (some ⟨wr.heap.size + 1, 0, none⟩) 1 1] 51)
              have hthree := Row.three ((wr.alloc (.cells #[.int .u8 (97 + (d : Int)), .int .u8 (97 + (e' : Int))] 5)).alloc (.cells #[.int .u64 5] 22)) ⟨[47, x1, x2], 3, ⟨some ⟨wr.heap.size + 1, 0, none⟩, 1, 1⟩⟩ 51
              rw [show ((wr.alloc (.cells #[.int .u8 (97 + (d : Int)), .int .u8 (97 + (e' : Int))] 5)).alloc (.cells #[.int .u64 5] 22)).heap.size = wr.heap.size + 1 + 1 by simp] at hthree
              have hbsz : g4 + 1 ≤ (((wr.alloc (.cells #[.int .u8 (97 + (d : Int)), .int .u8 (97 + (e' : Int))] 5)).alloc (.cells #[.int .u64 5] 22)).alloc (.cells #[.string ⟨#[47, x1, x2]⟩, .int .i64 3, .slice (some ⟨wr.heap.size + 1, 0, none⟩) 1 1] 51)).heap.size := by simp; omega
              have hO3 := (HA.out.obl.below hb2 hg4).alloc (.cells #[.string ⟨#[47, x1, x2]⟩, .int .i64 3, .slice (some ⟨wr.heap.size + 1, 0, none⟩) 1 1] 51)
              have hB3 := ((HA.out.bel.trans (hb2.mono HA.out.bel.size)).alloc (by have := HA.out.bel.size; simp; omega) (.cells #[.string ⟨#[47, x1, x2]⟩, .int .i64 3, .slice (some ⟨wr.heap.size + 1, 0, none⟩) 1 1] 51))
              obtain ⟨wn, hwn⟩ : ∃ wn, ((wr.alloc (.cells #[.int .u8 (97 + (d : Int)), .int .u8 (97 + (e' : Int))] 5)).alloc (.cells #[.int .u64 5] 22)).alloc (.cells #[.string ⟨#[47, x1, x2]⟩, .int .i64 3, .slice (some ⟨wr.heap.size + 1, 0, none⟩) 1 1] 51) = wn := ⟨_, rfl⟩
              rw [hwn] at hrow hbsz hO3 hB3
              change Row _ _ 3 _ 1 [.string ⟨#[47, x1, x2]⟩, .int .i64 3, .slice (some ⟨wr.heap.size + 1, 0, none⟩) 1 1] at hthree
              rw [hwn] at hthree
              have HI := hide hI
              have HB2 := hide hb2
              have HB3 := hide hB3
              clear hI hb2 hB3
              go_wp2_with (first | (at_builtin; refine wpList_append_rd rfl _ _ _ rfl nmTy (base := g4 + 1) rfl hrow rfl hthree (by simp [Value.oneCell']) (by unfold maxLen; omega) (by omega) hbsz ?_; intro A5 c5 w5 hown5 hg5 hat5; rw [show nmv l4 ++ [.string ⟨#[47, x1, x2]⟩, .int .i64 3, .slice (some ⟨wr.heap.size + 1, 0, none⟩) 1 1] = nmv (l4 ++ [⟨[47, x1, x2], 3, ⟨some ⟨wr.heap.size + 1, 0, none⟩, 1, 1⟩⟩]) from nmv_snoc l4 ⟨[47, x1, x2], 3, ⟨some ⟨wr.heap.size + 1, 0, none⟩, 1, 1⟩⟩] at hown5; have O5 := hO3.grown hg5 (fun e => by have := (hrow.lt g4 (by rw [ownBlock_slice]; exact e.symm)).1; omega); have HB5 := hide (HB3.out.trans ((below_own (Below.refl (g4 + 1) wn) hrow hg5 hbsz).mono (by have := HG.out; omega))); rw [← hwn] at hg5; have HM5 := hide (HA.out.nms.more HB2.out (x := ⟨[47, x1, x2], 3, ⟨some ⟨wr.heap.size + 1, 0, none⟩, 1, 1⟩⟩) ⟨by simp, by simp⟩ HI.out _ hown5 hg5); have z35 := O5.free 35; have k35 : w5.cell? ⟨g4, 35, none⟩ = some (.slice A4 i c4) := O5.cell 35; have O6 := hide (O5.put 35 (.slice A5 (i + 1) c5)); have HM6 := hide (HM5.out.keep (keep_put (m := g4) (Nat.lt_succ_self g4) 35 (.slice A5 (i + 1) c5)) (by simp [World.setCell])); have HB6 := hide (HB5.out.setCell (p := ⟨g4, 35, none⟩) HG.out (.slice A5 (i + 1) c5)); clear O5 HB5 HM5 hown5 hg5 hat5 hrow hthree hO3 HB3 HI HB2 hwn hbsz) | fail)
              have HA6 : Hid (ManyAt wt (w5.setCell ⟨g4, 35, none⟩ (.slice A5 (i + 1) c5)) g4 (i + 1) A5 c5 (l4 ++ [⟨[47, x1, x2], 3, ⟨some ⟨wr.heap.size + 1, 0, none⟩, 1, 1⟩⟩])) := hide ⟨O6.out, by have := HM6.out; rw [show (⟨[47, x1, x2], 3, [5]⟩ : Nx.Ent) = entM i from hentM.out.symm, manyE_snoc] at this; exact this, HB6.out⟩
              go_roundw
              case rel => exact ⟨i + 1, c5, A5, _, by go_num, by omega, HA6⟩
              case measure => simp [intOf]; omega
            · obtain rfl : i = 256 := by omega
              go_wp2_with fail
              go_meet
              case rel => exact ⟨_, _, _, rfl, HA⟩
        case rest =>
          clear HA
          obtain ⟨c4, A4, l4, rfl, HA⟩ := hcut
          generalize wc = wv at *
          refine ‹∀ (a : Act) (w : World), Code.wp _ _ _ a w → _› _ _ ?_
          have hT1 := HT.out.later HA.out.bel
          have HT1 := hide hT1
          have HB1 := hide (HB8.out.trans (hT1.bel.mono hWm))
          obtain ⟨wi, hwi⟩ : ∃ wi, wv.alloc (.cells #[.int .u64 6] 22) = wi := ⟨_, rfl⟩
          have hbi : Below wv.heap.size wv wi := hwi ▸ (Below.refl _ _).alloc (Nat.le_refl _) _
          have hsi : wi.heap.size = wv.heap.size + 1 := by rw [← hwi]; exact World.size_alloc _ _
          have HI : Hid (Nums .u64 wi wi.heap.size (some ⟨wv.heap.size, 0, none⟩) 1 [6]) := hide ⟨rfl, by rw [hsi, ← hwi]; exact Row.list wv [.int .u64 6] 22⟩
          have O4 := HA.out.obl
          have HN4 := hide (HA.out.nms.later hbi)
          have O4i := O4.below hbi O4.lt
          have HT2 := hide (HT1.out.later hbi)
          have HB2 := hide (HB1.out.trans (hbi.mono HB1.out.size))
          clear hbi hsi hT1 HT HA HT1 HB1
          go_wp2_with (first | (refine load_ob rfl _ rfl rfl O4 ?_) | fail)
          refine (nxAdd_any (Ob.dir ⟨A4, 256, c4⟩) ⟨[47, 122, 122, 122], 3, ⟨some ⟨wv.heap.size, 0, none⟩, 1, 1⟩⟩ l4 (manyE 256) [6] _ HN4.out.ents HN4.out.short (HM.out.below HB2.out) ⟨by simp, by simp⟩ HI.out).mono ?_
          rintro e w13 hdir
          have h9 := many_addErr ⟨A4, 256, c4⟩ rfl
          rcases hdir with ⟨h0, _⟩ | ⟨_, rfl, hb13⟩
          · exact absurd (h9.symm.trans h0) (by decide)
          rw [show (Ob.dir ⟨A4, 256, c4⟩).addErr (manyE 256) _ = 9 from h9]
          obtain ⟨w14, hw14, g5, hg5, w15, hw15, OZ5, _, hb15, hs15⟩ := laid_ob Ob.zero w13
          have hbt := hb13.trans (hb15.mono hb13.size)
          have O5 := O4i.below hbt O4i.lt
          have HN5 := hide (HN4.out.later hbt)
          have HT5 := hide (HT2.out.later hbt)
          have HB5 := hide (HB2.out.trans (hbt.mono HB2.out.size))
          clear hb13 hb15 hbt hwi HI O4 O4i HN4 HT2 HB2 h9
          go_wp2_with (first | (refine store_ob rfl _ _ rfl rfl (c := Ob.zero) rfl OZ5 rfl ?_; rw [hw15]) | fail)
          clear OZ5 hw14 hw15 hg5 hs15
          obtain ⟨nk, rfl⟩ := Int.eq_ofNat_of_zero_le hn.1
          obtain ⟨k, hk, hk256⟩ : ∃ k : Nat, (nk : Int) % 256 = (k : Int) ∧ k < 256 := ⟨nk % 256, by omega, Nat.mod_lt _ (by omega)⟩
          have hk0 : (0 : Int) ≤ (k : Int) := by omega
          have hk1 : (k : Int) < 256 := by omega
          have hwk : IntKind.i64.wrap (nk : Int) = (nk : Int) := by rw [IntKind.wrap_i64]; omega
          have hkt : (nk : Int).tmod 256 = (k : Int) := by rw [Int.tmod_eq_emod_of_nonneg (by omega)]; exact hk
          obtain ⟨b4, f4, hl4, rfl, hb4, p4, -⟩ := HN5.out.own.nms.at_ (i := k) hk256
          have hE4 := (HN5.out.has.2 k hl4 (by rw [manyE_length]; exact hk256)).1
          rw [manyE_at] at hE4
          obtain ⟨pp, hpp⟩ : ∃ pp : ByteArray, (⟨l4[k].path.toArray⟩ : ByteArray) = pp := ⟨_, rfl⟩
          have hpl : pp.data.toList = (entM k).path := by rw [← hpp, ← hE4]
          rw [hpp] at p4
          have HPL := hide hpl
          have HK256 := hide hk256
          clear hpp hE4 hl4 hpl hk256
          go_upto_region 35 with (fail)
          go_cut [24, 25] from 169 to 181 (fun s24 s25 wx => ∃ g6, s24 = .pointer (some ⟨g6, 0, none⟩) ∧ s25 = .int .i64 0 ∧ Hid (TwoAt w8 wx m gp A c L L.length) ∧ Hid (Below W.heap.size W wx))
          case first =>
            refine region_B (by kernel_rfl) w15.drew.heap.size ?_
            replace O5 : Obl w15.drew g4 41 (oc (Ob.dir ⟨some ⟨b4, f4, none⟩, 256, c4⟩)) := O5
            replace HT5 : Hid (TwoAt w8 w15.drew m gp A c L L.length) := hide (HT5.out.drews 1)
            replace HB5 : Hid (Below W.heap.size W w15.drew) := hide ⟨HB5.out.os, HB5.out.tape, HB5.out.output, HB5.out.size, HB5.out.block⟩
            replace HN5 : Hid (NmOutE w15.drew (g4 + 1) (some ⟨b4, f4, none⟩) 256 c4 l4 (manyE 256)) := hide (HN5.out.keep (fun _ _ _ => rfl) (Nat.le_refl _))
            replace p4 : w15.drew.cell? ⟨b4, f4 + k * 3, none⟩ = some (.string pp) := p4
            replace hb4 : b4 < w15.drew.heap.size := hb4
            generalize w15.drew = u0 at *
            have lO := O5.lt
            have c35 : u0.cell? ⟨g4, 35, none⟩ = some (.slice (some ⟨b4, f4, none⟩) 256 c4) := O5.cell 35
            refine takeB 0 rfl (by kernel_rfl) (fun _ _ _ h => h) (by rfl) (by intro w' hg; exact exec_load_ob rfl rfl (O5.below hg lO)) ?_
            refine takeB 1 rfl (by kernel_rfl) (fun _ _ _ h => h) (by rfl) (by intro w' hg; go_simp; try with_reducible rfl) ?_
            refine takeB 2 rfl (by kernel_rfl) (fun _ _ _ h => h) (by rfl) (by intro w' hg; have g1 := (hg.cell (p := ⟨g4, 35, none⟩) lO).trans c35; go_simp; try with_reducible rfl) ?_
            refine takeB 3 rfl (by kernel_rfl) (fun _ _ _ h => h) (by rfl) (by intro w' hg; go_simp; try with_reducible rfl) ?_
            refine takeB 4 rfl (by kernel_rfl) (fun _ _ _ h => h) (by rfl) (by intro w' hg; go_simp; try with_reducible rfl) ?_
            refine takeB 5 rfl (by kernel_rfl) (fun _ _ _ h => h) (by rfl) (by intro w' hg; go_simp; try with_reducible rfl) ?_
            refine takeB 6 rfl (by kernel_rfl) (fun _ _ _ h => h) (by rfl) (by intro w' hg; go_simp; try with_reducible rfl) ?_
            refine takeB 7 rfl (by kernel_rfl) (fun _ _ _ h => h) (by rfl) (by intro w' hg; go_simp; try with_reducible rfl) ?_
            refine takeB 8 rfl (by kernel_rfl) (fun _ _ _ h => h) (by rfl) (by intro w' hg; have g1 := (hg.cell (p := ⟨b4, f4 + k * 3, none⟩) hb4).trans p4; go_simp; try with_reducible rfl) ?_
            go_simp
            refine twoB 9 13 rfl rfl (by kernel_rfl) (by rfl) (by rfl) ?_ ?_
            · intro K hK
              go_simp
              refine (nxRen_any (Ob.dir ⟨some ⟨b4, f4, none⟩, 256, c4⟩) pp ⟨#[47, 122, 122, 122]⟩ l4 (manyE 256) _ HN5.out.ents HN5.out.short (HM.out.below HB5.out) (by show 4 ≤ 9223372036854775807; omega)).mono ?_
              rintro e y1 hdir
              have h0 : (Ob.dir ⟨some ⟨b4, f4, none⟩, 256, c4⟩).renErr (manyE 256) pp.data.toList [47, 122, 122, 122] = 0 := by
                rw [HPL.out]
                exact (if_pos (dir_names (s := ⟨some ⟨b4, f4, none⟩, 256, c4⟩) (by show 256 ≤ 256; omega) manyE_space)).trans (many_renErr HK256.out)
              rw [show (⟨#[47, 122, 122, 122]⟩ : ByteArray).data.toList = [47, 122, 122, 122] from rfl, h0] at hdir
              obtain ⟨A6, n6, c6, l6, rfl, _, hb6⟩ := hdir.ok
              clear hdir h0
              refine hK _ _ hb6 ?_
              clear hK K
              obtain ⟨y2, hy2, g6, hg6, y3, hy3, OZ6, _, hb8, _⟩ := laid_ob (Ob.dir ⟨A6, n6, c6⟩) y1
              have hs6 := hb6.size
              have hbt := hb6.trans (hb8.mono hs6)
              have HT6 := hide (HT5.out.later hbt)
              have HB6 := hide (HB5.out.trans (hbt.mono HB5.out.size))
              have HA8 := hide (show Below u0.heap.size y1 y2 from hy2 ▸ (Below.refl _ _).alloc hs6 _)
              have HA9 := hide (show Below u0.heap.size y2 y3 from hy3 ▸ below_row (Below.refl _ _) (by omega) _)
              clear hb6 hb8 hbt
              refine takeB 10 rfl (by kernel_rfl) (fun _ _ _ h => h) (by rfl) (by intro w' hg; go_simp; try with_reducible rfl) ?_
              refine takeB 11 rfl (by kernel_rfl) (fun _ _ _ h => h) (by rfl) (by intro w' hg; go_simp; try with_reducible rfl) ?_
              refine takeB 12 rfl (by kernel_rfl) (fun _ _ _ h => h) (by rfl) (by intro w' hg; go_simp; try with_reducible rfl) ?_
              refine onlyB 13 rfl (by kernel_rfl) (by rfl) ?_
              intro K hK
              go_simp
              refine hK _ _ HA8.out ?_
              clear hK K
              go_simp
              refine onlyB 14 rfl (by kernel_rfl) (by rfl) ?_
              intro K hK
              refine wp_store_dir rfl rfl (c := Ob.dir ⟨A6, n6, c6⟩) rfl OZ6 rfl ?_
              rw [hy3]
              refine hK _ _ HA9.out ?_
              clear hK K
              refine takeB 15 rfl (by kernel_rfl) (fun _ _ _ h => h) (by rfl) (by intro w' hg; go_simp; try with_reducible rfl) ?_
              refine doneB (by kernel_rfl) ?_
              go_simp
              go_wp2_with fail
              go_meet
              case rel => exact ⟨g6, rfl, rfl, HT6, HB6⟩
            · intro K hK
              obtain ⟨y2, hy2, OZ, hb2, hs2⟩ := start_z u0
              have HN6 := hide (HN5.out.later hb2)
              have HT2 := hide (HT5.out.later hb2)
              have HB2 := hide (HB5.out.trans (hb2.mono HB5.out.size))
              go_simp
              refine hK _ _ hb2 ?_
              clear hK K
              refine onlyB 9 rfl (by kernel_rfl) (by rfl) ?_
              intro K hK
              go_simp
              refine (nxRen_any (Ob.dir ⟨some ⟨b4, f4, none⟩, 256, c4⟩) pp ⟨#[47, 122, 122, 122]⟩ l4 (manyE 256) _ HN6.out.ents HN6.out.short (HM.out.below HB2.out) (by show 4 ≤ 9223372036854775807; omega)).mono ?_
              rintro e y1 hdir
              have h0 : (Ob.dir ⟨some ⟨b4, f4, none⟩, 256, c4⟩).renErr (manyE 256) pp.data.toList [47, 122, 122, 122] = 0 := by
                rw [HPL.out]
                exact (if_pos (dir_names (s := ⟨some ⟨b4, f4, none⟩, 256, c4⟩) (by show 256 ≤ 256; omega) manyE_space)).trans (many_renErr HK256.out)
              rw [show (⟨#[47, 122, 122, 122]⟩ : ByteArray).data.toList = [47, 122, 122, 122] from rfl, h0] at hdir
              obtain ⟨A6, n6, c6, l6, rfl, _, hb6⟩ := hdir.ok
              clear hdir h0
              refine hK _ _ (hb6.mono (by omega)) ?_
              clear hK K
              have O1 := OZ.below hb6 OZ.lt
              have HT6 := hide (HT2.out.later hb6)
              have HB6 := hide (HB2.out.trans (hb6.mono HB2.out.size))
              have hs6 := hb6.size
              have hW0 : W.heap.size ≤ u0.heap.size := HB5.out.size
              have hm0 : m + 2 ≤ u0.heap.size := by have := HT5.out.bel.size; omega
              obtain ⟨y3, hy3⟩ : ∃ y3, y1.setRow u0.heap.size (oc (Ob.dir ⟨A6, n6, c6⟩)) = y3 := ⟨_, rfl⟩
              have HA9 := hide (show Below u0.heap.size y1 y3 from hy3 ▸ below_row (Below.refl _ _) (Nat.le_refl _) _)
              have HT7 : Hid (TwoAt w8 y3 m gp A c L L.length) := hide (HT5.out.later ((hb2.trans (hb6.mono (by omega))).trans HA9.out))
              have HB7 := hide (HB6.out.trans (HA9.out.mono hW0))
              clear hb6 hb2 OZ hs2 HT6 HB6
              refine takeB 10 rfl (by kernel_rfl) (fun _ _ _ h => h) (by rfl) (by intro w' hg; go_simp; try with_reducible rfl) ?_
              refine takeB 11 rfl (by kernel_rfl) (fun _ _ _ h => h) (by rfl) (by intro w' hg; go_simp; try with_reducible rfl) ?_
              refine takeB 12 rfl (by kernel_rfl) (fun _ _ _ h => h) (by rfl) (by intro w' hg; go_simp; try with_reducible rfl) ?_
              go_simp
              refine onlyB 14 rfl (by kernel_rfl) (by rfl) ?_
              intro K hK
              refine wp_store_dir rfl rfl (c := Ob.dir ⟨A6, n6, c6⟩) rfl O1 rfl ?_
              rw [hy3]
              refine hK _ _ HA9.out ?_
              clear hK K
              refine takeB 15 rfl (by kernel_rfl) (fun _ _ _ h => h) (by rfl) (by intro w' hg; go_simp; try with_reducible rfl) ?_
              refine doneB (by kernel_rfl) ?_
              go_simp
              go_wp2_with fail
              go_meet
              case rel => exact ⟨u0.heap.size, rfl, rfl, HT7, HB7⟩
          case rest =>
            clear HT5 HB5 HN5 O5 p4 hb4
            obtain ⟨g6, rfl, rfl, HT, HB⟩ := hcut
            generalize wc = wz at *
            refine ‹∀ (a : Act) (w : World), Code.wp _ _ _ a w → _› _ _ ?_
            obtain ⟨uA, un, uc, ul, uO, uE⟩ := HT.out.up
            obtain ⟨dA, dn, dc, dl, dO, dE⟩ := HT.out.down
            have HU := hide uE
            have HD := hide dE
            have hE : adds L.reverse = adds L := adds_rev HS8.out HON.out
            rw [List.take_length] at HU
            rw [← List.length_reverse, List.take_length, hE] at HD
            have hSp := adds_space HS8.out HON.out
            have hun : un = L.length := by
              have h1 := HU.out.has.1
              have h2 := own_nmv HU.out.own.1
              rw [adds_length] at h1
              omega
            have hdn : dn = L.length := by
              have h1 := HD.out.has.1
              have h2 := own_nmv HD.out.own.1
              rw [adds_length] at h1
              omega
            have D1 : DirAt wz wz.heap.size m ⟨uA, un, uc⟩ ul (adds L) := ⟨uO, Nat.le_refl _, HU.out.ents, HU.out.short, hSp, by show un ≤ 256; omega⟩
            have D2 : DirAt wz wz.heap.size (m + 1) ⟨dA, dn, dc⟩ dl (adds L) := ⟨dO, Nat.le_refl _, HD.out.ents, HD.out.short, hSp, by show dn ≤ 256; omega⟩
            have HD1 := hide D1
            have HD2 := hide D2
            subst hun
            clear uE dE D1 D2 hE hSp hdn
            go_wp2_with (first | (refine load_ob rfl _ rfl rfl uO ?_) | (refine load_ob rfl _ rfl rfl dO ?_) | (go_at_call 23; refine (dirSame HD1.out HD2.out).mono ?_; rintro e wy ⟨rfl, hby⟩; have c35 : wy.cell? ⟨m, 35, none⟩ = some (.slice uA L.length uc) := (hby.cell (p := ⟨m, 35, none⟩) uO.lt).trans (uO.cell 35)) | fail)
            go_ret
            exact ⟨rfl, HB.out.trans (hby.mono HB.out.size)⟩
end Go.Proofs.YtejhnfeligifgaaDoor
