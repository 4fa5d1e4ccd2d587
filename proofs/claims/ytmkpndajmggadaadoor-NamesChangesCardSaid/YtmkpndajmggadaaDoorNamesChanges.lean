/- Layer 9: name spaces with an entry more, or with another path for one, as the reference has them (NamesChanges): the walk. -/
import Derived.Test.YtmkpndajmggadaaDoorNxBoth
namespace Go.Proofs.YtmkpndajmggadaaDoor
open Go.RowKit

/-- Two objects in block gs, the entry in its block, the dice in block d. -/
structure ChAt (W w : World) (d gs : Nat) (y : Nm) (a b : Ob) : Prop where
  ob : Obl w gs 41 (ocl a ++ ocl b).toArray
  able : ∀ x ∈ [a, b], Named w d x
  nm : Obl w (W.heap.size + 1) 51 (nc y)
  dice : Dice w d d
  bel : Below W.heap.size W w
  apart : d < gs ∧ W.heap.size + 1 < d
section
variable {W w w' : World} {d gs : Nat} {y : Nm} {a b : Ob}
theorem ChAt.below (h : ChAt W w d gs y a b) (hb : Below w.heap.size w w') : ChAt W w' d gs y a b :=
  ⟨h.ob.below hb h.ob.lt, fun x hx => (h.able x hx).below hb (Nat.le_of_lt h.dice.lt), h.nm.below hb h.nm.lt, h.dice.below hb, h.bel.trans (hb.mono h.bel.size), h.apart⟩
theorem ChAt.bels (h : ChAt W w d gs y a b) (hB : Bel w.heap.size d w w') (hD : Dice w' d d) : ChAt W w' d gs y a b :=
  ⟨hB.obl' h.ob (by have := h.apart; omega), fun x hx => (h.able x hx).bel hB (Nat.le_of_lt h.dice.lt), hB.obl' h.nm (by have := h.apart; omega), hD, h.bel.trans (hB.below h.bel.size (by have := h.apart; omega)), h.apart⟩
theorem ChAt.le (h : ChAt W w d gs y a b) : d ≤ w.heap.size := Nat.le_of_lt h.dice.lt
end
/-- What one side left, as long as it stays. -/
def SideP (w : World) (a : Ob) (r : Int) (F : List Nx.Ent) : Prop := (r = 0 ∧ ∃ s l, a = Ob.dir s ∧ Ents w w.heap.size s.A s.n l F) ∨ (r ≠ 0 ∧ a = Ob.zero)
theorem SideP.below {w w' : World} {a : Ob} {r : Int} {F : List Nx.Ent} (h : SideP w a r F) (hb : Below w.heap.size w w') : SideP w' a r F := by
  rcases h with ⟨h0, s, l, he, hE⟩ | h
  · exact .inl ⟨h0, s, l, he, (hE.below hb).mono hb.size⟩
  · exact .inr h
def SideR (w : World) (o b : Ob) (r : Int) (F : List Nx.Ent) : Prop := (r = 0 ∧ ∃ s l, b = { o with names := s } ∧ Ents w w.heap.size s.A s.n l F) ∨ (r ≠ 0 ∧ b = Ob.zero)
theorem SideR.below {w w' : World} {o b : Ob} {r : Int} {F : List Nx.Ent} (h : SideR w o b r F) (hb : Below w.heap.size w w') : SideR w' o b r F := by
  rcases h with ⟨h0, s, l, he, hE⟩ | h
  · exact .inl ⟨h0, s, l, he, (hE.below hb).mono hb.size⟩
  · exact .inr h
theorem known_size {w : World} {g : Nat} {t : TypeId} (h : Obl w g t (sv pathsL).toArray) {k : Nat} (hk : k < 8) : ∃ s : ByteArray, w.cell? ⟨g, k, none⟩ = some (.string s) ∧ s.size ≤ 1000 := by
  have hl : k < pathsL.length := hk
  refine ⟨_, by rw [h.cell, List.getElem?_toArray, sv_at hl], ?_⟩
  have : ∀ x ∈ pathsL, x.length ≤ 1000 := by decide
  rw [ba_size]
  exact this _ (List.getElem_mem hl)
/-- A pair of strings in a new block. -/
theorem start_pair (w : World) (s t : ByteArray) : ∃ w1, w.alloc (.cells #[.string ⟨#[]⟩, .string ⟨#[]⟩] 61) = w1 ∧ ∃ g, w.heap.size = g ∧ ∃ w2, w1.setRow g #[.string s, .string t] = w2 ∧ Obl w1 g 61 #[.string ⟨#[]⟩, .string ⟨#[]⟩] ∧ Obl w2 g 61 #[.string s, .string t] ∧ Below g w w2 ∧ w2.heap.size = g + 1 := by
  have O1 := Obl.make w 61 #[.string ⟨#[]⟩, .string ⟨#[]⟩]
  exact ⟨_, rfl, _, rfl, _, rfl, O1, O1.row_same _, below_row ((Below.refl _ _).alloc (Nat.le_refl _) _) (Nat.le_refl _) _, by simp [World.setRow]⟩
theorem pairSize : (Tryd.prog.info? 61).map (·.size) = some 2 := by kernel_rfl
theorem store_pair {ops : Array Oper} {rest : List Oper} {o : Oper} {a : Act} {w : World} {Q : Exit → Act → World → Prop} (hgd : o.guard = none) (x y : Operand) (ho : o.op = .store 61 x y) {g : Nat} (hx : a.eval x = .pointer (some ⟨g, 0, none⟩)) {s t : ByteArray} (hy : a.eval y = .agg #[.string s, .string t]) {old : Array Value} {ty : TypeId} (h : Obl w g ty old) (hold : old.size = 2)
    (hK : wpList Tryd.prog ops Q rest (a.put o.dst undef) (w.setRow g #[.string s, .string t])) : wpList Tryd.prog ops Q (o :: rest) a w :=
  wpList_store_row hgd _ x y ho g #[.string s, .string t] hx hy ty old h pairSize hold (by simp [Value.oneCell']) hK
theorem exec_load_pair {o : Oper} {act : Act} {w : World} {p : Operand} (ho : o.op = .load 61 p) {g k : Nat} (hp : act.eval p = .pointer (some ⟨g, k, none⟩)) {s t : ByteArray} (h0 : w.cell? ⟨g, k, none⟩ = some (.string s)) (h1 : w.cell? ⟨g, k + 1, none⟩ = some (.string t)) :
    (execOp act.eval o).run Tryd.prog w = .ok (.value (.agg #[.string s, .string t])) w := by
  have hr := run_loadVar_mid (P := Tryd.prog) w g k 61 [.string s, .string t] _ (fun j v hv => by
    rcases j with _ | _ | j
    · simp only [List.getElem?_cons_zero, Option.some.injEq] at hv; subst hv; exact h0
    · simp only [List.getElem?_cons_succ, List.getElem?_cons_zero, Option.some.injEq] at hv; subst hv; exact h1
    · simp at hv) Tryd.underlying61 rfl pairSize
  unfold execOp
  simp only [ho, hp, Instr.loadAt, Instr.sureAddr, Sem.run_bind, Sem.run_pure, Result.andThen_ok, hr]
theorem built_pair (s t : ByteArray) : Tryd.prog.built 61 [(0, .string s), (1, .string t)] = some #[.string s, .string t] := by kernel_rfl
set_option maxRecDepth 100000 in
set_option maxHeartbeats 16000000 in
theorem namesChanges_any (o : Ob) (l : List Nm) (strs : List (List UInt8)) (S : Option Addr) (q r : Nat) (bs : List UInt8) (y : Nm) (I : List Int) (p t : ByteArray) (W : World) (hl : Nms W W.heap.size o.names.A o.names.n l) (hS : Strs W W.heap.size o.strs.A o.strs.n strs) (hf : Fits o l strs)
    (h : Bytes W W.heap.size S q bs) (hq : q ≤ r ∧ r ≤ 9223372036854775807) (hI : Nums .u64 W W.heap.size y.ids.A y.ids.n I) (hy : y.path.length ≤ 9223372036854775807 ∧ y.ids.n ≤ 9223372036854775807) (hp : p.size ≤ 9223372036854775807) (ht : t.size ≤ 9223372036854775807) (HM0 : Mx W) :
    Calls Tryd.prog 4 #[.agg (oc o), .slice S q r, .agg (nc y), .string p, .string t] W (BoolPost true W) := by
  obtain ⟨w0, hw, O, OY, hb, hs⟩ : ∃ w0, (W.alloc (.cells (oc o) 41)).alloc (.cells (nc y) 51) = w0 ∧ Obl w0 W.heap.size 41 (oc o) ∧ Obl w0 (W.heap.size + 1) 51 (nc y) ∧ Below W.heap.size W w0 ∧ w0.heap.size = W.heap.size + 2 := by
    refine ⟨_, rfl, (Obl.make W _ _).alloc _, ?_, ((Below.refl _ _).alloc (Nat.le_refl _) _).alloc (by simp) _, by simp⟩
    have := Obl.make (W.alloc (.cells (oc o) 41)) 51 (nc y)
    rwa [World.size_alloc] at this
  have HN := hide hl
  have HST := hide hS
  have HF := hide hf
  have HBY := hide h
  have HQ := hide hq
  have HI := hide hI
  have HPT := hide (And.intro hp ht)
  have HM := hide HM0
  have HB := hide hb
  have hy1 := hy.1
  have hy2 := hy.2
  clear hl hS hf h hq hb hs HM0 hI hy
  go_enter Tryd.func4, Tryd.ntmps4
  try dsimp only [List.append]
  go_wp2_with fail
  refine (nxSane_any _ (HM.out.below HB.out)).mono ?_
  rintro e w1 ⟨rfl, hb1⟩
  replace O := O.below hb1 O.lt
  replace OY := OY.below hb1 OY.lt
  replace HB := hide (HB.out.trans (hb1.mono HB.out.size))
  clear hb1 hw
  go_wp2_with (first | (refine load_ob rfl _ rfl rfl O ?_) | fail)
  refine (keepob_kept o l strs _ ((HN.out.below HB.out).mono HB.out.size) ((HST.out.below HB.out).mono HB.out.size) HF.out).mono ?_
  rintro e w2 ⟨bv, rfl, hkept, hb2⟩
  replace O := O.below hb2 O.lt
  replace OY := OY.below hb2 OY.lt
  replace HB := hide (HB.out.trans (hb2.mono HB.out.size))
  clear hb2 HST HF
  cases bv with
  | false =>
    clear hkept
    go_wp2_with fail
    go_ret
    exact ⟨rfl, HB.out⟩
  | true =>
    have HKE := hide (hkept rfl)
    clear hkept
    have c0 : w2.cell? ⟨W.heap.size + 1, 0, none⟩ = some (.string ⟨y.path.toArray⟩) := OY.cell 0
    have c2 : w2.cell? ⟨W.heap.size + 1, 2, none⟩ = some (.slice y.ids.A y.ids.n y.ids.c) := OY.cell 2
    have hys : (⟨y.path.toArray⟩ : ByteArray).size = y.path.length := ba_size _
    obtain ⟨sy, hsy⟩ : ∃ sy : ByteArray, (⟨y.path.toArray⟩ : ByteArray) = sy := ⟨_, rfl⟩
    rw [hsy] at c0 hys
    have hsy9 : sy.size ≤ 9223372036854775807 := by omega
    have hp9 := HPT.out.1
    have ht9 := HPT.out.2
    clear hsy
    by_cases h1 : sy.size ≤ 300
    rotate_left
    · have h1' : (300 : Int) < (sy.size : Int) := by omega
      clear hys
      go_wp2_with fail
      go_ret
      exact ⟨rfl, HB.out⟩
    have HYL : Hid (y.path.length ≤ 300) := hide (by omega)
    clear hys
    have h1' : (sy.size : Int) ≤ 300 := by omega
    by_cases h2 : y.ids.n ≤ 20
    rotate_left
    · have h2' : (20 : Int) < (y.ids.n : Int) := by omega
      go_wp2_with fail
      go_ret
      exact ⟨rfl, HB.out⟩
    have h2' : (y.ids.n : Int) ≤ 20 := by omega
    by_cases h3 : p.size ≤ 300
    rotate_left
    · have h3' : (300 : Int) < (p.size : Int) := by omega
      go_wp2_with fail
      go_ret
      exact ⟨rfl, HB.out⟩
    have h3' : (p.size : Int) ≤ 300 := by omega
    by_cases h4 : t.size ≤ 300
    rotate_left
    · have h4' : (300 : Int) < (t.size : Int) := by omega
      go_wp2_with fail
      go_ret
      exact ⟨rfl, HB.out⟩
    have h4' : (t.size : Int) ≤ 300 := by omega
    have hW2 := OY.lt
    go_wp2_with fail
    refine (new_dice W.heap.size S q r bs _ (HBY.out.belowLe HB.out (Nat.le_refl _)) HB.out.size HQ.out).mono ?_
    rintro e w3 ⟨rfl, hD, hb3, hs3⟩
    replace O := O.below hb3 O.lt
    replace OY := OY.below hb3 OY.lt
    replace HB := hide (HB.out.trans (hb3.mono HB.out.size))
    have HD := hide hD
    obtain ⟨d, hd⟩ : ∃ d, w2.heap.size = d := ⟨_, rfl⟩
    have hdW : W.heap.size + 1 < d := by omega
    rw [hd] at HD ⊢
    clear hb3 hD HBY hW2 hd hs3 c0 c2
    go_wp2_with fail
    refine (names_thrown d d _ HD.out).mono ?_
    rintro e w4 ⟨A2, n2, c2, l2, E2, rfl, hn2, M2, _, _, hD4, hB4⟩
    obtain ⟨o2, ho2⟩ : ∃ o2 : Ob, ({ Ob.zero with id := 1, kind := 10, names := ⟨A2, n2, c2⟩ } : Ob) = o2 := ⟨_, rfl⟩
    rw [ho2]
    have hOl := O.lt
    have hd3 := HD.out.lt
    replace O := hB4.obl' O (by omega)
    replace OY := hB4.obl' OY (by omega)
    have hs4 := hB4.size
    replace HB := hide (HB.out.trans (hB4.below HB.out.size (by omega)))
    obtain ⟨w5, hw5, m, hm, w6, hw6, OZ, OM, hb6, hs6⟩ := laid_ob o2 w4
    have hba := (Below.refl w6.heap.size w6).alloc (Nat.le_refl _) (.cells (ocl o ++ ocl o2).toArray 41)
    have N2 : Named w6 d o2 := by
      rw [← ho2]
      exact ⟨l2, E2, M2.short, by show n2 ≤ 1000; omega, .inr ((M2.weaken (by omega)).later hb6)⟩
    replace HB := hide (HB.out.trans (hb6.mono HB.out.size))
    have N1 : Named w6 d o := by
      obtain ⟨E, hE⟩ := HN.out.ents
      exact ⟨l, E, fun x hx => by have := HKE.out.each x hx; omega, by have := HKE.out.names; omega, .inl ((hE.below HB.out).mono (by omega))⟩
    replace O := O.below hb6 (by omega)
    replace OY := OY.below hb6 (by omega)
    have hD6 := hD4.below hb6
    have HT : Hid (ChAt W (w6.alloc (.cells (ocl o ++ ocl o2).toArray 41)) d w6.heap.size y o o2) := by
      refine hide ⟨Obl.make w6 _ _, fun x hx => ?_, OY.alloc _, hD6.below hba, HB.out.alloc HB.out.size _, by have := hb6.size; omega, hdW⟩
      simp only [List.mem_cons, List.not_mem_nil, or_false] at hx
      rcases hx with rfl | rfl
      · exact N1.below hba (by have := hb6.size; omega)
      · exact N2.below hba (by have := hb6.size; omega)
    clear N1 N2 hba M2 hB4 hD4 hD6 HD HN HKE ho2 hb6 hs6
    go_wp2_with (first | (refine store_ob rfl _ _ rfl rfl (c := o2) rfl OZ rfl ?_; rw [hw6]) | (refine load_ob rfl _ rfl rfl O ?_) | (refine load_ob rfl _ rfl rfl OM ?_) | (refine wpList_slice2 rfl rfl rfl rfl ?_) | fail)
    generalize w6.heap.size = gs at *
    -- loops
    go_loopw [60] (fun s wr => ∃ k : Nat, s = .int .i64 (k : Int) ∧ k ≤ 2 ∧ Hid (ChAt W wr d gs y o o2)) (fun s _ => 2 - (intOf s).toNat)
    case atStart => exact ⟨0, rfl, by omega, HT⟩
    case round =>
      clear HT
      obtain ⟨k, rfl, hk, T⟩ := hrel
      by_cases hlt : k < 2
      · have hlt' : (k : Int) < 2 := by omega
        obtain ⟨x, hx⟩ : ∃ x, [o, o2][k]? = some x := ⟨[o, o2][k], List.getElem?_eq_getElem hlt⟩
        obtain ⟨lx, Ex, hnx⟩ := T.out.able x (List.mem_of_getElem? hx)
        have OT := T.out.ob
        have hle := T.out.le
        obtain ⟨w5, hw5, m, hm, w6, hw6, OZ, OM, hb6, hs6⟩ := laid_ob x wr
        have NX := hide (hnx.below hb6 hle)
        have hdm : d < m := by have := T.out.dice.lt; omega
        replace T := hide (T.out.below hb6)
        clear hb6 hnx hs6 hle
        have hEx : Ex.length ≤ 1000 := by have := (NX.out.all T.out.le).len; have := NX.out.2.1; omega
        have oy := T.out.nm
        go_wp2_with (first | (refine wpList_val (by rfl) (exec_load_two rfl rfl OT hx) ?_) | (refine store_ob rfl _ _ rfl rfl (c := x) rfl OZ rfl ?_; rw [hw6]) | (refine load_ob rfl _ rfl rfl OM ?_) | (refine load_nm rfl _ rfl rfl oy ?_) | fail)
        clear OZ hw5 hw6 OT hx hm oy
        obtain ⟨er, her⟩ : ∃ er, x.addErr Ex ⟨y.path, y.kind, I⟩ = er := ⟨_, rfl⟩
        obtain ⟨Fa, hFa⟩ : ∃ Fa, Nx.insert Ex ⟨y.path, y.kind, I⟩ = Fa := ⟨_, rfl⟩
        have HG : Hid (Good x er Fa) := hide (by rw [← her, ← hFa]; exact good_add x Ex _ hEx)
        have HER := hide (And.intro her hFa)
        clear her hFa
        have HA := (nxAdd_any x y lx Ex I _ (NX.out.all T.out.le) NX.out.1 (HM.out.below T.out.bel) ⟨by have := HYL.out; omega, by omega⟩ ((HI.out.below T.out.bel).mono T.out.bel.size)).mono fun _ _ h => h.prog
        rw [HER.out.1, HER.out.2] at HA
        refine HA.mono ?_
        clear HA
        rintro e w15 ⟨a15, rfl, hb15, hs15⟩
        have SA := hide (show SideP w15 a15 er Fa from hs15)
        have hle := T.out.le
        replace NX := hide (NX.out.below hb15 hle)
        replace OM := OM.below hb15 OM.lt
        replace T := hide (T.out.below hb15)
        clear hle
        clear hb15 hs15
        obtain ⟨v15, hv15, m15, hm15, u15, hu15, OZ, O15, hb15', hs15'⟩ := laid_ob a15 w15
        have hle := T.out.le
        replace NX := hide (NX.out.below hb15' hle)
        replace OM := OM.below hb15' OM.lt
        replace SA := hide (SA.out.below hb15')
        replace T := hide (T.out.below hb15')
        clear hle
        clear hb15' hs15'
        have oy := T.out.nm
        go_wp2_with (first | (refine store_ob rfl _ _ rfl rfl (c := a15) rfl OZ rfl ?_; rw [hu15]) | (refine load_ob rfl _ rfl rfl OM ?_) | (refine load_nm rfl _ rfl rfl oy ?_) | fail)
        clear OZ hv15 hu15 hm15
        have HA := (refAdd_any x y lx Ex I _ (NX.out.all T.out.le) NX.out.1 NX.out.2.1 ⟨by have := HYL.out; omega, by omega⟩ ((HI.out.below T.out.bel).mono T.out.bel.size)).mono fun _ _ h => h.ref
        rw [HER.out.1, HER.out.2] at HA
        refine HA.mono ?_
        clear HA
        rintro e w17 ⟨a17, rfl, hb17, hs17⟩
        have SB := hide (show SideR w17 x a17 er Fa from hs17)
        have hle := T.out.le
        replace NX := hide (NX.out.below hb17 hle)
        replace OM := OM.below hb17 OM.lt
        replace O15 := O15.below hb17 O15.lt
        replace SA := hide (SA.out.below hb17)
        replace T := hide (T.out.below hb17)
        clear hle
        clear hb17 hs17
        obtain ⟨v17, hv17, m17, hm17, u17, hu17, OZ, O17, hb17', hs17'⟩ := laid_ob a17 w17
        have hle := T.out.le
        replace NX := hide (NX.out.below hb17' hle)
        replace OM := OM.below hb17' OM.lt
        replace O15 := O15.below hb17' O15.lt
        replace SA := hide (SA.out.below hb17')
        replace SB := hide (SB.out.below hb17')
        replace T := hide (T.out.below hb17')
        clear hle
        clear hb17' hs17'
        have HP := hide (HG.out.pair SA.out SB.out).same
        have vne : (er != er) = false := by simp
        go_wp2_with (first | (refine store_ob rfl _ _ rfl rfl (c := a17) rfl OZ rfl ?_; rw [hu17]) | (refine wpList_val (by rfl) (exec_load_ob rfl rfl O15) ?_) | (refine wpList_val (by rfl) (exec_load_ob rfl rfl O17) ?_) | fail)
        go_at_call 23
        refine HP.out.mono ?_
        rintro e x17 ⟨rfl, hc17⟩
        clear OZ hv17 hu17 hm17 HP vne SA SB O15 O17
        have hle := T.out.le
        replace NX := hide (NX.out.below hc17 hle)
        replace OM := OM.below hc17 OM.lt
        replace T := hide (T.out.below hc17)
        clear hle
        clear hc17
        clear HG HER oy
        go_wp2_with fail
        refine region_D (by kernel_rfl) x17.drew.heap.size d [] ?_
        have hdr : Below x17.heap.size x17 x17.drew := ⟨rfl, rfl, rfl, Nat.le_refl _, fun _ _ => rfl⟩
        have hle := T.out.le
        replace NX := hide (NX.out.below hdr hle)
        replace OM := OM.below hdr OM.lt
        replace T := hide (T.out.below hdr)
        clear hle
        clear hdr
        generalize x17.drew = z0 at *
        refine takeDX 0 rfl (by kernel_rfl) (fun _ _ _ h => h) (by rfl) (by intro w'; go_simp; try with_reducible rfl) ?_
        refine takeDX 1 rfl (by kernel_rfl) (fun _ _ _ h => h) (by rfl) (by intro w'; go_simp; try with_reducible rfl) ?_
        refine takeDX 4 rfl (by kernel_rfl) (fun _ _ _ h => h) (by rfl) (by intro w'; go_simp; try with_reducible rfl) ?_
        refine takeDX 9 rfl (by kernel_rfl) (fun _ _ _ h => h) (by rfl) (by intro w'; go_simp; try with_reducible rfl) ?_
        refine takeDX 15 rfl (by kernel_rfl) (fun _ _ _ h => h) (by rfl) (by intro w'; go_simp; try with_reducible rfl) ?_
        refine takeDX 19 rfl (by kernel_rfl) (fun _ _ _ h => h) (by rfl) (by intro w'; go_simp; try with_reducible rfl) ?_
        refine takeDX 23 rfl (by kernel_rfl) (fun _ _ _ h => h) (by rfl) (by intro w'; go_simp; try with_reducible rfl) ?_
        refine takeDX 2 rfl (by kernel_rfl) (fun _ _ _ h => h) (by rfl) (by intro w'; exact exec_build rfl (by go_simp; try with_reducible rfl) (built_pair p t)) ?_
        refine onlyD 3 rfl (by kernel_rfl) (by rfl) ?_
        intro K hK
        go_simp
        refine (paths_any _).mono ?_
        rintro e p1 ⟨gp1, rfl, hgp1, hO1, hb1⟩
        refine hK _ _ (fun _ => Bel.of (hb1.mono (by omega))) ?_
        clear hK K
        have hdl := T.out.dice.lt
        have hne1 : gp1 ≠ d := by omega
        have hle := T.out.le
        replace NX := hide (NX.out.below hb1 hle)
        replace OM := OM.below hb1 OM.lt
        replace T := hide (T.out.below hb1)
        clear hle
        have hsz1 := hb1.size
        clear hb1 hgp1 hdl
        refine onlyD 5 rfl (by kernel_rfl) (by rfl) ?_
        intro K hK
        go_simp
        refine (next_dice d d 8 _ T.out.dice (by omega) (by omega)).mono ?_
        rintro e z1 ⟨vi, rfl, hvi, hD, hB⟩
        refine hK _ _ (fun _ => hB.mono (by omega)) ?_
        clear hK K
        have hle := T.out.le
        replace NX := hide (NX.out.bel hB hle)
        replace OM := hB.obl' OM (by omega)
        replace hO1 := hB.obl' hO1 hne1
        replace T := hide (T.out.bels hB hD)
        have hszz1 := hB.size
        clear hD hB hle
        obtain ⟨k1, rfl⟩ := Int.eq_ofNat_of_zero_le hvi.1
        have hk1 : k1 < 8 := by omega
        have hk1' : (k1 : Int) < 8 := by omega
        obtain ⟨s1, hc1, hl1⟩ := known_size hO1 hk1
        have hgl1 := hO1.lt
        clear hvi
        refine raiseD (B' := z1.heap.size) (by omega) _ _ _ _ ?_
        refine takeDX 6 rfl (by kernel_rfl) (fun _ _ _ h => h) (by rfl) (by intro w'; go_simp; try with_reducible rfl) ?_
        refine takeD 7 [7] rfl (by kernel_rfl) (fun _ _ _ h => h) (by rfl) (by intro w' hg; have g0 := (hg.cell (p := ⟨gp1, k1, none⟩) hgl1 hne1).trans hc1; go_simp; try with_reducible rfl) ?_
        clear hc1 hO1
        refine onlyD 8 rfl (by kernel_rfl) (by rfl) ?_
        intro K hK
        go_simp
        refine (paths_any _).mono ?_
        rintro e p2 ⟨gp2, rfl, hgp2, hO2, hb2⟩
        refine hK _ _ (fun _ => Bel.of (hb2.mono (by omega))) ?_
        clear hK K
        have hdl := T.out.dice.lt
        have hne2 : gp2 ≠ d := by omega
        have hle := T.out.le
        replace NX := hide (NX.out.below hb2 hle)
        replace OM := OM.below hb2 OM.lt
        replace T := hide (T.out.below hb2)
        clear hle
        have hsz2 := hb2.size
        clear hb2 hgp2 hdl
        refine onlyD 10 rfl (by kernel_rfl) (by rfl) ?_
        intro K hK
        go_simp
        refine (next_dice d d 8 _ T.out.dice (by omega) (by omega)).mono ?_
        rintro e z2 ⟨vi, rfl, hvi, hD, hB⟩
        refine hK _ _ (fun _ => hB.mono (by omega)) ?_
        clear hK K
        have hle := T.out.le
        replace NX := hide (NX.out.bel hB hle)
        replace OM := hB.obl' OM (by omega)
        replace hO2 := hB.obl' hO2 hne2
        replace T := hide (T.out.bels hB hD)
        have hszz2 := hB.size
        clear hD hB hle
        obtain ⟨k2, rfl⟩ := Int.eq_ofNat_of_zero_le hvi.1
        have hk2 : k2 < 8 := by omega
        have hk2' : (k2 : Int) < 8 := by omega
        obtain ⟨s2, hc2, hl2⟩ := known_size hO2 hk2
        have hgl2 := hO2.lt
        clear hvi
        refine raiseD (B' := z2.heap.size) (by omega) _ _ _ _ ?_
        refine takeDX 11 rfl (by kernel_rfl) (fun _ _ _ h => h) (by rfl) (by intro w'; go_simp; try with_reducible rfl) ?_
        refine takeD 12 [12] rfl (by kernel_rfl) (fun _ _ _ h => h) (by rfl) (by intro w' hg; have g0 := (hg.cell (p := ⟨gp2, k2, none⟩) hgl2 hne2).trans hc2; go_simp; try with_reducible rfl) ?_
        clear hc2 hO2
        refine takeDX 13 rfl (by kernel_rfl) (fun _ _ _ h => h) (by rfl) (by intro w'; exact exec_build rfl (by go_simp; try with_reducible rfl) (built_pair s1 s2)) ?_
        refine onlyD 14 rfl (by kernel_rfl) (by rfl) ?_
        intro K hK
        go_simp
        refine (paths_any _).mono ?_
        rintro e p3 ⟨gp3, rfl, hgp3, hO3, hb3⟩
        refine hK _ _ (fun _ => Bel.of (hb3.mono (by omega))) ?_
        clear hK K
        have hdl := T.out.dice.lt
        have hne3 : gp3 ≠ d := by omega
        have hle := T.out.le
        replace NX := hide (NX.out.below hb3 hle)
        replace OM := OM.below hb3 OM.lt
        replace T := hide (T.out.below hb3)
        clear hle
        have hsz3 := hb3.size
        clear hb3 hgp3 hdl
        refine onlyD 16 rfl (by kernel_rfl) (by rfl) ?_
        intro K hK
        go_simp
        refine (next_dice d d 8 _ T.out.dice (by omega) (by omega)).mono ?_
        rintro e z3 ⟨vi, rfl, hvi, hD, hB⟩
        refine hK _ _ (fun _ => hB.mono (by omega)) ?_
        clear hK K
        have hle := T.out.le
        replace NX := hide (NX.out.bel hB hle)
        replace OM := hB.obl' OM (by omega)
        replace hO3 := hB.obl' hO3 hne3
        replace T := hide (T.out.bels hB hD)
        have hszz3 := hB.size
        clear hD hB hle
        obtain ⟨k3, rfl⟩ := Int.eq_ofNat_of_zero_le hvi.1
        have hk3 : k3 < 8 := by omega
        have hk3' : (k3 : Int) < 8 := by omega
        obtain ⟨s3, hc3, hl3⟩ := known_size hO3 hk3
        have hgl3 := hO3.lt
        clear hvi
        refine raiseD (B' := z3.heap.size) (by omega) _ _ _ _ ?_
        refine takeDX 17 rfl (by kernel_rfl) (fun _ _ _ h => h) (by rfl) (by intro w'; go_simp; try with_reducible rfl) ?_
        refine takeD 18 [18] rfl (by kernel_rfl) (fun _ _ _ h => h) (by rfl) (by intro w' hg; have g0 := (hg.cell (p := ⟨gp3, k3, none⟩) hgl3 hne3).trans hc3; go_simp; try with_reducible rfl) ?_
        clear hc3 hO3
        refine takeDX 20 rfl (by kernel_rfl) (fun _ _ _ h => h) (by rfl) (by intro w'; exact exec_build rfl (by go_simp; try with_reducible rfl) (built_pair s3 t)) ?_
        refine onlyD 21 rfl (by kernel_rfl) (by rfl) ?_
        intro K hK
        go_simp
        have hba : Below z3.heap.size z3 (z3.alloc (.cells #[.string p, .string t, .string s1, .string s2, .string s3, .string t] 61)) := (Below.refl _ _).alloc (Nat.le_refl _) _
        have OQ : Obl (z3.alloc (.cells #[.string p, .string t, .string s1, .string s2, .string s3, .string t] 61)) z3.heap.size 61 #[.string p, .string t, .string s1, .string s2, .string s3, .string t] := Obl.make z3 _ _
        refine hK _ _ (fun _ => Bel.of hba) ?_
        clear hK K
        have hle := T.out.le
        replace NX := hide (NX.out.below hba hle)
        replace OM := OM.below hba OM.lt
        replace T := hide (T.out.below hba)
        clear hle
        clear hba
        generalize z3.alloc (.cells #[.string p, .string t, .string s1, .string s2, .string s3, .string t] 61) = z4 at *
        generalize z3.heap.size = gq at *
        refine takeDX 22 rfl (by kernel_rfl) (fun _ _ _ h => h) (by rfl) (by intro w'; go_simp; try with_reducible rfl) ?_
        refine doneD (by kernel_rfl) ?_
        go_simp
        go_wp2_with fail
        go_loopw [108] (fun s wr => ∃ j : Nat, s = .int .i64 (j : Int) ∧ j ≤ 3 ∧ Hid (ChAt W wr d gs y o o2) ∧ Hid (NamedE wr d x lx Ex) ∧ Obl wr m 41 (oc x) ∧ Obl wr gq 61 #[.string p, .string t, .string s1, .string s2, .string s3, .string t]) (fun s _ => 3 - (intOf s).toNat)
        case atStart => exact ⟨0, rfl, by omega, T, NX, OM, OQ⟩
        case round =>
          clear T NX OM OQ
          obtain ⟨j, rfl, hj, T, NX, OM, OQ⟩ := hrel
          by_cases hj3 : j < 3
          · have hj3' : (j : Int) < 3 := by omega
            obtain ⟨ps, qs, h0, h1, hzp, hzq⟩ : ∃ ps qs : ByteArray, wr.cell? ⟨gq, j * 2, none⟩ = some (.string ps) ∧ wr.cell? ⟨gq, j * 2 + 1, none⟩ = some (.string qs) ∧ ps.size ≤ 9223372036854775807 ∧ qs.size ≤ 9223372036854775807 := by
              obtain rfl | rfl | rfl : j = 0 ∨ j = 1 ∨ j = 2 := by omega
              · exact ⟨p, t, OQ.cell 0, OQ.cell 1, by omega, by omega⟩
              · exact ⟨s1, s2, OQ.cell 2, OQ.cell 3, by omega, by omega⟩
              · exact ⟨s3, t, OQ.cell 4, OQ.cell 5, by omega, by omega⟩
            obtain ⟨v20, hv20, g20, hg20, u20, hu20, OZ, O20, hb20, hs20⟩ := start_pair wr ps qs
            have hxe := hg20.symm ▸ hb20
            have hle := T.out.le
            replace NX := hide (NX.out.below hxe hle)
            replace OM := OM.below hxe OM.lt
            replace OQ := OQ.below hxe OQ.lt
            replace T := hide (T.out.below hxe)
            clear hle
            clear hxe hb20 hs20
            have k0 : u20.cell? ⟨g20, 0, none⟩ = some (.string ps) := O20.cell 0
            have k1 : u20.cell? ⟨g20, 1, none⟩ = some (.string qs) := O20.cell 1
            go_wp2_with (first | (refine wpList_val (by rfl) (exec_load_pair rfl rfl h0 h1) ?_) | (refine store_pair rfl _ _ rfl rfl (s := ps) (t := qs) rfl OZ rfl ?_; rw [hu20]) | (refine load_ob rfl _ rfl rfl OM ?_) | fail)
            clear OZ hv20 hu20 hg20 h0 h1 k0 k1
            obtain ⟨er, her⟩ : ∃ er, x.renErr Ex ps.data.toList qs.data.toList = er := ⟨_, rfl⟩
            obtain ⟨Fa, hFa⟩ : ∃ Fa, Nx.renamed Ex ps.data.toList qs.data.toList = Fa := ⟨_, rfl⟩
            have HG : Hid (Good x er Fa) := hide (by rw [← her, ← hFa]; exact good_ren x Ex _ _ hEx)
            have HER := hide (And.intro her hFa)
            clear her hFa
            have HA := (nxRen_any x ps qs lx Ex _ (NX.out.all T.out.le) NX.out.1 (HM.out.below T.out.bel) hzq).mono fun _ _ h => h.prog
            rw [HER.out.1, HER.out.2] at HA
            refine HA.mono ?_
            clear HA
            rintro e w21 ⟨a21, rfl, hb21, hs21⟩
            have SA := hide (show SideP w21 a21 er Fa from hs21)
            have hle := T.out.le
            replace NX := hide (NX.out.below hb21 hle)
            replace OM := OM.below hb21 OM.lt
            replace OQ := OQ.below hb21 OQ.lt
            replace O20 := O20.below hb21 O20.lt
            replace T := hide (T.out.below hb21)
            clear hle
            clear hb21 hs21
            obtain ⟨v21, hv21, m21, hm21, u21, hu21, OZ, O21, hb21', hs21'⟩ := laid_ob a21 w21
            have hle := T.out.le
            replace NX := hide (NX.out.below hb21' hle)
            replace OM := OM.below hb21' OM.lt
            replace OQ := OQ.below hb21' OQ.lt
            replace O20 := O20.below hb21' O20.lt
            replace SA := hide (SA.out.below hb21')
            replace T := hide (T.out.below hb21')
            clear hle
            clear hb21' hs21'
            have k0 : u21.cell? ⟨g20, 0, none⟩ = some (.string ps) := O20.cell 0
            have k1 : u21.cell? ⟨g20, 1, none⟩ = some (.string qs) := O20.cell 1
            go_wp2_with (first | (refine store_ob rfl _ _ rfl rfl (c := a21) rfl OZ rfl ?_; rw [hu21]) | (refine load_ob rfl _ rfl rfl OM ?_) | fail)
            clear OZ hv21 hu21 hm21
            have HA := (refRen_any x ps qs lx Ex _ (NX.out.all T.out.le) NX.out.1 NX.out.2.1 hzp hzq).mono fun _ _ h => h.ref
            rw [HER.out.1, HER.out.2] at HA
            refine HA.mono ?_
            clear HA
            rintro e w23 ⟨a23, rfl, hb23, hs23⟩
            have SB := hide (show SideR w23 x a23 er Fa from hs23)
            have hle := T.out.le
            replace NX := hide (NX.out.below hb23 hle)
            replace OM := OM.below hb23 OM.lt
            replace OQ := OQ.below hb23 OQ.lt
            replace O20 := O20.below hb23 O20.lt
            replace O21 := O21.below hb23 O21.lt
            replace SA := hide (SA.out.below hb23)
            replace T := hide (T.out.below hb23)
            clear hle
            clear hb23 hs23
            obtain ⟨v23, hv23, m23, hm23, u23, hu23, OZ, O23, hb23', hs23'⟩ := laid_ob a23 w23
            have hle := T.out.le
            replace NX := hide (NX.out.below hb23' hle)
            replace OM := OM.below hb23' OM.lt
            replace OQ := OQ.below hb23' OQ.lt
            replace O20 := O20.below hb23' O20.lt
            replace O21 := O21.below hb23' O21.lt
            replace SA := hide (SA.out.below hb23')
            replace SB := hide (SB.out.below hb23')
            replace T := hide (T.out.below hb23')
            clear hle
            clear hb23' hs23'
            have HP := hide (HG.out.pair SA.out SB.out).same
            have vne : (er != er) = false := by simp
            go_wp2_with (first | (refine store_ob rfl _ _ rfl rfl (c := a23) rfl OZ rfl ?_; rw [hu23]) | (refine wpList_val (by rfl) (exec_load_ob rfl rfl O21) ?_) | (refine wpList_val (by rfl) (exec_load_ob rfl rfl O23) ?_) | fail)
            go_at_call 23
            refine HP.out.mono ?_
            rintro e x23 ⟨rfl, hc23⟩
            clear OZ hv23 hu23 hm23 HP vne SA SB O21 O23
            have hle := T.out.le
            replace NX := hide (NX.out.below hc23 hle)
            replace OM := OM.below hc23 OM.lt
            replace OQ := OQ.below hc23 OQ.lt
            replace O20 := O20.below hc23 O20.lt
            replace T := hide (T.out.below hc23)
            clear hle
            clear hc23
            clear HG HER k0 k1 O20
            go_wp2_with fail
            go_roundw
            case rel => exact ⟨j + 1, by go_num, by omega, T, NX, OM, OQ⟩
            case measure => simp [intOf]; omega
          · obtain rfl : j = 3 := by omega
            go_wp2_with fail
            go_roundw
            case rel => exact ⟨k + 1, by go_num, by omega, T⟩
            case measure => simp [intOf]; omega
      · obtain rfl : k = 2 := by omega
        go_wp2_with fail
        go_ret
        exact ⟨rfl, T.out.bel⟩
end Go.Proofs.YtmkpndajmggadaaDoor
