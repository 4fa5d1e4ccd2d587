/- (exact since round 8: tools/mknmvalid.py wrote the version that left the answer open) The reference of name spaces: Valid: a contract that leaves the answer open (written by tools/mknmvalid.py). -/
import Derived.Test.YtddbohnappogkaaNmEntry
import Derived.Test.YtddbohnappogkaaPgBare
import Derived.Test.YtddbohnappogkaaRegionX
namespace Go.Proofs.Ytddbohnappogkaa
open Go.RowKit

/-- Entries that are short. -/
def Short (l : List Nm) : Prop := ∀ x ∈ l, x.path.length ≤ 1000 ∧ x.ids.n ≤ 1000
section
variable {w : World} {a : Act} {o : Oper}
/-- An entry, out of a row. -/
theorem exec_load_nmid {x : Operand} (ho : o.op = .load 56 x) {g k : Nat} (hx : a.eval x = .pointer (some ⟨g, k, none⟩)) {y : Nm} (h0 : w.cell? ⟨g, k, none⟩ = some (.string ⟨y.path.toArray⟩)) (h1 : w.cell? ⟨g, k + 1, none⟩ = some (.int .i64 y.kind)) (h2 : w.cell? ⟨g, k + 2, none⟩ = some (.slice y.ids.A y.ids.n y.ids.c)) :
    (execOp a.eval o).run Try.prog w = .ok (.value (.agg (nc y))) w := by
  have hr := run_loadVar_mid (P := Try.prog) w g k 56 [.string ⟨y.path.toArray⟩, .int .i64 y.kind, .slice y.ids.A y.ids.n y.ids.c] _ (three_mid (fun j => w.cell? ⟨g, k + j, none⟩) _ _ _ h0 h1 h2) Try.underlying56 rfl nmSize
  unfold execOp
  simp only [ho, hx, Instr.loadAt, Instr.sureAddr, Sem.run_bind, Sem.run_pure, Result.andThen_ok, hr]
  rfl
end
/-- A new block for an entry, laid. -/
theorem start_nm (w : World) (x : Nm) : ∃ w1, w.alloc (.cells #[.string ⟨#[]⟩, .int .i64 0, .slice none 0 0] 56) = w1 ∧ ∃ g, w.heap.size = g ∧ ∃ w2, w1.setRow g (nc x) = w2 ∧ Obl w1 g 56 #[.string ⟨#[]⟩, .int .i64 0, .slice none 0 0] ∧ Obl w2 g 56 (nc x) ∧ Below g w w2 ∧ w2.heap.size = g + 1 := by
  have O1 : Obl (w.alloc (.cells #[.string ⟨#[]⟩, .int .i64 0, .slice none 0 0] 56)) w.heap.size 56 #[.string ⟨#[]⟩, .int .i64 0, .slice none 0 0] := Obl.make w _ _
  exact ⟨_, rfl, _, rfl, _, rfl, O1, O1.row_same _, below_row ((Below.refl _ _).alloc (Nat.le_refl _) _) (Nat.le_refl _) _, by simp [World.setRow]⟩

set_option maxRecDepth 100000 in
set_option maxHeartbeats 8000000 in
theorem refNames_any (o : Ob) (l : List Nm) (E : List Nx.Ent) (W : World) (hl0 : Ents W W.heap.size o.names.A o.names.n l E) (hs : Short l) : Calls Try.prog 49 #[.agg (oc o)] W (BoolPost (decide (o.Names E)) W) := by
  have hl := hl0.nms
  obtain ⟨w1, hw, O, hb⟩ : ∃ w1, W.alloc (.cells (oc o) 41) = w1 ∧ Obl w1 W.heap.size 41 (oc o) ∧ Below W.heap.size W w1 := ⟨_, rfl, Obl.make W _ _, (Below.refl _ _).alloc (Nat.le_refl _) _⟩
  have HB := hide hb
  have HEN := hide hl0
  have HNO := hide (show ∀ w, Below W.heap.size W w → ¬ o.Names E → BoolPost (decide (o.Names E)) W (.returned (.bool false)) w from fun w hb h => ⟨by rw [decide_eq_false h], hb⟩)
  have HKI := hide (show o.Names E → o.kind = 10 ∧ o.id = 1 ∧ o.names.n ≤ 256 from fun h => ⟨h.1, h.2.1, h.2.2.1⟩)
  have HSP := hide (show o.Names E → Nx.Space E from fun h => h.2.2.2.1)
  have HOK := hide (show o.kind = 10 → o.id = 1 → o.names.n ≤ 256 → Nx.Space E → decide (o.Names E) = decide (Ob.Clear { o with names := ⟨none, 0, 0⟩ }) from fun h1 h2 h3 h4 => decide_eq_decide.2 ⟨fun h => h.2.2.2.2, fun h => ⟨h1, h2, h3, h4, h⟩⟩)
  have HEL := hide hl0.len
  have HL := hide hl
  have HS := hide hs
  have k0 : w1.cell? ⟨W.heap.size, 0, none⟩ = some (.int .u64 o.id) := O.cell 0
  have k1 : w1.cell? ⟨W.heap.size, 1, none⟩ = some (.int .i64 o.kind) := O.cell 1
  have k35 : w1.cell? ⟨W.heap.size, 35, none⟩ = some (.slice o.names.A o.names.n o.names.c) := O.cell 35
  clear hb hl hs hl0
  by_cases h0 : o.kind = 10
  case neg =>
    have h0' : (o.kind == 10) = false := by simpa using h0
    have h0'' : (o.kind != 10) = true := by simpa using h0
    have HF := hide (HNO.out _ HB.out (fun h => h0 (HKI.out h).1))
    go_enter Try.func49, Try.ntmps49
    go_wp2_with fail
    go_ret
    exact HF.out
  rw [h0] at k1
  have H0 := hide h0
  clear h0
  by_cases h1 : o.id = 1
  case neg =>
    have h1' : (o.id == 1) = false := by simpa using h1
    have h1'' : (o.id != 1) = true := by simpa using h1
    have HF := hide (HNO.out _ HB.out (fun h => h1 (HKI.out h).2.1))
    go_enter Try.func49, Try.ntmps49
    go_wp2_with fail
    go_ret
    exact HF.out
  rw [h1] at k0
  have H1 := hide h1
  clear h1
  by_cases h2 : 256 < o.names.n
  case pos =>
    have h2' : (256 : Int) < (o.names.n : Int) := by omega
    have HF := hide (HNO.out _ HB.out (fun h => by have := (HKI.out h).2.2; omega))
    go_enter Try.func49, Try.ntmps49
    go_wp2_with fail
    go_ret
    exact HF.out
  have h2' : ¬ (256 : Int) < (o.names.n : Int) := by omega
  obtain ⟨n, hn⟩ : ∃ n, o.names.n = n := ⟨_, rfl⟩
  rw [hn] at h2 h2' k35
  have HN := hide hn
  have HGO := hide (HOK.out H0.out H1.out (by rw [hn]; omega))
  have HE1 : Hid (E.length = n) := hide (HEL.out.trans hn)
  clear hn HKI HOK HEL
  have hn' : (n : Int) ≤ 256 := by omega
  by_cases hn0 : n = 0
  case pos =>
    subst hn0
    go_enter Try.func49, Try.ntmps49
    go_wp2_with fail
    go_loopw [22] (fun s22 wr => s22 = .int .i64 0 ∧ Obl wr W.heap.size 41 (oc o) ∧ Hid (Below W.heap.size W wr)) (fun _ _ => 0)
    case atStart => exact ⟨rfl, O, HB⟩
    case round =>
      clear O HB k0 k1 hw
      obtain ⟨rfl, O, HB⟩ := hrel
      have k35 : wr.cell? ⟨W.heap.size, 35, none⟩ = some (.slice o.names.A 0 o.names.c) := (O.cell 35).trans (by show some (Value.slice o.names.A o.names.n o.names.c) = _; rw [HN.out])
      have z35 := O.free 35
      have O2 : Obl (wr.setCell ⟨W.heap.size, 35, none⟩ (.slice none 0 0)) W.heap.size 41 (oc { o with names := ⟨none, 0, 0⟩ }) := O.put 35 _
      have HB2 := hide (HB.out.setCell (p := ⟨W.heap.size, 35, none⟩) (Nat.le_refl _) (.slice none 0 0))
      obtain ⟨w2, hw2⟩ : ∃ w2, wr.setCell ⟨W.heap.size, 35, none⟩ (.slice none 0 0) = w2 := ⟨_, rfl⟩
      rw [hw2] at O2 HB2
      clear O HB
      go_wp2_with (first | (refine load_ob rfl _ rfl rfl O2 ?_) | fail)
      refine (bare_any { o with names := ⟨none, 0, 0⟩ } _).mono ?_
      rintro e w3 ⟨rfl, hb3⟩
      have HV := hide (HGO.out ⟨fun i hi => by have := HE1.out; omega, fun i hi => by have := HE1.out; omega⟩)
      clear HGO HNO HSP
      generalize decide (Ob.Clear { o with names := ⟨none, 0, 0⟩ }) = bb at *
      go_wp2_with fail
      go_ret
      exact ⟨ret_bool HV.out.symm, HB2.out.trans (hb3.mono HB2.out.size)⟩
  have hL0 := HL.out
  rw [HN.out] at hL0
  obtain ⟨b1, f1, _, hA, _⟩ := hL0.at_ (i := 0) (by omega)
  rw [hA] at k35
  have HA := hide hA
  clear hL0 hA
  go_enter Try.func49, Try.ntmps49
  go_wp2_with fail
  go_loopw [22] (fun s22 wr => ∃ k : Nat, s22 = .int .i64 (k : Int) ∧ k ≤ n ∧ Obl wr W.heap.size 41 (oc o) ∧ Hid (Nx.Upto E k) ∧ Hid (Below W.heap.size W wr)) (fun s22 _ => n - (intOf s22).toNat)
  case atStart => exact ⟨0, rfl, by omega, O, hide (Nx.upto_zero E), HB⟩
  case round =>
    clear O HB k0 k1 k35 hw
    obtain ⟨k, rfl, hk, O, HK, HB⟩ := hrel
    have k35 : wr.cell? ⟨W.heap.size, 35, none⟩ = some (.slice (some ⟨b1, f1, none⟩) n o.names.c) := (O.cell 35).trans (by show some (Value.slice o.names.A o.names.n o.names.c) = _; rw [HN.out, HA.out])
    by_cases hlt : k < n
    · have hlt' : (k : Int) < (n : Int) := by omega
      have hLr := HL.out.below HB.out
      rw [HN.out, HA.out] at hLr
      have hEr := HEN.out.below HB.out
      rw [HN.out, HA.out] at hEr
      obtain ⟨b1', f1', hkl, hA, hb1, c0, c1, c2, _, _⟩ := hLr.at_ hlt
      simp only [Option.some.injEq, Addr.mk.injEq, and_true] at hA
      obtain ⟨rfl, rfl⟩ := hA
      obtain ⟨hx1, hx2⟩ := HS.out _ (List.getElem_mem hkl)
      obtain ⟨_, hkE, hent, hIE⟩ := hEr.ent hlt
      have HPT : Hid (l[k].path = E[k].path) := hide (hEr.2.2 k hkl hkE).1
      obtain ⟨II, hIIe⟩ : ∃ II, E[k].ids = II := ⟨_, rfl⟩
      rw [hIIe] at hent hIE
      have hII := hIE
      have HENT := hide hent
      clear hIIe hIE hent
      have hprev : 0 < k → ∃ p : ByteArray, (∀ q, k = q + 1 → ∀ hq : q < E.length, p = ⟨E[q].path.toArray⟩) ∧ wr.cell? ⟨b1, f1 + (k - 1) * 3, none⟩ = some (.string p) := fun h0 => by
        obtain ⟨b2, f2, hkl2, hA2, _, d0, _⟩ := hLr.at_ (i := k - 1) (by omega)
        simp only [Option.some.injEq, Addr.mk.injEq, and_true] at hA2
        obtain ⟨rfl, rfl⟩ := hA2
        have hpe := (hEr.2.2 (k - 1) hkl2 (by have := HE1.out; omega)).1
        exact ⟨_, fun q hq hqE => by have e : k - 1 = q := by omega
                                     subst e
                                     rw [hpe], d0⟩
      have HP := hide hprev
      generalize l[k] = x at *
      obtain ⟨w2, hw2, g, hg, w3, hw3, OZ, ON, hb3, hs3⟩ := start_nm wr x
      have hgW : W.heap.size < g := by have := O.lt; omega
      have O3 := O.below hb3 (by have := O.lt; omega)
      have HB3 := hide (HB.out.trans (hb3.mono (by omega)))
      have HI3 := hide (hII.below (hb3.mono (by omega : W.heap.size ≤ g)))
      have j35 : w3.cell? ⟨W.heap.size, 35, none⟩ = some (.slice (some ⟨b1, f1, none⟩) n o.names.c) := (hb3.cell (p := ⟨W.heap.size, 35, none⟩) (by show W.heap.size < g; omega)).trans k35
      have jp : 0 < k → ∃ p : ByteArray, (∀ q, k = q + 1 → ∀ hq : q < E.length, p = ⟨E[q].path.toArray⟩) ∧ w3.cell? ⟨b1, f1 + (k - 1) * 3, none⟩ = some (.string p) := fun h0 => (HP.out h0).imp fun p hp => ⟨hp.1, (hb3.cell (p := ⟨b1, f1 + (k - 1) * 3, none⟩) (by show b1 < g; omega)).trans hp.2⟩
      have HJ := hide jp
      have hx := hide (show x.path.length ≤ 9223372036854775807 ∧ x.ids.n ≤ 9223372036854775807 from ⟨by omega, by omega⟩)
      have hgl : g < w3.heap.size := by omega
      clear hLr hEr hb3 HP hprev jp O HB hx1 hx2 hs3 hII
      go_wp2_with (first | (refine wpList_val (by rfl) (exec_load_nmid rfl rfl c0 c1 c2) ?_) | (refine store_nm rfl _ _ rfl rfl (c := x) rfl OZ rfl ?_; rw [hw3]) | fail)
      clear OZ hw3 hw2 hg c0 c1 c2 k35
      refine region_B (by kernel_rfl) w3.heap.size ?_
      have hu : ∃ u, w3.drew = u ∧ Obl u W.heap.size 41 (oc o) ∧ Obl u g 56 (nc x) ∧ Hid (Below W.heap.size W u) ∧ Hid (Nums .u64 u W.heap.size x.ids.A x.ids.n II) ∧ u.cell? ⟨W.heap.size, 35, none⟩ = some (.slice (some ⟨b1, f1, none⟩) n o.names.c) ∧ Hid (0 < k → ∃ p : ByteArray, (∀ q, k = q + 1 → ∀ hq : q < E.length, p = ⟨E[q].path.toArray⟩) ∧ u.cell? ⟨b1, f1 + (k - 1) * 3, none⟩ = some (.string p)) ∧ u.heap.size = w3.heap.size :=
        ⟨_, rfl, O3, ON, hide ⟨HB3.out.os, HB3.out.tape, HB3.out.output, HB3.out.size, HB3.out.block⟩, HI3, j35, HJ, rfl⟩
      obtain ⟨u, hu, O4, ON4, HB4, HI4, i35, HJ4, hus⟩ := hu
      rw [hu]
      rw [← hus] at hgl ⊢
      clear hu O3 ON HB3 HI3 j35 HJ hus
      refine takeB 0 rfl (by kernel_rfl) (fun _ _ _ h => h) (by rfl) (by intro w' hg; exact exec_load_nm rfl rfl (ON4.below hg hgl)) ?_
      refine onlyB 1 rfl (by kernel_rfl) (by rfl) ?_
      intro K hK
      go_simp
      refine (refEntry_any x W.heap.size II _ HI4.out (by omega) hx.out.2 hx.out.1).mono ?_
      rintro e u1 ⟨rfl, hb5⟩
      rw [HENT.out]
      obtain ⟨bv, hbv⟩ : ∃ bv, decide (E[k].Ok) = bv := ⟨_, rfl⟩
      rw [hbv]
      have HBV := hide hbv
      clear hbv
      have O5 := hide (O4.below hb5 O4.lt)
      have ON5 := ON4.below hb5 hgl
      have HB5 := hide (HB4.out.trans (hb5.mono HB4.out.size))
      have l35 := (hb5.cell (p := ⟨W.heap.size, 35, none⟩) (by show W.heap.size < _; omega)).trans i35
      have HJ5 : Hid (0 < k → ∃ p : ByteArray, (∀ q, k = q + 1 → ∀ hq : q < E.length, p = ⟨E[q].path.toArray⟩) ∧ u1.cell? ⟨b1, f1 + (k - 1) * 3, none⟩ = some (.string p)) := hide (fun h0 => (HJ4.out h0).imp fun p hp => ⟨hp.1, (hb5.cell (p := ⟨b1, f1 + (k - 1) * 3, none⟩) (by show b1 < _; omega)).trans hp.2⟩)
      have hgl5 : g < u1.heap.size := by have := hb5.size; omega
      have hs5 := hb5.size
      have c5 : u1.cell? ⟨g, 0, none⟩ = some (.string ⟨x.path.toArray⟩) := ON5.cell 0
      refine hK _ _ hb5 ?_
      clear hK K hb5 O4 ON4 HB4 HI4 i35 HJ4
      cases bv with
      | false =>
        have HF := hide (HNO.out _ HB5.out (fun h => of_decide_eq_false HBV.out ((HSP.out h).1 k hkE)))
        clear HNO HSP HBV HGO HK
        refine takeB 2 rfl (by kernel_rfl) (fun _ _ _ h => h) (by rfl) (by intro w' hg; go_simp; try with_reducible rfl) ?_
        refine takeB 3 rfl (by kernel_rfl) (fun _ _ _ h => h) (by rfl) (by intro w' hg; go_simp; try with_reducible rfl) ?_
        refine skipB 4 rfl (by kernel_rfl) (fun _ _ _ h => h) (by kernel_rfl) ?_
        refine skipB 5 rfl (by kernel_rfl) (fun _ _ _ h => h) (by kernel_rfl) ?_
        refine skipB 6 rfl (by kernel_rfl) (fun _ _ _ h => h) (by kernel_rfl) ?_
        refine skipB 7 rfl (by kernel_rfl) (fun _ _ _ h => h) (by kernel_rfl) ?_
        refine skipB 8 rfl (by kernel_rfl) (fun _ _ _ h => h) (by kernel_rfl) ?_
        refine skipB 9 rfl (by kernel_rfl) (fun _ _ _ h => h) (by kernel_rfl) ?_
        refine skipB 10 rfl (by kernel_rfl) (fun _ _ _ h => h) (by kernel_rfl) ?_
        refine skipB 11 rfl (by kernel_rfl) (fun _ _ _ h => h) (by kernel_rfl) ?_
        refine skipB 12 rfl (by kernel_rfl) (fun _ _ _ h => h) (by kernel_rfl) ?_
        refine skipB 13 rfl (by kernel_rfl) (fun _ _ _ h => h) (by kernel_rfl) ?_
        refine skipB 14 rfl (by kernel_rfl) (fun _ _ _ h => h) (by kernel_rfl) ?_
        refine skipB 15 rfl (by kernel_rfl) (fun _ _ _ h => h) (by kernel_rfl) ?_
        refine skipB 16 rfl (by kernel_rfl) (fun _ _ _ h => h) (by kernel_rfl) ?_
        refine skipB 17 rfl (by kernel_rfl) (fun _ _ _ h => h) (by kernel_rfl) ?_
        refine takeB 18 rfl (by kernel_rfl) (fun _ _ _ h => h) (by rfl) (by intro w' hg; go_simp; try with_reducible rfl) ?_
        refine doneB (by kernel_rfl) ?_
        go_simp
        go_wp2_with fail
        go_ret
        exact HF.out
      | true =>
        have hok := of_decide_eq_true HBV.out
        by_cases hk0 : k = 0
        · subst hk0
          have HF := hide (Nx.upto_one hkE hok)
          clear hok HBV HK HPT HENT
          refine takeB 2 rfl (by kernel_rfl) (fun _ _ _ h => h) (by rfl) (by intro w' hg; go_simp; try with_reducible rfl) ?_
          refine takeB 3 rfl (by kernel_rfl) (fun _ _ _ h => h) (by rfl) (by intro w' hg; go_simp; try with_reducible rfl) ?_
          refine takeB 4 rfl (by kernel_rfl) (fun _ _ _ h => h) (by kernel_rfl) (by intro w' hg; go_simp; try with_reducible rfl) ?_
          refine takeB 5 rfl (by kernel_rfl) (fun _ _ _ h => h) (by kernel_rfl) (by intro w' hg; go_simp; try with_reducible rfl) ?_
          refine takeB 6 rfl (by kernel_rfl) (fun _ _ _ h => h) (by kernel_rfl) (by intro w' hg; go_simp; try with_reducible rfl) ?_
          refine skipB 7 rfl (by kernel_rfl) (fun _ _ _ h => h) (by kernel_rfl) ?_
          refine skipB 8 rfl (by kernel_rfl) (fun _ _ _ h => h) (by kernel_rfl) ?_
          refine skipB 9 rfl (by kernel_rfl) (fun _ _ _ h => h) (by kernel_rfl) ?_
          refine skipB 10 rfl (by kernel_rfl) (fun _ _ _ h => h) (by kernel_rfl) ?_
          refine skipB 11 rfl (by kernel_rfl) (fun _ _ _ h => h) (by kernel_rfl) ?_
          refine skipB 12 rfl (by kernel_rfl) (fun _ _ _ h => h) (by kernel_rfl) ?_
          refine skipB 13 rfl (by kernel_rfl) (fun _ _ _ h => h) (by kernel_rfl) ?_
          refine skipB 14 rfl (by kernel_rfl) (fun _ _ _ h => h) (by kernel_rfl) ?_
          refine skipB 15 rfl (by kernel_rfl) (fun _ _ _ h => h) (by kernel_rfl) ?_
          refine skipB 16 rfl (by kernel_rfl) (fun _ _ _ h => h) (by kernel_rfl) ?_
          refine takeB 17 rfl (by kernel_rfl) (fun _ _ _ h => h) (by kernel_rfl) (by intro w' hg; go_simp; try with_reducible rfl) ?_
          refine takeB 18 rfl (by kernel_rfl) (fun _ _ _ h => h) (by rfl) (by intro w' hg; go_simp; try with_reducible rfl) ?_
          refine doneB (by kernel_rfl) ?_
          go_simp
          go_wp2_with fail
          go_roundw
          case rel => exact ⟨1, by go_num, by omega, O5.out, HF, HB5⟩
          case measure => simp [intOf]; omega
        · obtain ⟨p, hpE, hp⟩ := HJ5.out (by omega)
          have hkp : (0 : Int) < (k : Int) := by omega
          obtain ⟨q, rfl⟩ : ∃ q, k = q + 1 := ⟨k - 1, by omega⟩
          rw [Nat.add_sub_cancel] at hp
          have hpq := hpE q rfl (by omega)
          have hqn : q < n := by omega
          have hqn' : (q : Int) < (n : Int) := by omega
          obtain ⟨sx, hsx⟩ : ∃ sx : ByteArray, (⟨x.path.toArray⟩ : ByteArray) = sx := ⟨_, rfl⟩
          rw [hsx] at c5
          have HLT := hide (show Op.bytesLess p.toList sx.toList = true ↔ Nx.Lt E[q].path E[q + 1].path by
            rw [hpq, ← hsx, Lib.toList_data, Lib.toList_data, HPT.out]
            exact Iff.rfl)
          clear hsx hpE hpq
          obtain ⟨gb, hgb⟩ : ∃ gb : Bool, Op.bytesLess p.toList sx.toList = gb := ⟨_, rfl⟩
          have hcast : ((q + 1 : Nat) : Int) - 1 = (q : Int) := by omega
          have hwr : IntKind.i64.wrap (q : Int) = (q : Int) := IntWalk.i64_in _ (by omega)
          have hq0 : (0 : Int) ≤ (q : Int) := by omega
          refine takeB 2 rfl (by kernel_rfl) (fun _ _ _ h => h) (by rfl) (by intro w' hg; go_simp; try with_reducible rfl) ?_
          refine takeB 3 rfl (by kernel_rfl) (fun _ _ _ h => h) (by rfl) (by intro w' hg; go_simp; try with_reducible rfl) ?_
          refine takeB 4 rfl (by kernel_rfl) (fun _ _ _ h => h) (by kernel_rfl) (by intro w' hg; go_simp; try with_reducible rfl) ?_
          refine takeB 5 rfl (by kernel_rfl) (fun _ _ _ h => h) (by kernel_rfl) (by intro w' hg; go_simp; try with_reducible rfl) ?_
          refine takeB 6 rfl (by kernel_rfl) (fun _ _ _ h => h) (by kernel_rfl) (by intro w' hg; go_simp; try with_reducible rfl) ?_
          refine takeB 7 rfl (by kernel_rfl) (fun _ _ _ h => h) (by kernel_rfl) (by intro w' hg; go_simp; try with_reducible rfl) ?_
          refine takeB 8 rfl (by kernel_rfl) (fun _ _ _ h => h) (by kernel_rfl) (by intro w' hg; have g1 := (hg.cell (p := ⟨W.heap.size, 35, none⟩) (by show W.heap.size < _; omega)).trans l35; go_simp; try with_reducible rfl) ?_
          refine takeB 9 rfl (by kernel_rfl) (fun _ _ _ h => h) (by kernel_rfl) (by intro w' hg; go_simp; try with_reducible rfl) ?_
          refine takeB 10 rfl (by kernel_rfl) (fun _ _ _ h => h) (by kernel_rfl) (by intro w' hg; go_simp; try with_reducible rfl) ?_
          refine takeB 11 rfl (by kernel_rfl) (fun _ _ _ h => h) (by kernel_rfl) (by intro w' hg; go_simp; try with_reducible rfl) ?_
          refine takeB 12 rfl (by kernel_rfl) (fun _ _ _ h => h) (by kernel_rfl) (by intro w' hg; go_simp; try with_reducible rfl) ?_
          refine takeB 13 rfl (by kernel_rfl) (fun _ _ _ h => h) (by kernel_rfl) (by intro w' hg; have g1 := (hg.cell (p := ⟨b1, f1 + q * 3, none⟩) (by show b1 < _; omega)).trans hp; go_simp; try with_reducible rfl) ?_
          refine takeB 14 rfl (by kernel_rfl) (fun _ _ _ h => h) (by kernel_rfl) (by intro w' hg; go_simp; try with_reducible rfl) ?_
          refine takeB 15 rfl (by kernel_rfl) (fun _ _ _ h => h) (by kernel_rfl) (by intro w' hg; have g1 := (hg.cell (p := ⟨g, 0, none⟩) (by show g < _; omega)).trans c5; go_simp; try with_reducible rfl) ?_
          clear hcast hwr
          have HFT := hide (fun h : Op.bytesLess p.toList sx.toList = true => Nx.upto_succ HK.out hkE hok (HLT.out.1 h))
          have HFF := hide (fun h : Op.bytesLess p.toList sx.toList = false => HNO.out _ HB5.out (fun hn => by have h2 := HLT.out.2 ((HSP.out hn).2 q hkE); rw [h] at h2; cases h2))
          clear hok HBV HK HPT HENT HLT
          have hq256 : (q : Int) + 2 ≤ 256 := by omega
          cases gb with
          | true =>
            have HF := hide (HFT.out hgb)
            clear HFT HFF
            refine takeB 16 rfl (by kernel_rfl) (fun _ _ _ h => h) (by kernel_rfl) (by intro w' hg; go_simp; try with_reducible rfl) ?_
            refine takeB 17 rfl (by kernel_rfl) (fun _ _ _ h => h) (by kernel_rfl) (by intro w' hg; go_simp; try with_reducible rfl) ?_
            refine takeB 18 rfl (by kernel_rfl) (fun _ _ _ h => h) (by rfl) (by intro w' hg; go_simp; try with_reducible rfl) ?_
            refine doneB (by kernel_rfl) ?_
            go_simp
            go_wp2_with fail
            go_roundw
            case rel => exact ⟨q + 1 + 1, by go_num, by omega, O5.out, HF, HB5⟩
            case measure => simp [intOf]; omega
          | false =>
            have HF := hide (HFF.out hgb)
            clear HFT HFF
            refine takeB 16 rfl (by kernel_rfl) (fun _ _ _ h => h) (by kernel_rfl) (by intro w' hg; go_simp; try with_reducible rfl) ?_
            refine takeB 17 rfl (by kernel_rfl) (fun _ _ _ h => h) (by kernel_rfl) (by intro w' hg; go_simp; try with_reducible rfl) ?_
            refine takeB 18 rfl (by kernel_rfl) (fun _ _ _ h => h) (by rfl) (by intro w' hg; go_simp; try with_reducible rfl) ?_
            refine doneB (by kernel_rfl) ?_
            go_simp
            go_wp2_with fail
            go_ret
            exact HF.out
    · obtain rfl : k = n := by omega
      have z35 := O.free 35
      have O2 : Obl (wr.setCell ⟨W.heap.size, 35, none⟩ (.slice none 0 0)) W.heap.size 41 (oc { o with names := ⟨none, 0, 0⟩ }) := O.put 35 _
      have HB2 := hide (HB.out.setCell (p := ⟨W.heap.size, 35, none⟩) (Nat.le_refl _) (.slice none 0 0))
      obtain ⟨w2, hw2⟩ : ∃ w2, wr.setCell ⟨W.heap.size, 35, none⟩ (.slice none 0 0) = w2 := ⟨_, rfl⟩
      rw [hw2] at O2 HB2
      clear O HB
      go_wp2_with (first | (refine load_ob rfl _ rfl rfl O2 ?_) | fail)
      refine (bare_any { o with names := ⟨none, 0, 0⟩ } _).mono ?_
      rintro e w3 ⟨rfl, hb3⟩
      have HV := hide (HGO.out (Nx.upto_all (by rw [HE1.out]; exact HK.out)))
      clear HGO HNO HSP
      generalize decide (Ob.Clear { o with names := ⟨none, 0, 0⟩ }) = bb at *
      go_wp2_with fail
      go_ret
      exact ⟨ret_bool HV.out.symm, HB2.out.trans (hb3.mono HB2.out.size)⟩
theorem nmValid_any (o : Ob) (l : List Nm) (W : World) (hl : Nms W W.heap.size o.names.A o.names.n l) (hs : Short l) : Calls Try.prog 49 #[.agg (oc o)] W (SomeAns W) := by
  obtain ⟨E, hE⟩ := hl.ents
  exact (refNames_any o l E W hE hs).mono fun _ _ h => ⟨_, h⟩
end Go.Proofs.Ytddbohnappogkaa
