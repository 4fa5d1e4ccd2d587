/- The reference of name spaces: insert: a contract (written by tools/mknmadd.py). -/
import Derived.Test.YtcgiobffobonpaaNmValid
namespace Go.Proofs.Ytcgiobffobonpaa
open Go.RowKit

theorem nmTy : ElemTy Try.prog 39 64 3 48 := by
  obtain ⟨i0, hi, hz0, hz1, hz2⟩ := info_parts (show (Try.prog.info? 64).map (fun i => (i.zero, i.size, i.bytes)) = some (some (.agg #[.string ⟨#[]⟩, .int .i64 0, .slice none 0 0]), 3, 48) by kernel_rfl)
  exact ⟨i0, _, Try.underlying39, hi, hz0, hz1, hz2, rfl, by omega⟩
theorem Row.three (w : World) (x : Nm) (t : TypeId) : Row (w.alloc (.cells #[.string ⟨x.path.toArray⟩, .int .i64 x.kind, .slice x.ids.A x.ids.n x.ids.c] t)) (w.heap.size + 1) 3 (some ⟨w.heap.size, 0, none⟩) 1 [.string ⟨x.path.toArray⟩, .int .i64 x.kind, .slice x.ids.A x.ids.n x.ids.c] :=
  ⟨by simp, by simp, (Row.list w [.string ⟨x.path.toArray⟩, .int .i64 x.kind, .slice x.ids.A x.ids.n x.ids.c] t).rd⟩
theorem nmv_snoc (l : List Nm) (x : Nm) : nmv l ++ [.string ⟨x.path.toArray⟩, .int .i64 x.kind, .slice x.ids.A x.ids.n x.ids.c] = nmv (l ++ [x]) := by rw [nmv_append]; rfl
theorem own_nmv {w : World} {base n : Nat} {e : TypeId} {v : Value} {l : List Nm} (h : w.ownsRow base e 3 v n (nmv l)) : l.length = n := by have := h.1; rw [nmv_length] at this; omega
/-- What the list of entries is while it is made: short entries in rows of the call's own. -/
structure NmOut (w : World) (base : Nat) (A : Option Addr) (n c : Nat) (l : List Nm) : Prop where
  own : OwnNms w base A n c l
  short : Short l
  base_le : base ≤ w.heap.size
theorem NmOut.later {w w' : World} {base n c : Nat} {A : Option Addr} {l : List Nm} (h : NmOut w base A n c l) (hb : Below w.heap.size w w') : NmOut w' base A n c l := ⟨h.own.keep (keep_below hb), h.short, Nat.le_trans h.base_le hb.size⟩
/-- One more entry: its identifiers' row, the new block, the append. -/
theorem NmOut.more {w w2 w3 : World} {base n c n3 c3 : Nat} {A A3 : Option Addr} {l : List Nm} {x : Nm} (h : NmOut w base A n c l) (hb : Below w.heap.size w w2) (hx : x.path.length ≤ 1000 ∧ x.ids.n ≤ 1000) (hI : ∃ I, w2.ownsRow base 22 1 (.slice x.ids.A x.ids.n x.ids.c) x.ids.n (nv .u64 I)) (cells : Array Value)
    (hown : w3.ownsRow base 64 3 (.slice A3 n3 c3) n3 (nmv (l ++ [x]))) (hg : (w2.alloc (.cells cells 64)).grownBy w3 (blk A)) : NmOut w3 base A3 n3 c3 (l ++ [x]) := by
  have hA : (w2.alloc (.cells cells 64)).ownsRow base 64 3 (.slice A n c) n (nmv l) := (own_keep h.own.1 (keep_below hb)).alloc _
  refine ⟨⟨hown, fun y hy => ?_⟩, fun y hy => ?_, ?_⟩
  · rcases List.mem_append.1 hy with hy | hy
    · obtain ⟨I, hI⟩ := h.own.2 y hy
      have h1 := (own_keep hI (keep_below hb)).alloc (.cells cells 64)
      exact ⟨I, h1.kept hg (own_apart h1 hA (by decide))⟩
    · simp only [List.mem_singleton] at hy
      subst hy
      obtain ⟨I, hI⟩ := hI
      have h1 := hI.alloc (.cells cells 64)
      exact ⟨I, h1.kept hg (own_apart h1 hA (by decide))⟩
  · rcases List.mem_append.1 hy with hy | hy
    · exact h.short y hy
    · simp only [List.mem_singleton] at hy
      subst hy
      exact hx
  · have h1 := hg.size
    have h2 := hb.size
    have h3 := h.base_le
    simp at h1
    omega
/-- Entries, more by some. -/
def InsPost (n : Nat) (w : World) (e : Ending) (w' : World) : Prop := ∃ A' n' c' l', e = .returned (.slice A' n' c') ∧ n' ≤ 2 * n + 1 ∧ NmOut w' (w.heap.size + 1) A' n' c' l' ∧ Below w.heap.size w w'
set_option maxRecDepth 100000 in
set_option maxHeartbeats 16000000 in
theorem insert_any (A : Option Addr) (n c : Nat) (l : List Nm) (x : Nm) (I : List Int) (W : World) (hl : Nms W W.heap.size A n l) (hs : Short l) (hn : n ≤ 1000) (hx : x.path.length ≤ 1000 ∧ x.ids.n ≤ 1000) (hI : Nums .u64 W W.heap.size x.ids.A x.ids.n I) : Calls Try.prog 62 #[.slice A n c, .agg (nc x)] W (InsPost n W) := by
  obtain ⟨w1, hw, O, hb, hs1⟩ : ∃ w1, W.alloc (.cells (nc x) 64) = w1 ∧ Obl w1 W.heap.size 64 (nc x) ∧ Below W.heap.size W w1 ∧ w1.heap.size = W.heap.size + 1 := ⟨_, rfl, Obl.make W _ _, (Below.refl _ _).alloc (Nat.le_refl _) _, by simp⟩
  have HB := hide hb
  have HL := hide hl
  have HS := hide hs
  have HX := hide hx
  have HI := hide hI
  have hn' : (n : Int) ≤ 1000 := by omega
  have M0 : Hid (NmOut w1 (W.heap.size + 1) none 0 0 []) := hide ⟨⟨own_nil, by simp⟩, by intro y hy; simp at hy, by omega⟩
  clear hb hl hs hx hI
  by_cases hn0 : n = 0
  · subst hn0
    go_enter Try.func62, Try.ntmps62
    go_wp2_with fail
    go_loopw [5, 10] (fun s5 s10 wr => s10 = .int .i64 0 ∧ s5 = .slice none 0 0 ∧ Obl wr W.heap.size 64 (nc x) ∧ Hid (NmOut wr (W.heap.size + 1) none 0 0 []) ∧ Hid (Below W.heap.size W wr)) (fun _ _ _ => 0)
    case atStart => exact ⟨rfl, rfl, O, M0, HB⟩
    case round =>
      clear O M0 HB hw
      obtain ⟨rfl, rfl, O, M, HB⟩ := hrel
      go_wp2_with (first | (refine load_nm rfl _ rfl rfl O ?_) | fail)
      refine (copied_any x W.heap.size I _ (HI.out.below HB.out) (by have := HB.out.size; omega) HX.out.2).mono ?_
      rintro e waz ⟨A2z, c2z, I2z, rfl, hown2, hb2⟩
      rw [show nc ⟨x.path, x.kind, ⟨A2z, x.ids.n, c2z⟩⟩ = #[.string ⟨x.path.toArray⟩, .int .i64 x.kind, .slice A2z x.ids.n c2z] from rfl]
      have Maz := hide (M.out.later hb2)
      have hidz := hide (own_weaken (base' := W.heap.size + 1) hown2 M.out.base_le)
      have HBaz := hide (HB.out.trans (hb2.mono HB.out.size))
      clear hown2 hb2
      have hrowz := Maz.out.own.1.alloc (.cells #[.string ⟨x.path.toArray⟩, .int .i64 x.kind, .slice A2z x.ids.n c2z] 64)
      have hthreez : Row _ _ 3 _ 1 [.string ⟨x.path.toArray⟩, .int .i64 x.kind, .slice A2z x.ids.n c2z] := Row.three waz ⟨x.path, x.kind, ⟨A2z, x.ids.n, c2z⟩⟩ 64
      have hbsz : W.heap.size + 1 ≤ (waz.alloc (.cells #[.string ⟨x.path.toArray⟩, .int .i64 x.kind, .slice A2z x.ids.n c2z] 64)).heap.size := by have := Maz.out.base_le; simp; omega
      have HBcz := hide (HBaz.out.alloc (by have := Maz.out.base_le; omega) (.cells #[.string ⟨x.path.toArray⟩, .int .i64 x.kind, .slice A2z x.ids.n c2z] 64))
      have hscz : (waz.alloc (.cells #[.string ⟨x.path.toArray⟩, .int .i64 x.kind, .slice A2z x.ids.n c2z] 64)).heap.size = waz.heap.size + 1 := by simp
      obtain ⟨wcz, hwcz⟩ : ∃ wc, waz.alloc (.cells #[.string ⟨x.path.toArray⟩, .int .i64 x.kind, .slice A2z x.ids.n c2z] 64) = wc := ⟨_, rfl⟩
      rw [hwcz] at hrowz hthreez hbsz HBcz hscz 
      go_wp2_with (first | (at_builtin; refine wpList_append_rd rfl _ _ _ rfl nmTy (base := W.heap.size + 1) rfl hrowz rfl hthreez (by simp [Value.oneCell']) (by unfold maxLen; omega) (by omega) hbsz ?_; intro A3z c3z wbz hown3 hg3 hat3; rw [show nmv [] ++ [.string ⟨x.path.toArray⟩, .int .i64 x.kind, .slice A2z x.ids.n c2z] = nmv ([] ++ [⟨x.path, x.kind, ⟨A2z, x.ids.n, c2z⟩⟩]) from nmv_snoc [] ⟨x.path, x.kind, ⟨A2z, x.ids.n, c2z⟩⟩] at hown3; have HBz := hide (HBcz.out.grown hg3 (by have := Maz.out.base_le; omega) (fun k hk => by have := (hrowz.lt k (by rw [ownBlock_slice]; exact hk)).1; omega)); rw [← hwcz] at hg3; have Mz := hide (Maz.out.more (Below.refl _ _) (x := ⟨x.path, x.kind, ⟨A2z, x.ids.n, c2z⟩⟩) HX.out ⟨_, hidz.out⟩ _ hown3 hg3); have hatz : blk A3z = blk none ∨ blk A3z = some wcz.heap.size := hat3; clear hown3 hg3 hat3 hrowz hthreez) | fail)
      go_ret
      exact ⟨A3z, 1, c3z, _, rfl, by omega, Mz.out, HBz.out⟩
  have hL0 := HL.out
  obtain ⟨b1, f1, _, hA, _⟩ := hL0.at_ (i := 0) (by omega)
  subst hA
  clear hL0
  go_enter Try.func62, Try.ntmps62
  go_wp2_with fail
  go_loopw [5, 10] (fun s5 s10 wr => ∃ (k m c' : Nat) (A' : Option Addr) (L : List Nm), s10 = .int .i64 (k : Int) ∧ s5 = .slice A' m c' ∧ k ≤ n ∧ m ≤ 2 * k ∧ Obl wr W.heap.size 64 (nc x) ∧ Hid (NmOut wr (W.heap.size + 1) A' m c' L) ∧ Hid (Below W.heap.size W wr)) (fun _ s10 _ => n - (intOf s10).toNat)
  case atStart => exact ⟨0, 0, 0, none, [], rfl, rfl, by omega, by omega, O, M0, HB⟩
  case round =>
    clear O M0 HB hw
    obtain ⟨k, m, c', A', L, rfl, rfl, hk, hm, O, M, HB⟩ := hrel
    by_cases hlt : k < n
    · have hlt' : (k : Int) < (n : Int) := by omega
      have hLr := HL.out.below HB.out
      obtain ⟨b1', f1', hkl, hA, hb1, c0, c1, c2, _⟩ := hLr.at_ hlt
      obtain ⟨II, hII⟩ := HL.out.2.2 _ (List.getElem_mem hkl)
      have HIW := hide hII
      simp only [Option.some.injEq, Addr.mk.injEq, and_true] at hA
      obtain ⟨rfl, rfl⟩ := hA
      have hy := hide (HS.out _ (List.getElem_mem hkl))
      generalize l[k] = y at *
      obtain ⟨w3, hw3, g, hg, w4, hw4, OZ, N, hb4, hs4⟩ := start_nm wr y
      have hgW : W.heap.size < g := by have := O.lt; omega
      have hne : some g ≠ blk A' := fun e => by have := (M.out.own.1.lt g (by rw [ownBlock_slice]; exact e.symm)).2; omega
      replace O := O.below hb4 (by omega)
      replace M := hide (M.out.later (hb4.mono (by omega)))
      replace HB := hide (HB.out.trans (hb4.mono (by omega)))
      have d4 : w4.cell? ⟨g, 0, none⟩ = some (.string ⟨y.path.toArray⟩) := N.cell 0
      have dx : w4.cell? ⟨W.heap.size, 0, none⟩ = some (.string ⟨x.path.toArray⟩) := O.cell 0
      have hlast : 0 < m → ∃ b2 p, A' = some ⟨b2, 0, none⟩ ∧ b2 < w4.heap.size ∧ w4.cell? ⟨b2, (m - 1) * 3, none⟩ = some (.string p) := fun h0 => by
        have hnm := M.out.own.nms
        obtain ⟨b2, o2, _, hA2, hb2', hc2, _⟩ := hnm.at_ (i := m - 1) (by omega)
        obtain ⟨g2, hg2, _⟩ := own_addr M.out.own.1 h0
        rw [hA2] at hg2
        simp only [Option.some.injEq, Addr.mk.injEq, and_true] at hg2
        obtain ⟨rfl, rfl⟩ := hg2
        exact ⟨_, _, hA2, hb2', by rw [← hc2, Nat.zero_add]⟩
      have HJ := hide hlast
      have hg4 : g < w4.heap.size := by omega
      have hO4 := O.lt
      clear hLr hb4 hII hs4 hlast
      go_wp2_with (first | (refine wpList_val (by rfl) (exec_load_nmid rfl rfl c0 c1 c2) ?_) | (refine store_nm rfl _ _ rfl rfl (c := y) rfl OZ rfl ?_; rw [hw4]) | fail)
      clear OZ hw4 hw3 hg c0 c1 c2
      refine region_B (by kernel_rfl) w4.heap.size ?_
      have hu : ∃ u, w4.drew = u ∧ Obl u W.heap.size 64 (nc x) ∧ Obl u g 64 (nc y) ∧ Hid (NmOut u (W.heap.size + 1) A' m c' L) ∧ Hid (Below W.heap.size W u) ∧ u.cell? ⟨g, 0, none⟩ = some (.string ⟨y.path.toArray⟩) ∧ u.cell? ⟨W.heap.size, 0, none⟩ = some (.string ⟨x.path.toArray⟩) ∧ Hid (0 < m → ∃ b2 p, A' = some ⟨b2, 0, none⟩ ∧ b2 < u.heap.size ∧ u.cell? ⟨b2, (m - 1) * 3, none⟩ = some (.string p)) ∧ u.heap.size = w4.heap.size :=
        ⟨_, rfl, O, N, hide ⟨M.out.own, M.out.short, M.out.base_le⟩, hide ⟨HB.out.os, HB.out.tape, HB.out.output, HB.out.size, HB.out.block⟩, d4, dx, HJ, rfl⟩
      clear O N M HB d4 dx HJ
      obtain ⟨u, hu, O, N, M, HB, d4, dx, HJ, hus⟩ := hu
      rw [hu]
      rw [← hus] at hg4 hO4 ⊢
      clear hu hus
      obtain ⟨sy, hsy⟩ : ∃ sy : ByteArray, (⟨y.path.toArray⟩ : ByteArray) = sy := ⟨_, rfl⟩
      obtain ⟨sx, hsx⟩ : ∃ sx : ByteArray, (⟨x.path.toArray⟩ : ByteArray) = sx := ⟨_, rfl⟩
      rw [hsy] at d4
      rw [hsx] at dx
      have Hsy := hide hsy
      have Hsx := hide hsx
      clear hsy hsx
      obtain ⟨gt, hgt⟩ : ∃ gt : Bool, (!(Op.bytesLess sy.toList sx.toList || sy.toList == sx.toList)) = gt := ⟨_, rfl⟩
      refine takeB 0 rfl (by kernel_rfl) (fun _ _ _ h => h) (by rfl) (by intro w' hg; go_simp; try with_reducible rfl) ?_
      refine takeB 1 rfl (by kernel_rfl) (fun _ _ _ h => h) (by rfl) (by intro w' hg; have g1 := (hg.cell (p := ⟨g, 0, none⟩) (by show g < _; omega)).trans d4; go_simp; try with_reducible rfl) ?_
      refine takeB 2 rfl (by kernel_rfl) (fun _ _ _ h => h) (by rfl) (by intro w' hg; go_simp; try with_reducible rfl) ?_
      refine takeB 3 rfl (by kernel_rfl) (fun _ _ _ h => h) (by rfl) (by intro w' hg; have g1 := (hg.cell (p := ⟨W.heap.size, 0, none⟩) (by show W.heap.size < _; omega)).trans dx; go_simp; try with_reducible rfl) ?_
      cases gt with
      | false =>
        refine takeB 4 rfl (by kernel_rfl) (fun _ _ _ h => h) (by rfl) (by intro w' hg; go_simp; try with_reducible rfl) ?_
        refine takeB 5 rfl (by kernel_rfl) (fun _ _ _ h => h) (by rfl) (by intro w' hg; go_simp; try with_reducible rfl) ?_
        refine skipB 6 rfl (by kernel_rfl) (fun _ _ _ h => h) (by kernel_rfl) ?_
        refine skipB 7 rfl (by kernel_rfl) (fun _ _ _ h => h) (by kernel_rfl) ?_
        refine skipB 8 rfl (by kernel_rfl) (fun _ _ _ h => h) (by kernel_rfl) ?_
        refine skipB 9 rfl (by kernel_rfl) (fun _ _ _ h => h) (by kernel_rfl) ?_
        refine skipB 10 rfl (by kernel_rfl) (fun _ _ _ h => h) (by kernel_rfl) ?_
        refine skipB 11 rfl (by kernel_rfl) (fun _ _ _ h => h) (by kernel_rfl) ?_
        refine skipB 12 rfl (by kernel_rfl) (fun _ _ _ h => h) (by kernel_rfl) ?_
        refine skipB 13 rfl (by kernel_rfl) (fun _ _ _ h => h) (by kernel_rfl) ?_
        refine skipB 14 rfl (by kernel_rfl) (fun _ _ _ h => h) (by kernel_rfl) ?_
        refine skipB 15 rfl (by kernel_rfl) (fun _ _ _ h => h) (by kernel_rfl) ?_
        refine skipB 16 rfl (by kernel_rfl) (fun _ _ _ h => h) (by kernel_rfl) ?_
        refine skipB 17 rfl (by kernel_rfl) (fun _ _ _ h => h) (by kernel_rfl) ?_
        refine skipB 18 rfl (by kernel_rfl) (fun _ _ _ h => h) (by kernel_rfl) ?_
        refine skipB 19 rfl (by kernel_rfl) (fun _ _ _ h => h) (by kernel_rfl) ?_
        refine skipB 20 rfl (by kernel_rfl) (fun _ _ _ h => h) (by kernel_rfl) ?_
        refine takeB 21 rfl (by kernel_rfl) (fun _ _ _ h => h) (by rfl) (by intro w' hg; go_simp; try with_reducible rfl) ?_
        refine doneB (by kernel_rfl) ?_
        go_simp
        go_wp2_with (first | (refine load_nm rfl _ rfl rfl N ?_) | fail)
        refine (copied_any y W.heap.size II _ (HIW.out.below HB.out) (by have := HB.out.size; omega) hy.out.2).mono ?_
        rintro e waq ⟨A2q, c2q, I2q, rfl, hown2, hb2⟩
        rw [show nc ⟨y.path, y.kind, ⟨A2q, y.ids.n, c2q⟩⟩ = #[.string ⟨y.path.toArray⟩, .int .i64 y.kind, .slice A2q y.ids.n c2q] from rfl]
        have Maq := hide (M.out.later hb2)
        have hidq := hide (own_weaken (base' := W.heap.size + 1) hown2 M.out.base_le)
        have HBaq := hide (HB.out.trans (hb2.mono HB.out.size))
        have Oaq := O.below hb2 O.lt
        clear hown2 hb2
        have hrowq := Maq.out.own.1.alloc (.cells #[.string ⟨y.path.toArray⟩, .int .i64 y.kind, .slice A2q y.ids.n c2q] 64)
        have hthreeq : Row _ _ 3 _ 1 [.string ⟨y.path.toArray⟩, .int .i64 y.kind, .slice A2q y.ids.n c2q] := Row.three waq ⟨y.path, y.kind, ⟨A2q, y.ids.n, c2q⟩⟩ 64
        have hbsq : W.heap.size + 1 ≤ (waq.alloc (.cells #[.string ⟨y.path.toArray⟩, .int .i64 y.kind, .slice A2q y.ids.n c2q] 64)).heap.size := by have := Maq.out.base_le; simp; omega
        have HBcq := hide (HBaq.out.alloc (by have := Maq.out.base_le; omega) (.cells #[.string ⟨y.path.toArray⟩, .int .i64 y.kind, .slice A2q y.ids.n c2q] 64))
        have Ocq := Oaq.alloc (.cells #[.string ⟨y.path.toArray⟩, .int .i64 y.kind, .slice A2q y.ids.n c2q] 64)
        have hlOq := Oaq.lt
        have hscq : (waq.alloc (.cells #[.string ⟨y.path.toArray⟩, .int .i64 y.kind, .slice A2q y.ids.n c2q] 64)).heap.size = waq.heap.size + 1 := by simp
        obtain ⟨wcq, hwcq⟩ : ∃ wc, waq.alloc (.cells #[.string ⟨y.path.toArray⟩, .int .i64 y.kind, .slice A2q y.ids.n c2q] 64) = wc := ⟨_, rfl⟩
        rw [hwcq] at hrowq hthreeq hbsq HBcq hscq Ocq
        have neOq : some W.heap.size ≠ blk A' := fun e => by have := (hrowq.lt W.heap.size (by rw [ownBlock_slice]; exact e.symm)).1; omega
        go_wp2_with (first | (at_builtin; refine wpList_append_rd rfl _ _ _ rfl nmTy (base := W.heap.size + 1) rfl hrowq rfl hthreeq (by simp [Value.oneCell']) (by unfold maxLen; omega) (by omega) hbsq ?_; intro A3q c3q wbq hown3 hg3 hat3; rw [show nmv L ++ [.string ⟨y.path.toArray⟩, .int .i64 y.kind, .slice A2q y.ids.n c2q] = nmv (L ++ [⟨y.path, y.kind, ⟨A2q, y.ids.n, c2q⟩⟩]) from nmv_snoc L ⟨y.path, y.kind, ⟨A2q, y.ids.n, c2q⟩⟩] at hown3; have HBq := hide (HBcq.out.grown hg3 (by have := Maq.out.base_le; omega) (fun k hk => by have := (hrowq.lt k (by rw [ownBlock_slice]; exact hk)).1; omega)); have Oq := Ocq.grown hg3 neOq; rw [← hwcq] at hg3; have Mq := hide (Maq.out.more (Below.refl _ _) (x := ⟨y.path, y.kind, ⟨A2q, y.ids.n, c2q⟩⟩) hy.out ⟨_, hidq.out⟩ _ hown3 hg3); have hatq : blk A3q = blk A' ∨ blk A3q = some wcq.heap.size := hat3; clear hown3 hg3 hat3 hrowq hthreeq) | fail)
        go_roundw
        case rel => exact ⟨k + 1, m + 1, _, _, _, by go_num, rfl, by omega, by omega, Oq, Mq, HBq⟩
        case measure => simp [intOf]; omega
      | true =>
        by_cases hm0 : m = 0
        · subst hm0
          refine takeB 4 rfl (by kernel_rfl) (fun _ _ _ h => h) (by rfl) (by intro w' hg; go_simp; try with_reducible rfl) ?_
          refine takeB 5 rfl (by kernel_rfl) (fun _ _ _ h => h) (by rfl) (by intro w' hg; go_simp; try with_reducible rfl) ?_
          refine takeB 6 rfl (by kernel_rfl) (fun _ _ _ h => h) (by kernel_rfl) (by intro w' hg; go_simp; try with_reducible rfl) ?_
          refine takeB 7 rfl (by kernel_rfl) (fun _ _ _ h => h) (by kernel_rfl) (by intro w' hg; go_simp; try with_reducible rfl) ?_
          refine takeB 8 rfl (by kernel_rfl) (fun _ _ _ h => h) (by kernel_rfl) (by intro w' hg; go_simp; try with_reducible rfl) ?_
          refine takeB 9 rfl (by kernel_rfl) (fun _ _ _ h => h) (by kernel_rfl) (by intro w' hg; go_simp; try with_reducible rfl) ?_
          refine skipB 10 rfl (by kernel_rfl) (fun _ _ _ h => h) (by kernel_rfl) ?_
          refine skipB 11 rfl (by kernel_rfl) (fun _ _ _ h => h) (by kernel_rfl) ?_
          refine skipB 12 rfl (by kernel_rfl) (fun _ _ _ h => h) (by kernel_rfl) ?_
          refine skipB 13 rfl (by kernel_rfl) (fun _ _ _ h => h) (by kernel_rfl) ?_
          refine skipB 14 rfl (by kernel_rfl) (fun _ _ _ h => h) (by kernel_rfl) ?_
          refine skipB 15 rfl (by kernel_rfl) (fun _ _ _ h => h) (by kernel_rfl) ?_
          refine skipB 16 rfl (by kernel_rfl) (fun _ _ _ h => h) (by kernel_rfl) ?_
          refine skipB 17 rfl (by kernel_rfl) (fun _ _ _ h => h) (by kernel_rfl) ?_
          refine skipB 18 rfl (by kernel_rfl) (fun _ _ _ h => h) (by kernel_rfl) ?_
          refine skipB 19 rfl (by kernel_rfl) (fun _ _ _ h => h) (by kernel_rfl) ?_
          refine takeB 20 rfl (by kernel_rfl) (fun _ _ _ h => h) (by kernel_rfl) (by intro w' hg; go_simp; try with_reducible rfl) ?_
          refine takeB 21 rfl (by kernel_rfl) (fun _ _ _ h => h) (by rfl) (by intro w' hg; go_simp; try with_reducible rfl) ?_
          refine doneB (by kernel_rfl) ?_
          go_simp
          go_wp2_with (first | (refine load_nm rfl _ rfl rfl O ?_) | fail)
          refine (copied_any x W.heap.size I _ (HI.out.below HB.out) (by have := HB.out.size; omega) HX.out.2).mono ?_
          rintro e wap ⟨A2p, c2p, I2p, rfl, hown2, hb2⟩
          rw [show nc ⟨x.path, x.kind, ⟨A2p, x.ids.n, c2p⟩⟩ = #[.string ⟨x.path.toArray⟩, .int .i64 x.kind, .slice A2p x.ids.n c2p] from rfl]
          have Map := hide (M.out.later hb2)
          have hidp := hide (own_weaken (base' := W.heap.size + 1) hown2 M.out.base_le)
          have HBap := hide (HB.out.trans (hb2.mono HB.out.size))
          have Oap := O.below hb2 O.lt
          have Nap := N.below hb2 N.lt
          clear hown2 hb2
          have hrowp := Map.out.own.1.alloc (.cells #[.string ⟨x.path.toArray⟩, .int .i64 x.kind, .slice A2p x.ids.n c2p] 64)
          have hthreep : Row _ _ 3 _ 1 [.string ⟨x.path.toArray⟩, .int .i64 x.kind, .slice A2p x.ids.n c2p] := Row.three wap ⟨x.path, x.kind, ⟨A2p, x.ids.n, c2p⟩⟩ 64
          have hbsp : W.heap.size + 1 ≤ (wap.alloc (.cells #[.string ⟨x.path.toArray⟩, .int .i64 x.kind, .slice A2p x.ids.n c2p] 64)).heap.size := by have := Map.out.base_le; simp; omega
          have HBcp := hide (HBap.out.alloc (by have := Map.out.base_le; omega) (.cells #[.string ⟨x.path.toArray⟩, .int .i64 x.kind, .slice A2p x.ids.n c2p] 64))
          have Ocp := Oap.alloc (.cells #[.string ⟨x.path.toArray⟩, .int .i64 x.kind, .slice A2p x.ids.n c2p] 64)
          have hlOp := Oap.lt
          have Ncp := Nap.alloc (.cells #[.string ⟨x.path.toArray⟩, .int .i64 x.kind, .slice A2p x.ids.n c2p] 64)
          have hlNp := Nap.lt
          have hscp : (wap.alloc (.cells #[.string ⟨x.path.toArray⟩, .int .i64 x.kind, .slice A2p x.ids.n c2p] 64)).heap.size = wap.heap.size + 1 := by simp
          obtain ⟨wcp, hwcp⟩ : ∃ wc, wap.alloc (.cells #[.string ⟨x.path.toArray⟩, .int .i64 x.kind, .slice A2p x.ids.n c2p] 64) = wc := ⟨_, rfl⟩
          rw [hwcp] at hrowp hthreep hbsp HBcp hscp Ocp Ncp
          have neOp : some W.heap.size ≠ blk A' := fun e => by have := (hrowp.lt W.heap.size (by rw [ownBlock_slice]; exact e.symm)).1; omega
          have neNp : some g ≠ blk A' := hne
          go_wp2_with (first | (at_builtin; refine wpList_append_rd rfl _ _ _ rfl nmTy (base := W.heap.size + 1) rfl hrowp rfl hthreep (by simp [Value.oneCell']) (by unfold maxLen; omega) (by omega) hbsp ?_; intro A3p c3p wbp hown3 hg3 hat3; rw [show nmv L ++ [.string ⟨x.path.toArray⟩, .int .i64 x.kind, .slice A2p x.ids.n c2p] = nmv (L ++ [⟨x.path, x.kind, ⟨A2p, x.ids.n, c2p⟩⟩]) from nmv_snoc L ⟨x.path, x.kind, ⟨A2p, x.ids.n, c2p⟩⟩] at hown3; have HBp := hide (HBcp.out.grown hg3 (by have := Map.out.base_le; omega) (fun k hk => by have := (hrowp.lt k (by rw [ownBlock_slice]; exact hk)).1; omega)); have Op := Ocp.grown hg3 neOp; have Np := Ncp.grown hg3 neNp; rw [← hwcp] at hg3; have Mp := hide (Map.out.more (Below.refl _ _) (x := ⟨x.path, x.kind, ⟨A2p, x.ids.n, c2p⟩⟩) HX.out ⟨_, hidp.out⟩ _ hown3 hg3); have hatp : blk A3p = blk A' ∨ blk A3p = some wcp.heap.size := hat3; clear hown3 hg3 hat3 hrowp hthreep) | (refine load_nm rfl _ rfl rfl Np ?_) | fail)
          have hne2 : some g ≠ blk A3p := fun e => by
            rcases hatp with h | h
            · exact hne (e.trans h)
            · rw [h] at e; injection e with e; omega
          refine (copied_any y W.heap.size II _ (HIW.out.below HBp.out) (by have := HBp.out.size; omega) hy.out.2).mono ?_
          rintro e waq ⟨A2q, c2q, I2q, rfl, hown2, hb2⟩
          rw [show nc ⟨y.path, y.kind, ⟨A2q, y.ids.n, c2q⟩⟩ = #[.string ⟨y.path.toArray⟩, .int .i64 y.kind, .slice A2q y.ids.n c2q] from rfl]
          have Maq := hide (Mp.out.later hb2)
          have hidq := hide (own_weaken (base' := W.heap.size + 1) hown2 Mp.out.base_le)
          have HBaq := hide (HBp.out.trans (hb2.mono HBp.out.size))
          have Opaq := Op.below hb2 Op.lt
          clear hown2 hb2
          have hrowq := Maq.out.own.1.alloc (.cells #[.string ⟨y.path.toArray⟩, .int .i64 y.kind, .slice A2q y.ids.n c2q] 64)
          have hthreeq : Row _ _ 3 _ 1 [.string ⟨y.path.toArray⟩, .int .i64 y.kind, .slice A2q y.ids.n c2q] := Row.three waq ⟨y.path, y.kind, ⟨A2q, y.ids.n, c2q⟩⟩ 64
          have hbsq : W.heap.size + 1 ≤ (waq.alloc (.cells #[.string ⟨y.path.toArray⟩, .int .i64 y.kind, .slice A2q y.ids.n c2q] 64)).heap.size := by have := Maq.out.base_le; simp; omega
          have HBcq := hide (HBaq.out.alloc (by have := Maq.out.base_le; omega) (.cells #[.string ⟨y.path.toArray⟩, .int .i64 y.kind, .slice A2q y.ids.n c2q] 64))
          have Opcq := Opaq.alloc (.cells #[.string ⟨y.path.toArray⟩, .int .i64 y.kind, .slice A2q y.ids.n c2q] 64)
          have hlOpq := Opaq.lt
          have hscq : (waq.alloc (.cells #[.string ⟨y.path.toArray⟩, .int .i64 y.kind, .slice A2q y.ids.n c2q] 64)).heap.size = waq.heap.size + 1 := by simp
          obtain ⟨wcq, hwcq⟩ : ∃ wc, waq.alloc (.cells #[.string ⟨y.path.toArray⟩, .int .i64 y.kind, .slice A2q y.ids.n c2q] 64) = wc := ⟨_, rfl⟩
          rw [hwcq] at hrowq hthreeq hbsq HBcq hscq Opcq
          have neOpq : some W.heap.size ≠ blk A3p := fun e => by have := (hrowq.lt W.heap.size (by rw [ownBlock_slice]; exact e.symm)).1; omega
          go_wp2_with (first | (at_builtin; refine wpList_append_rd rfl _ _ _ rfl nmTy (base := W.heap.size + 1) rfl hrowq rfl hthreeq (by simp [Value.oneCell']) (by unfold maxLen; omega) (by omega) hbsq ?_; intro A3q c3q wbq hown3 hg3 hat3; rw [show nmv (L ++ [⟨x.path, x.kind, ⟨A2p, x.ids.n, c2p⟩⟩]) ++ [.string ⟨y.path.toArray⟩, .int .i64 y.kind, .slice A2q y.ids.n c2q] = nmv ((L ++ [⟨x.path, x.kind, ⟨A2p, x.ids.n, c2p⟩⟩]) ++ [⟨y.path, y.kind, ⟨A2q, y.ids.n, c2q⟩⟩]) from nmv_snoc (L ++ [⟨x.path, x.kind, ⟨A2p, x.ids.n, c2p⟩⟩]) ⟨y.path, y.kind, ⟨A2q, y.ids.n, c2q⟩⟩] at hown3; have HBq := hide (HBcq.out.grown hg3 (by have := Maq.out.base_le; omega) (fun k hk => by have := (hrowq.lt k (by rw [ownBlock_slice]; exact hk)).1; omega)); have Opq := Opcq.grown hg3 neOpq; rw [← hwcq] at hg3; have Mq := hide (Maq.out.more (Below.refl _ _) (x := ⟨y.path, y.kind, ⟨A2q, y.ids.n, c2q⟩⟩) hy.out ⟨_, hidq.out⟩ _ hown3 hg3); have hatq : blk A3q = blk A3p ∨ blk A3q = some wcq.heap.size := hat3; clear hown3 hg3 hat3 hrowq hthreeq) | fail)
          go_roundw
          case rel => exact ⟨k + 1, 2, _, _, _, by go_num, rfl, by omega, by omega, Opq, Mq, HBq⟩
          case measure => simp [intOf]; omega
        · obtain ⟨b2, p, hA2, hb2l, hp⟩ := HJ.out (by omega)
          subst hA2
          obtain ⟨q, rfl⟩ : ∃ q, m = q + 1 := ⟨m - 1, by omega⟩
          rw [Nat.add_sub_cancel] at hp
          have hq1 : ¬ ((q + 1 : Nat) : Int) = 0 := by omega
          have hq2 : (((q + 1 : Nat) : Int) == 0) = false := by simp; omega
          have hcast : ((q + 1 : Nat) : Int) - 1 = (q : Int) := by omega
          have hwr : IntKind.i64.wrap (q : Int) = (q : Int) := IntWalk.i64_in _ (by omega)
          have hq0 : (0 : Int) ≤ (q : Int) := by omega
          have hqn' : (q : Int) < ((q + 1 : Nat) : Int) := by omega
          have hqn2 : (q : Int) < (q : Int) + 1 := by omega
          obtain ⟨gb, hgb⟩ : ∃ gb : Bool, Op.bytesLess p.toList sx.toList = gb := ⟨_, rfl⟩
          refine takeB 4 rfl (by kernel_rfl) (fun _ _ _ h => h) (by rfl) (by intro w' hg; go_simp; try with_reducible rfl) ?_
          refine takeB 5 rfl (by kernel_rfl) (fun _ _ _ h => h) (by rfl) (by intro w' hg; go_simp; try with_reducible rfl) ?_
          refine takeB 6 rfl (by kernel_rfl) (fun _ _ _ h => h) (by kernel_rfl) (by intro w' hg; go_simp; try with_reducible rfl) ?_
          refine takeB 7 rfl (by kernel_rfl) (fun _ _ _ h => h) (by kernel_rfl) (by intro w' hg; go_simp; try with_reducible rfl) ?_
          refine takeB 8 rfl (by kernel_rfl) (fun _ _ _ h => h) (by kernel_rfl) (by intro w' hg; go_simp; try with_reducible rfl) ?_
          refine takeB 9 rfl (by kernel_rfl) (fun _ _ _ h => h) (by kernel_rfl) (by intro w' hg; go_simp; try with_reducible rfl) ?_
          refine takeB 10 rfl (by kernel_rfl) (fun _ _ _ h => h) (by kernel_rfl) (by intro w' hg; go_simp; try with_reducible rfl) ?_
          refine takeB 11 rfl (by kernel_rfl) (fun _ _ _ h => h) (by kernel_rfl) (by intro w' hg; go_simp; try with_reducible rfl) ?_
          refine takeB 12 rfl (by kernel_rfl) (fun _ _ _ h => h) (by kernel_rfl) (by intro w' hg; go_simp; try with_reducible rfl) ?_
          refine takeB 13 rfl (by kernel_rfl) (fun _ _ _ h => h) (by kernel_rfl) (by intro w' hg; go_simp; try with_reducible rfl) ?_
          refine takeB 14 rfl (by kernel_rfl) (fun _ _ _ h => h) (by kernel_rfl) (by intro w' hg; go_simp; try with_reducible rfl) ?_
          refine takeB 15 rfl (by kernel_rfl) (fun _ _ _ h => h) (by kernel_rfl) (by intro w' hg; go_simp; try with_reducible rfl) ?_
          refine takeB 16 rfl (by kernel_rfl) (fun _ _ _ h => h) (by kernel_rfl) (by intro w' hg; have g1 := (hg.cell (p := ⟨b2, q * 3, none⟩) (by show b2 < _; omega)).trans hp; go_simp; try with_reducible rfl) ?_
          refine takeB 17 rfl (by kernel_rfl) (fun _ _ _ h => h) (by kernel_rfl) (by intro w' hg; go_simp; try with_reducible rfl) ?_
          refine takeB 18 rfl (by kernel_rfl) (fun _ _ _ h => h) (by kernel_rfl) (by intro w' hg; have g1 := (hg.cell (p := ⟨W.heap.size, 0, none⟩) (by show W.heap.size < _; omega)).trans dx; go_simp; try with_reducible rfl) ?_
          clear hcast hwr
          cases gb with
          | true =>
            refine takeB 19 rfl (by kernel_rfl) (fun _ _ _ h => h) (by kernel_rfl) (by intro w' hg; go_simp; try with_reducible rfl) ?_
            refine takeB 20 rfl (by kernel_rfl) (fun _ _ _ h => h) (by kernel_rfl) (by intro w' hg; go_simp; try with_reducible rfl) ?_
            refine takeB 21 rfl (by kernel_rfl) (fun _ _ _ h => h) (by rfl) (by intro w' hg; go_simp; try with_reducible rfl) ?_
            refine doneB (by kernel_rfl) ?_
            go_simp
            go_wp2_with (first | (refine load_nm rfl _ rfl rfl O ?_) | fail)
            refine (copied_any x W.heap.size I _ (HI.out.below HB.out) (by have := HB.out.size; omega) HX.out.2).mono ?_
            rintro e wap ⟨A2p, c2p, I2p, rfl, hown2, hb2⟩
            rw [show nc ⟨x.path, x.kind, ⟨A2p, x.ids.n, c2p⟩⟩ = #[.string ⟨x.path.toArray⟩, .int .i64 x.kind, .slice A2p x.ids.n c2p] from rfl]
            have Map := hide (M.out.later hb2)
            have hidp := hide (own_weaken (base' := W.heap.size + 1) hown2 M.out.base_le)
            have HBap := hide (HB.out.trans (hb2.mono HB.out.size))
            have Oap := O.below hb2 O.lt
            have Nap := N.below hb2 N.lt
            clear hown2 hb2
            have hrowp := Map.out.own.1.alloc (.cells #[.string ⟨x.path.toArray⟩, .int .i64 x.kind, .slice A2p x.ids.n c2p] 64)
            have hthreep : Row _ _ 3 _ 1 [.string ⟨x.path.toArray⟩, .int .i64 x.kind, .slice A2p x.ids.n c2p] := Row.three wap ⟨x.path, x.kind, ⟨A2p, x.ids.n, c2p⟩⟩ 64
            have hbsp : W.heap.size + 1 ≤ (wap.alloc (.cells #[.string ⟨x.path.toArray⟩, .int .i64 x.kind, .slice A2p x.ids.n c2p] 64)).heap.size := by have := Map.out.base_le; simp; omega
            have HBcp := hide (HBap.out.alloc (by have := Map.out.base_le; omega) (.cells #[.string ⟨x.path.toArray⟩, .int .i64 x.kind, .slice A2p x.ids.n c2p] 64))
            have Ocp := Oap.alloc (.cells #[.string ⟨x.path.toArray⟩, .int .i64 x.kind, .slice A2p x.ids.n c2p] 64)
            have hlOp := Oap.lt
            have Ncp := Nap.alloc (.cells #[.string ⟨x.path.toArray⟩, .int .i64 x.kind, .slice A2p x.ids.n c2p] 64)
            have hlNp := Nap.lt
            have hscp : (wap.alloc (.cells #[.string ⟨x.path.toArray⟩, .int .i64 x.kind, .slice A2p x.ids.n c2p] 64)).heap.size = wap.heap.size + 1 := by simp
            obtain ⟨wcp, hwcp⟩ : ∃ wc, wap.alloc (.cells #[.string ⟨x.path.toArray⟩, .int .i64 x.kind, .slice A2p x.ids.n c2p] 64) = wc := ⟨_, rfl⟩
            rw [hwcp] at hrowp hthreep hbsp HBcp hscp Ocp Ncp
            have neOp : some W.heap.size ≠ blk (some ⟨b2, 0, none⟩) := fun e => by have := (hrowp.lt W.heap.size (by rw [ownBlock_slice]; exact e.symm)).1; omega
            have neNp : some g ≠ blk (some ⟨b2, 0, none⟩) := hne
            go_wp2_with (first | (at_builtin; refine wpList_append_rd rfl _ _ _ rfl nmTy (base := W.heap.size + 1) rfl hrowp rfl hthreep (by simp [Value.oneCell']) (by unfold maxLen; omega) (by omega) hbsp ?_; intro A3p c3p wbp hown3 hg3 hat3; rw [show nmv L ++ [.string ⟨x.path.toArray⟩, .int .i64 x.kind, .slice A2p x.ids.n c2p] = nmv (L ++ [⟨x.path, x.kind, ⟨A2p, x.ids.n, c2p⟩⟩]) from nmv_snoc L ⟨x.path, x.kind, ⟨A2p, x.ids.n, c2p⟩⟩] at hown3; have HBp := hide (HBcp.out.grown hg3 (by have := Map.out.base_le; omega) (fun k hk => by have := (hrowp.lt k (by rw [ownBlock_slice]; exact hk)).1; omega)); have Op := Ocp.grown hg3 neOp; have Np := Ncp.grown hg3 neNp; rw [← hwcp] at hg3; have Mp := hide (Map.out.more (Below.refl _ _) (x := ⟨x.path, x.kind, ⟨A2p, x.ids.n, c2p⟩⟩) HX.out ⟨_, hidp.out⟩ _ hown3 hg3); have hatp : blk A3p = blk (some ⟨b2, 0, none⟩) ∨ blk A3p = some wcp.heap.size := hat3; clear hown3 hg3 hat3 hrowp hthreep) | (refine load_nm rfl _ rfl rfl Np ?_) | fail)
            have hne2 : some g ≠ blk A3p := fun e => by
              rcases hatp with h | h
              · exact hne (e.trans h)
              · rw [h] at e; injection e with e; omega
            refine (copied_any y W.heap.size II _ (HIW.out.below HBp.out) (by have := HBp.out.size; omega) hy.out.2).mono ?_
            rintro e waq ⟨A2q, c2q, I2q, rfl, hown2, hb2⟩
            rw [show nc ⟨y.path, y.kind, ⟨A2q, y.ids.n, c2q⟩⟩ = #[.string ⟨y.path.toArray⟩, .int .i64 y.kind, .slice A2q y.ids.n c2q] from rfl]
            have Maq := hide (Mp.out.later hb2)
            have hidq := hide (own_weaken (base' := W.heap.size + 1) hown2 Mp.out.base_le)
            have HBaq := hide (HBp.out.trans (hb2.mono HBp.out.size))
            have Opaq := Op.below hb2 Op.lt
            clear hown2 hb2
            have hrowq := Maq.out.own.1.alloc (.cells #[.string ⟨y.path.toArray⟩, .int .i64 y.kind, .slice A2q y.ids.n c2q] 64)
            have hthreeq : Row _ _ 3 _ 1 [.string ⟨y.path.toArray⟩, .int .i64 y.kind, .slice A2q y.ids.n c2q] := Row.three waq ⟨y.path, y.kind, ⟨A2q, y.ids.n, c2q⟩⟩ 64
            have hbsq : W.heap.size + 1 ≤ (waq.alloc (.cells #[.string ⟨y.path.toArray⟩, .int .i64 y.kind, .slice A2q y.ids.n c2q] 64)).heap.size := by have := Maq.out.base_le; simp; omega
            have HBcq := hide (HBaq.out.alloc (by have := Maq.out.base_le; omega) (.cells #[.string ⟨y.path.toArray⟩, .int .i64 y.kind, .slice A2q y.ids.n c2q] 64))
            have Opcq := Opaq.alloc (.cells #[.string ⟨y.path.toArray⟩, .int .i64 y.kind, .slice A2q y.ids.n c2q] 64)
            have hlOpq := Opaq.lt
            have hscq : (waq.alloc (.cells #[.string ⟨y.path.toArray⟩, .int .i64 y.kind, .slice A2q y.ids.n c2q] 64)).heap.size = waq.heap.size + 1 := by simp
            obtain ⟨wcq, hwcq⟩ : ∃ wc, waq.alloc (.cells #[.string ⟨y.path.toArray⟩, .int .i64 y.kind, .slice A2q y.ids.n c2q] 64) = wc := ⟨_, rfl⟩
            rw [hwcq] at hrowq hthreeq hbsq HBcq hscq Opcq
            have neOpq : some W.heap.size ≠ blk A3p := fun e => by have := (hrowq.lt W.heap.size (by rw [ownBlock_slice]; exact e.symm)).1; omega
            go_wp2_with (first | (at_builtin; refine wpList_append_rd rfl _ _ _ rfl nmTy (base := W.heap.size + 1) rfl hrowq rfl hthreeq (by simp [Value.oneCell']) (by unfold maxLen; omega) (by omega) hbsq ?_; intro A3q c3q wbq hown3 hg3 hat3; rw [show nmv (L ++ [⟨x.path, x.kind, ⟨A2p, x.ids.n, c2p⟩⟩]) ++ [.string ⟨y.path.toArray⟩, .int .i64 y.kind, .slice A2q y.ids.n c2q] = nmv ((L ++ [⟨x.path, x.kind, ⟨A2p, x.ids.n, c2p⟩⟩]) ++ [⟨y.path, y.kind, ⟨A2q, y.ids.n, c2q⟩⟩]) from nmv_snoc (L ++ [⟨x.path, x.kind, ⟨A2p, x.ids.n, c2p⟩⟩]) ⟨y.path, y.kind, ⟨A2q, y.ids.n, c2q⟩⟩] at hown3; have HBq := hide (HBcq.out.grown hg3 (by have := Maq.out.base_le; omega) (fun k hk => by have := (hrowq.lt k (by rw [ownBlock_slice]; exact hk)).1; omega)); have Opq := Opcq.grown hg3 neOpq; rw [← hwcq] at hg3; have Mq := hide (Maq.out.more (Below.refl _ _) (x := ⟨y.path, y.kind, ⟨A2q, y.ids.n, c2q⟩⟩) hy.out ⟨_, hidq.out⟩ _ hown3 hg3); have hatq : blk A3q = blk A3p ∨ blk A3q = some wcq.heap.size := hat3; clear hown3 hg3 hat3 hrowq hthreeq) | fail)
            go_roundw
            case rel => exact ⟨k + 1, q + 1 + 1 + 1, _, _, _, by go_num, rfl, by omega, by omega, Opq, Mq, HBq⟩
            case measure => simp [intOf]; omega
          | false =>
            refine takeB 19 rfl (by kernel_rfl) (fun _ _ _ h => h) (by kernel_rfl) (by intro w' hg; go_simp; try with_reducible rfl) ?_
            refine takeB 20 rfl (by kernel_rfl) (fun _ _ _ h => h) (by kernel_rfl) (by intro w' hg; go_simp; try with_reducible rfl) ?_
            refine takeB 21 rfl (by kernel_rfl) (fun _ _ _ h => h) (by rfl) (by intro w' hg; go_simp; try with_reducible rfl) ?_
            refine doneB (by kernel_rfl) ?_
            go_simp
            go_wp2_with (first | (refine load_nm rfl _ rfl rfl N ?_) | fail)
            refine (copied_any y W.heap.size II _ (HIW.out.below HB.out) (by have := HB.out.size; omega) hy.out.2).mono ?_
            rintro e waq ⟨A2q, c2q, I2q, rfl, hown2, hb2⟩
            rw [show nc ⟨y.path, y.kind, ⟨A2q, y.ids.n, c2q⟩⟩ = #[.string ⟨y.path.toArray⟩, .int .i64 y.kind, .slice A2q y.ids.n c2q] from rfl]
            have Maq := hide (M.out.later hb2)
            have hidq := hide (own_weaken (base' := W.heap.size + 1) hown2 M.out.base_le)
            have HBaq := hide (HB.out.trans (hb2.mono HB.out.size))
            have Oaq := O.below hb2 O.lt
            clear hown2 hb2
            have hrowq := Maq.out.own.1.alloc (.cells #[.string ⟨y.path.toArray⟩, .int .i64 y.kind, .slice A2q y.ids.n c2q] 64)
            have hthreeq : Row _ _ 3 _ 1 [.string ⟨y.path.toArray⟩, .int .i64 y.kind, .slice A2q y.ids.n c2q] := Row.three waq ⟨y.path, y.kind, ⟨A2q, y.ids.n, c2q⟩⟩ 64
            have hbsq : W.heap.size + 1 ≤ (waq.alloc (.cells #[.string ⟨y.path.toArray⟩, .int .i64 y.kind, .slice A2q y.ids.n c2q] 64)).heap.size := by have := Maq.out.base_le; simp; omega
            have HBcq := hide (HBaq.out.alloc (by have := Maq.out.base_le; omega) (.cells #[.string ⟨y.path.toArray⟩, .int .i64 y.kind, .slice A2q y.ids.n c2q] 64))
            have Ocq := Oaq.alloc (.cells #[.string ⟨y.path.toArray⟩, .int .i64 y.kind, .slice A2q y.ids.n c2q] 64)
            have hlOq := Oaq.lt
            have hscq : (waq.alloc (.cells #[.string ⟨y.path.toArray⟩, .int .i64 y.kind, .slice A2q y.ids.n c2q] 64)).heap.size = waq.heap.size + 1 := by simp
            obtain ⟨wcq, hwcq⟩ : ∃ wc, waq.alloc (.cells #[.string ⟨y.path.toArray⟩, .int .i64 y.kind, .slice A2q y.ids.n c2q] 64) = wc := ⟨_, rfl⟩
            rw [hwcq] at hrowq hthreeq hbsq HBcq hscq Ocq
            have neOq : some W.heap.size ≠ blk (some ⟨b2, 0, none⟩) := fun e => by have := (hrowq.lt W.heap.size (by rw [ownBlock_slice]; exact e.symm)).1; omega
            go_wp2_with (first | (at_builtin; refine wpList_append_rd rfl _ _ _ rfl nmTy (base := W.heap.size + 1) rfl hrowq rfl hthreeq (by simp [Value.oneCell']) (by unfold maxLen; omega) (by omega) hbsq ?_; intro A3q c3q wbq hown3 hg3 hat3; rw [show nmv L ++ [.string ⟨y.path.toArray⟩, .int .i64 y.kind, .slice A2q y.ids.n c2q] = nmv (L ++ [⟨y.path, y.kind, ⟨A2q, y.ids.n, c2q⟩⟩]) from nmv_snoc L ⟨y.path, y.kind, ⟨A2q, y.ids.n, c2q⟩⟩] at hown3; have HBq := hide (HBcq.out.grown hg3 (by have := Maq.out.base_le; omega) (fun k hk => by have := (hrowq.lt k (by rw [ownBlock_slice]; exact hk)).1; omega)); have Oq := Ocq.grown hg3 neOq; rw [← hwcq] at hg3; have Mq := hide (Maq.out.more (Below.refl _ _) (x := ⟨y.path, y.kind, ⟨A2q, y.ids.n, c2q⟩⟩) hy.out ⟨_, hidq.out⟩ _ hown3 hg3); have hatq : blk A3q = blk (some ⟨b2, 0, none⟩) ∨ blk A3q = some wcq.heap.size := hat3; clear hown3 hg3 hat3 hrowq hthreeq) | fail)
            go_roundw
            case rel => exact ⟨k + 1, q + 1 + 1, _, _, _, by go_num, rfl, by omega, by omega, Oq, Mq, HBq⟩
            case measure => simp [intOf]; omega
    · obtain rfl : k = n := by omega
      have hmn' : m ≤ 2 * k := hm
      by_cases hmn : m = k
      case neg =>
        have e1 : ((m : Int) == (k : Int)) = false := by simp; omega
        have e2 : ¬ (m : Int) = (k : Int) := by omega
        go_wp2_with fail
        go_ret
        exact ⟨A', m, c', L, rfl, by omega, M.out, HB.out⟩
      subst hmn
      go_wp2_with (first | (refine load_nm rfl _ rfl rfl O ?_) | fail)
      refine (copied_any x W.heap.size I _ (HI.out.below HB.out) (by have := HB.out.size; omega) HX.out.2).mono ?_
      rintro e waE ⟨A2E, c2E, I2E, rfl, hown2, hb2⟩
      rw [show nc ⟨x.path, x.kind, ⟨A2E, x.ids.n, c2E⟩⟩ = #[.string ⟨x.path.toArray⟩, .int .i64 x.kind, .slice A2E x.ids.n c2E] from rfl]
      have MaE := hide (M.out.later hb2)
      have hidE := hide (own_weaken (base' := W.heap.size + 1) hown2 M.out.base_le)
      have HBaE := hide (HB.out.trans (hb2.mono HB.out.size))
      clear hown2 hb2
      have hrowE := MaE.out.own.1.alloc (.cells #[.string ⟨x.path.toArray⟩, .int .i64 x.kind, .slice A2E x.ids.n c2E] 64)
      have hthreeE : Row _ _ 3 _ 1 [.string ⟨x.path.toArray⟩, .int .i64 x.kind, .slice A2E x.ids.n c2E] := Row.three waE ⟨x.path, x.kind, ⟨A2E, x.ids.n, c2E⟩⟩ 64
      have hbsE : W.heap.size + 1 ≤ (waE.alloc (.cells #[.string ⟨x.path.toArray⟩, .int .i64 x.kind, .slice A2E x.ids.n c2E] 64)).heap.size := by have := MaE.out.base_le; simp; omega
      have HBcE := hide (HBaE.out.alloc (by have := MaE.out.base_le; omega) (.cells #[.string ⟨x.path.toArray⟩, .int .i64 x.kind, .slice A2E x.ids.n c2E] 64))
      have hscE : (waE.alloc (.cells #[.string ⟨x.path.toArray⟩, .int .i64 x.kind, .slice A2E x.ids.n c2E] 64)).heap.size = waE.heap.size + 1 := by simp
      obtain ⟨wcE, hwcE⟩ : ∃ wc, waE.alloc (.cells #[.string ⟨x.path.toArray⟩, .int .i64 x.kind, .slice A2E x.ids.n c2E] 64) = wc := ⟨_, rfl⟩
      rw [hwcE] at hrowE hthreeE hbsE HBcE hscE 
      go_wp2_with (first | (at_builtin; refine wpList_append_rd rfl _ _ _ rfl nmTy (base := W.heap.size + 1) rfl hrowE rfl hthreeE (by simp [Value.oneCell']) (by unfold maxLen; omega) (by omega) hbsE ?_; intro A3E c3E wbE hown3 hg3 hat3; rw [show nmv L ++ [.string ⟨x.path.toArray⟩, .int .i64 x.kind, .slice A2E x.ids.n c2E] = nmv (L ++ [⟨x.path, x.kind, ⟨A2E, x.ids.n, c2E⟩⟩]) from nmv_snoc L ⟨x.path, x.kind, ⟨A2E, x.ids.n, c2E⟩⟩] at hown3; have HBE := hide (HBcE.out.grown hg3 (by have := MaE.out.base_le; omega) (fun k hk => by have := (hrowE.lt k (by rw [ownBlock_slice]; exact hk)).1; omega)); rw [← hwcE] at hg3; have ME := hide (MaE.out.more (Below.refl _ _) (x := ⟨x.path, x.kind, ⟨A2E, x.ids.n, c2E⟩⟩) HX.out ⟨_, hidE.out⟩ _ hown3 hg3); have hatE : blk A3E = blk A' ∨ blk A3E = some wcE.heap.size := hat3; clear hown3 hg3 hat3 hrowE hthreeE) | fail)
      go_ret
      exact ⟨A3E, m + 1, c3E, _, rfl, by omega, ME.out, HBE.out⟩
end Go.Proofs.Ytcgiobffobonpaa
