/- Made objects: pipes: a contract. -/
import Derived.Test.YtcgiobffobonpaaObKinds
namespace Go.Proofs.Ytcgiobffobonpaa
open Go.RowKit

/-- Sixty-four bytes that are 0. -/
theorem wpList_make64 {ops : Array Oper} {rest : List Oper} {o : Oper} {a : Act} {w : World} {Q : Exit → Act → World → Prop} (hgd : o.guard = none) (l c : Operand) (hop : o.op = Op.makeSlice 36 l c) (hl : a.eval l = .int .i64 64) (hc : a.eval c = .int .i64 64) (base : Nat) (hbase : base ≤ w.heap.size)
    (hK : ∀ A w', (∃ D, w'.ownsRow base 5 1 (.slice A 64 64) 64 (bv D)) → Below w.heap.size w w' → wpList Try.prog ops Q rest (a.put o.dst (.slice A 64 64)) w') : wpList Try.prog ops Q (o :: rest) a w := by
  obtain ⟨i0, hi, hz0, hz1, hz2⟩ := info_parts (show (Try.prog.info? 5).map (fun i => (i.zero, i.size, i.bytes)) = some (some (.int .u8 0), 1, 1) by kernel_rfl)
  refine wpList_make_full w hgd l c _ hop base 5 i0 (.int .u8 0) 1 Try.underlying36 hi hz0 hz1 .i64 .i64 64 64 64 hl hc rfl rfl (by rw [hz2]; omega) (by unfold maxLen; omega) hbase ?_
  intro w' h1 h2
  refine hK _ w' ⟨List.replicate 64 0, ?_⟩ ⟨h2.os, h2.tape, h2.output, h2.size, fun k hk => h2.block k hk (by simp)⟩
  rw [show (madeCells (Value.int .u8 0).cells (64 * 1)).toList = bv (List.replicate 64 0) from by kernel_rfl] at h1
  exact h1

set_option maxRecDepth 100000 in
set_option maxHeartbeats 8000000 in
theorem pipe_dice (C b : Nat) (id : Int) (W : World) (h : Dice W C b) : Calls Try.prog 30 #[.pointer (some ⟨b, 0, none⟩), .int .u64 id] W (ObThrown C b W) := by
  obtain ⟨w1, hw, OR, hb, hs⟩ := start_z W
  have hbl := h.lt
  have hCb := h.le
  have HD := hide (h.below hb)
  have HB := hide (Bel.of (b := b) hb)
  clear hb h
  go_enter Try.func30, Try.ntmps30
  go_wp2_with fail
  refine (pipeNew id _).mono ?_
  rintro e w2 ⟨rfl, hb2⟩
  obtain ⟨w3, hw3, m, hm, w4, hw4, OZ, O, hb4, hs4⟩ := laid_ob { Ob.zero with id := id, kind := 5, readers := 1, writers := 1 } w2
  have hmW : W.heap.size < m := by have := hb2.size; omega
  have OR4 := (OR.below hb2 OR.lt).below hb4 (by omega)
  have HD4 := hide ((HD.out.below hb2).below hb4)
  have HB4 := hide (HB.out.trans (Bel.of (b := b) ((hb2.trans (hb4.mono hb2.size)).mono (by omega))))
  clear hb2 hb4 OR HD HB hw hs
  go_wp2_with (first | (refine store_ob rfl _ _ rfl rfl (c := { Ob.zero with id := id, kind := 5, readers := 1, writers := 1 }) rfl OZ rfl ?_; rw [hw4]) | fail)
  refine (next_dice C b 3 _ HD4.out (by omega) (by omega)).mono ?_
  rintro e w5 ⟨r, rfl, hr, hD, hB⟩
  have O5 := hB.obl' O (by omega)
  have OR5 := hB.obl' OR4 (by omega)
  have HD5 := hide hD
  have HB5 := hide (HB4.out.trans (hB.mono HB4.out.size))
  clear hD hB O OR4 HD4 HB4 OZ hw4 hw3
  go_wp2_with fail
  refine (next_dice C b 3 _ HD5.out (by omega) (by omega)).mono ?_
  rintro e w6 ⟨u, rfl, hu, hD, hB⟩
  have O6 := hB.obl' O5 (by omega)
  have OR6 := hB.obl' OR5 (by omega)
  have z27 := O6.free 27
  have k27 : w6.cell? ⟨m, 27, none⟩ = some (.int .i64 1) := O6.cell 27
  have O7 : Obl (w6.setCell ⟨m, 27, none⟩ (.int .i64 r)) m 41 (oc { Ob.zero with id := id, kind := 5, readers := r, writers := 1 }) := O6.put 27 _
  have OR7 := OR6.put_other (b' := m) (by omega) 27 (.int .i64 r)
  have z28 := O7.free 28
  have k28 : (w6.setCell ⟨m, 27, none⟩ (.int .i64 r)).cell? ⟨m, 28, none⟩ = some (.int .i64 1) := O7.cell 28
  have O8 : Obl ((w6.setCell ⟨m, 27, none⟩ (.int .i64 r)).setCell ⟨m, 28, none⟩ (.int .i64 u)) m 41 (oc { Ob.zero with id := id, kind := 5, readers := r, writers := u }) := O7.put 28 _
  have OR8 := OR7.put_other (b' := m) (by omega) 28 (.int .i64 u)
  have HD8 := hide ((hD.put_other (g := m) (by omega) (by omega) 27 (.int .i64 r)).put_other (g := m) (by omega) (by omega) 28 (.int .i64 u))
  have HB8 := hide (((HB5.out.trans (hB.mono HB5.out.size)).setGe (g := m) (by omega) 27 (.int .i64 r)).setGe (g := m) (by omega) 28 (.int .i64 u))
  obtain ⟨w8, hw8⟩ : ∃ w8, (w6.setCell ⟨m, 27, none⟩ (.int .i64 r)).setCell ⟨m, 28, none⟩ (.int .i64 u) = w8 := ⟨_, rfl⟩
  rw [hw8] at O8 OR8 HD8 HB8
  have j27 : w8.cell? ⟨m, 27, none⟩ = some (.int .i64 r) := O8.cell 27
  have j28 : w8.cell? ⟨m, 28, none⟩ = some (.int .i64 u) := O8.cell 28
  have y27 := O8.free 27
  obtain ⟨hr0, hr1⟩ := hr
  obtain ⟨hu0, hu1⟩ := hu
  clear hD hB O5 OR5 HD5 HB5 O6 OR6 O7 OR7
  by_cases h0 : r + u = 0
  obtain rfl : r = 0 := by omega
  obtain rfl : u = 0 := by omega
  have O9 : Obl (w8.setCell ⟨m, 27, none⟩ (.int .i64 1)) m 41 (oc { Ob.zero with id := id, kind := 5, readers := 1, writers := 0 }) := O8.put 27 _
  have OR9 := OR8.put_other (b' := m) (by omega) 27 (.int .i64 1)
  have HD9 := hide (HD8.out.put_other (g := m) (by omega) (by omega) 27 (.int .i64 1))
  have HB9 := hide (HB8.out.setGe (g := m) (by omega) 27 (.int .i64 1))
  obtain ⟨w9, hw9⟩ : ∃ w9, w8.setCell ⟨m, 27, none⟩ (.int .i64 1) = w9 := ⟨_, rfl⟩
  rw [hw9] at O9 OR9 HD9 HB9
  obtain ⟨rd, hrd⟩ : ∃ rd : Int, 1 = rd := ⟨_, rfl⟩
  rw [show (oc { Ob.zero with id := id, kind := 5, readers := 1, writers := 0 }) = oc { Ob.zero with id := id, kind := 5, readers := rd, writers := 0 } from by rw [hrd]] at O9
  obtain ⟨wr, hwr⟩ : ∃ wr : Int, 0 = wr := ⟨_, rfl⟩
  rw [show (oc { Ob.zero with id := id, kind := 5, readers := rd, writers := 0 }) = oc { Ob.zero with id := id, kind := 5, readers := rd, writers := wr } from by rw [hwr]] at O9
  have hrd' := hide hrd
  have hwr' := hide hwr
  clear hrd hwr O8 OR8 HD8 HB8
  rotate_left 1
  have e0 : (r + u == 0) = false := by simpa using h0
  have O9 := O8
  have OR9 := OR8
  have HD9 := HD8
  have HB9 := HB8
  obtain ⟨w9, hw9⟩ : ∃ w9, w8 = w9 := ⟨_, rfl⟩
  rw [hw9] at O9 OR9 HD9 HB9 j27 j28
  obtain ⟨rd, hrd⟩ : ∃ rd : Int, r = rd := ⟨_, rfl⟩
  obtain ⟨wr, hwr⟩ : ∃ wr : Int, u = wr := ⟨_, rfl⟩
  have hrd' := hide hrd
  have hwr' := hide hwr
  rw [show (oc { Ob.zero with id := id, kind := 5, readers := r, writers := u }) = oc { Ob.zero with id := id, kind := 5, readers := rd, writers := wr } from by rw [hrd, hwr]] at O9
  clear hrd hwr O8 OR8 HD8 HB8
  all_goals
    go_wp2_with fail
    refine (bytes_dice C b 5 _ HD9.out (by omega)).mono ?_
    rintro e wA ⟨A, n, c, D, rfl, hn, hown, hD, hB⟩
    have hm9 := O9.lt
    have O5 := hB.obl' O9 (by omega)
    have OR5 := hB.obl' OR9 (by omega)
    have z5 := O5.free 24
    have k5 : wA.cell? ⟨m, 24, none⟩ = some (.slice none 0 0) := O5.cell 24
    have HB5 := hide ((HB9.out.trans (hB.mono HB9.out.size)).setGe (g := m) (by omega) 24 (.slice A n c))
    have HD5 := hide (hD.put_other (g := m) (by omega) (by omega) 24 (.slice A n c))
    have HO5 := hide (own_keep hown (keep_put (m := m) (by omega) 24 (.slice A n c)))
    have O6 : Obl (wA.setCell ⟨m, 24, none⟩ (.slice A n c)) m 41 (oc { Ob.zero with id := id, kind := 5, readers := rd, writers := wr, data := ⟨A, n, c⟩ }) := O5.put 24 _
    have OR6 := OR5.put_other (b' := m) (by omega) 24 (.slice A n c)
    obtain ⟨wB, hwB⟩ : ∃ wB, wA.setCell ⟨m, 24, none⟩ (.slice A n c) = wB := ⟨_, rfl⟩
    rw [hwB] at HB5 HD5 HO5 O6 OR6
    have hbase : w9.heap.size ≤ wA.heap.size := hB.size
    clear hown hD hB O9 OR9 HD9 HB9 O5 OR5 hw9
    go_wp2_with fail
    refine (next_dice C b 5 _ HD5.out (by omega) (by omega)).mono ?_
    rintro e wC ⟨v, rfl, hv, hD, hB⟩
    have OC := hB.obl' O6 (by omega)
    have ORC := hB.obl' OR6 (by omega)
    have HDC := hide hD
    have HBC := hide (HB5.out.trans (hB.mono HB5.out.size))
    have HOC := hide (own_keep HO5.out (keep_bel hB (by omega)))
    have hmC := OC.lt
    have hszC : w9.heap.size ≤ wC.heap.size := by have := hB.size; rw [← hwB] at this; simp [World.setCell] at this; omega
    clear hD hB O6 OR6 HD5 HB5 HO5
    by_cases h4 : v = 4
    · subst h4
      go_wp2_with (first | (refine wpList_make64 rfl _ _ rfl rfl rfl w9.heap.size hszC ?_; intro A6 wD hown6 hb6; have HO6 := hide hown6; have OD := OC.below hb6 hmC; have ORD := ORC.below hb6 ORC.lt; have HDD := hide (HDC.out.below hb6); have HBD := hide (HBC.out.trans (Bel.of (b := b) (hb6.mono HBC.out.size))); have zD := OD.free 24; have kD : wD.cell? ⟨m, 24, none⟩ = some (.slice A n c) := OD.cell 24; have OE : Obl (wD.setCell ⟨m, 24, none⟩ (.slice A6 64 64)) m 41 (oc { Ob.zero with id := id, kind := 5, readers := rd, writers := wr, data := ⟨A6, 64, 64⟩ }) := OD.put 24 _; have ORE := ORD.put_other (b' := m) (by omega) 24 (.slice A6 64 64); have HDE := hide (HDD.out.put_other (g := m) (by omega) (by omega) 24 (.slice A6 64 64)); have HBE := hide (HBD.out.setGe (g := m) (by omega) 24 (.slice A6 64 64)); have HOE := hide (HO6.out.imp fun _ h => own_keep h (keep_put (m := m) (by omega) 24 (.slice A6 64 64))); clear hown6 OD ORD HDD HBD HO6; obtain ⟨wE, hwE⟩ : ∃ wE, wD.setCell ⟨m, 24, none⟩ (.slice A6 64 64) = wE := ⟨_, rfl⟩; rw [hwE] at OE ORE HDE HBE HOE) | (refine load_ob rfl _ rfl rfl OE ?_) | (refine store_ob rfl _ _ rfl rfl (c := { Ob.zero with id := id, kind := 5, readers := rd, writers := wr, data := ⟨A6, 64, 64⟩ }) rfl ORE rfl ?_) | fail)
      refine bodyPost_ret (ret_ob rfl _ rfl (ORE.row_same _)) rfl ?_
      exact thrown_own (base := w9.heap.size) ⟨⟨[], own_nil⟩, HOE.out, ⟨[], own_nil⟩, ⟨[], own_nil⟩, ⟨[], own_nil⟩, ⟨[], own_nil, by simp⟩, noProc_zero⟩ (by omega) HDE.out HBE.out hbl hCb
    · have e4 : (v == 4) = false := by simpa using h4
      go_wp2_with (first | (refine load_ob rfl _ rfl rfl OC ?_) | (refine store_ob rfl _ _ rfl rfl (c := { Ob.zero with id := id, kind := 5, readers := rd, writers := wr, data := ⟨A, n, c⟩ }) rfl ORC rfl ?_) | fail)
      refine bodyPost_ret (ret_ob rfl _ rfl (ORC.row_same _)) rfl ?_
      exact thrown_own (base := w9.heap.size) ⟨⟨[], own_nil⟩, ⟨D, HOC.out⟩, ⟨[], own_nil⟩, ⟨[], own_nil⟩, ⟨[], own_nil⟩, ⟨[], own_nil, by simp⟩, noProc_zero⟩ (by omega) HDC.out HBC.out hbl hCb
end Go.Proofs.Ytcgiobffobonpaa
