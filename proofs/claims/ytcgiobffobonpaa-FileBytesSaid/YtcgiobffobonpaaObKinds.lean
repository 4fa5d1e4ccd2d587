/- Made objects: identifiers, files, pipes, semaphores, devices: contracts. -/
import Derived.Test.YtcgiobffobonpaaObMade
import Derived.Test.YtcgiobffobonpaaPgBare
namespace Go.Proofs.Ytcgiobffobonpaa
open Go.RowKit

set_option maxRecDepth 100000 in
set_option maxHeartbeats 4000000 in
theorem make_any (n b s : Int) (hn : 0 ≤ n ∧ n ≤ 2) (hb : 0 ≤ b ∧ b ≤ 1) (hs : 1 ≤ s ∧ s ≤ 9) (W : World) : Calls Try.prog 27 #[.int .i64 n, .int .i64 b, .int .i64 s] W fun e w' => ∃ v, e = .returned (.tuple #[.int .u64 v, .int .i64 0]) ∧ w' = W := by
  obtain ⟨hn0, hn1⟩ := hn
  obtain ⟨hb0, hb1⟩ := hb
  obtain ⟨hs0, hs1⟩ := hs
  go_enter Try.func27, Try.ntmps27
  go_wp2
  go_ret2
  exact ⟨_, rfl, rfl⟩
/-- An identifier, and the dice. -/
def IdThrown (C b : Nat) (w : World) (e : Ending) (w' : World) : Prop := ∃ v, e = .returned (.int .u64 v) ∧ Dice w' C b ∧ Bel w.heap.size b w w'
set_option maxRecDepth 100000 in
set_option maxHeartbeats 4000000 in
theorem id_dice (C b : Nat) (W : World) (h : Dice W C b) : Calls Try.prog 10 #[.pointer (some ⟨b, 0, none⟩)] W (IdThrown C b W) := by
  have HD := hide h
  clear h
  go_enter Try.func10, Try.ntmps10
  go_wp2_with fail
  refine (next_dice C b 3 _ HD.out (by omega) (by omega)).mono ?_
  rintro e w1 ⟨n, rfl, hn, hD, hB⟩
  have HD1 := hide hD
  have HB1 := hide hB
  clear hD hB HD
  go_wp2_with fail
  refine (next_dice C b 2 _ HD1.out (by omega) (by omega)).mono ?_
  rintro e w2 ⟨q, rfl, hq, hD, hB⟩
  have HD2 := hide hD
  have HB2 := hide (HB1.out.then hB)
  clear hD hB HD1 HB1
  go_wp2_with fail
  refine (next_dice C b 9 _ HD2.out (by omega) (by omega)).mono ?_
  rintro e w3 ⟨s, rfl, hs, hD, hB⟩
  have HD3 := hide hD
  have HB3 := hide (HB2.out.then hB)
  have hs0 := hs.1
  have hs1 : s ≤ 8 := by omega
  clear hD hB HD2 HB2
  go_wp2_with fail
  refine (make_any n q (1 + s) ⟨hn.1, by omega⟩ ⟨hq.1, by omega⟩ ⟨by omega, by omega⟩ _).mono ?_
  rintro e w4 ⟨v, rfl, rfl⟩
  go_wp2_with fail
  go_ret
  exact ⟨v, rfl, HD3.out, HB3.out⟩

/-- An object without lists. -/
def Ob.NoLists (o : Ob) : Prop := (o.words = ⟨none, 0, 0⟩ ∧ o.data = ⟨none, 0, 0⟩ ∧ o.backlog = ⟨none, 0, 0⟩ ∧ o.q0 = ⟨none, 0, 0⟩ ∧ o.q1 = ⟨none, 0, 0⟩ ∧ o.names = ⟨none, 0, 0⟩) ∧ o.NoProc
theorem noProc_zero : Ob.zero.NoProc := Ob.zero_bare.2.2
/-- An object without lists is thrown. -/
theorem thrown_none {C b : Nat} {W w : World} {o : Ob} (ho : o.NoLists) (hD : Dice w C b) (hB : Bel W.heap.size b W w) (hbW : b < W.heap.size) (hC : C ≤ b) : ObThrown C b W (.returned (.agg (oc o))) (w.setRow W.heap.size (oc o)) :=
  ⟨o, rfl, OwnOb.none ho.1 ho.2, hD.row_other (by omega) (by omega) _, hB.rowGe (Nat.le_refl _) _⟩
/-- .. with lists. -/
theorem thrown_own {C b base : Nat} {W w : World} {o : Ob} (ho : OwnOb w base o) (hbase : W.heap.size < base) (hD : Dice w C b) (hB : Bel W.heap.size b W w) (hbW : b < W.heap.size) (hC : C ≤ b) : ObThrown C b W (.returned (.agg (oc o))) (w.setRow W.heap.size (oc o)) := by
  have h := ho.row (m := W.heap.size) (by omega) (oc o)
  refine ⟨o, rfl, ?_, hD.row_other (by omega) (by omega) _, hB.rowGe (Nat.le_refl _) _⟩
  exact h.weaken (by omega)

/-- A made file, and the dice. -/
def FileThrown (id : Int) (C b : Nat) (w : World) (e : Ending) (w' : World) : Prop := ∃ A n c D, e = .returned (.agg (oc (Ob.file id ⟨A, n, c⟩))) ∧ n ≤ 12 ∧ w'.ownsRow (w.heap.size + 1) 5 1 (.slice A n c) n (bv D) ∧ Dice w' C b ∧ Bel w.heap.size b w w'
theorem file_own {w : World} {base : Nat} {id : Int} {A : Option Addr} {n c : Nat} {D : List UInt8} (h : w.ownsRow base 5 1 (.slice A n c) n (bv D)) : OwnOb w base (Ob.file id ⟨A, n, c⟩) :=
  ⟨⟨[], own_nil⟩, ⟨D, h⟩, ⟨[], own_nil⟩, ⟨[], own_nil⟩, ⟨[], own_nil⟩, ⟨[], own_nil, by simp⟩, noProc_zero⟩
set_option maxRecDepth 100000 in
set_option maxHeartbeats 8000000 in
theorem file_thrown (C b : Nat) (id : Int) (W : World) (h : Dice W C b) : Calls Try.prog 9 #[.pointer (some ⟨b, 0, none⟩), .int .u64 id] W (FileThrown id C b W) := by
  obtain ⟨w1, hw, OR, hb, hs⟩ := start_z W
  have hbl := h.lt
  have hCb := h.le
  have HD := hide (h.below hb)
  have HB := hide (Bel.of (b := b) hb)
  clear hb h
  go_enter Try.func9, Try.ntmps9
  go_wp2_with fail
  refine (fileNew id _).mono ?_
  rintro e w2 ⟨rfl, hb2⟩
  obtain ⟨w3, hw3, m, hm, w4, hw4, OZ, O, hb4, hs4⟩ := laid_ob { Ob.zero with id := id, kind := 3 } w2
  have hmW : W.heap.size < m := by have := hb2.size; omega
  have OR4 := (OR.below hb2 OR.lt).below hb4 (by omega)
  have HD4 := hide ((HD.out.below hb2).below hb4)
  have HB4 := hide (HB.out.trans (Bel.of (b := b) ((hb2.trans (hb4.mono hb2.size)).mono (by omega))))
  clear hb2 hb4 OR HD HB hw hs
  go_wp2_with (first | (refine store_ob rfl _ _ rfl rfl (c := { Ob.zero with id := id, kind := 3 }) rfl OZ rfl ?_; rw [hw4]) | fail)
  refine (bytes_dice C b 12 _ HD4.out (by omega)).mono ?_
  rintro e w5 ⟨A, n, c, D, rfl, hn, hown, hD, hB⟩
  have O5 := hB.obl' O (by omega)
  have OR5 := hB.obl' OR4 (by omega)
  have z5 := O5.free 24
  have k5 : w5.cell? ⟨m, 24, none⟩ = some (.slice none 0 0) := O5.cell 24
  have HB5 := hide ((HB4.out.trans (hB.mono HB4.out.size)).setGe (g := m) (by omega) 24 (.slice A n c))
  have HD5 := hide (hD.put_other (g := m) (by omega) (by omega) 24 (.slice A n c))
  have HO5 := hide (own_keep hown (keep_put (m := m) (by omega) 24 (.slice A n c)))
  have O6 : Obl (w5.setCell ⟨m, 24, none⟩ (.slice A n c)) m 41 (oc { Ob.zero with id := id, kind := 3, data := ⟨A, n, c⟩ }) := O5.put 24 _
  have OR6 := OR5.put_other (b' := m) (by omega) 24 (.slice A n c)
  obtain ⟨w6, hw6⟩ : ∃ w6, w5.setCell ⟨m, 24, none⟩ (.slice A n c) = w6 := ⟨_, rfl⟩
  rw [hw6] at HB5 HD5 HO5 O6 OR6
  clear hown hD hB O OR4 HB4 HD4 OZ hw4 hw3 hm
  go_wp2_with (first | (refine load_ob rfl _ rfl rfl O6 ?_) | (refine store_ob rfl _ _ rfl rfl (c := { Ob.zero with id := id, kind := 3, data := ⟨A, n, c⟩ }) rfl OR6 rfl ?_) | fail)
  refine bodyPost_ret (ret_ob rfl _ rfl (OR6.row_same _)) rfl ?_
  exact ⟨A, n, c, D, rfl, by omega, own_weaken (own_keep HO5.out (keep_row (m := W.heap.size) (by omega) _)) (by omega), HD5.out.row_other (by omega) (by omega) _, HB5.out.rowGe (Nat.le_refl _) _⟩
theorem file_dice (C b : Nat) (id : Int) (W : World) (h : Dice W C b) : Calls Try.prog 9 #[.pointer (some ⟨b, 0, none⟩), .int .u64 id] W (ObThrown C b W) :=
  (file_thrown C b id W h).mono fun _ _ ⟨_, _, _, _, he, _, hown, hD, hB⟩ => ⟨_, he, file_own hown, hD, hB⟩
end Go.Proofs.Ytcgiobffobonpaa
