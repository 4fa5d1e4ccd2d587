/- Layer 12: each direction keeps its bytes in order (ChannelOrder): the walk (written by tools/mkchorder.py). -/
import Derived.Test.YteaippnffmhhnaaChLaw
import Derived.Test.YteaippnffmhhnaaRegionD
import Derived.Deep.CutBlock
namespace Go.Proofs.Yteaippnffmhhnaa
open Go.RowKit

namespace Ch
/-- The bytes that went in at end d: n of them, from the j-th on. -/
def five (d j n : Nat) : List UInt8 := (List.range' j n).map fun k => UInt8.ofNat (k * 5 + d)
theorem five_length (d j n : Nat) : (five d j n).length = n := by simp [five]
theorem five_snoc {d j i : Nat} (h : j ≤ i) : five d j (i - j) ++ [UInt8.ofNat (i * 5 + d)] = five d j (i + 1 - j) := by
  rw [show i + 1 - j = (i - j) + 1 by omega]
  simp [five, List.range'_concat, show j + (i - j) = i by omega]
theorem five_cons {d j i : Nat} (h : j < i) : five d j (i - j) = UInt8.ofNat (j * 5 + d) :: five d (j + 1) (i - (j + 1)) := by
  rw [show i - j = (i - (j + 1)) + 1 by omega]
  simp [five, List.range'_succ]
end Ch
theorem five_byte (i d : Nat) : (((UInt8.ofNat (i * 5 + d)).toNat : Nat) : Int) = ((i : Int) * 5 + (d : Int)) % 256 := by rw [UInt8.toNat_ofNat']; omega
theorem byte_i64 (c : UInt8) : IntKind.i64.wrap (c.toNat : Int) = (c.toNat : Int) := by have := c.toNat_lt; rw [IntKind.wrap_i64]; omega
/-- Block m is the channel 4, the ends a times and once open; the two blocks behind it count what went in and what came out. -/
structure DirAt (W w : World) (m : Nat) (a : Int) (i0 j0 i1 j1 : Nat) : Prop where
  at_ : ∃ s t : Sl, Obl w m 41 (oc (Ob.chan 4 a 1 s t)) ∧ New8 (m + 1 + 1 + 1) w s (Ch.five 0 j0 (i0 - j0)) ∧ New8 (m + 1 + 1 + 1) w t (Ch.five 1 j1 (i1 - j1))
  ins : Obl w (m + 1) 38 #[.int .i64 (i0 : Int), .int .i64 (i1 : Int)]
  outs : Obl w (m + 1 + 1) 38 #[.int .i64 (j0 : Int), .int .i64 (j1 : Int)]
  le : (j0 ≤ i0 ∧ i0 - j0 ≤ 64) ∧ (j1 ≤ i1 ∧ i1 - j1 ≤ 64)
  low : W.heap.size ≤ m
  below : Below W.heap.size W w
section
variable {W w w' : World} {m : Nat} {a : Int} {i0 j0 i1 j1 : Nat}
theorem DirAt.drew (h : DirAt W w m a i0 j0 i1 j1) : DirAt W w.drew m a i0 j0 i1 j1 := ⟨h.at_, h.ins, h.outs, h.le, h.low, ⟨h.below.os, h.below.tape, h.below.output, h.below.size, h.below.block⟩⟩
theorem DirAt.later (h : DirAt W w m a i0 j0 i1 j1) (hb : Below w.heap.size w w') : DirAt W w' m a i0 j0 i1 j1 :=
  ⟨h.at_.imp fun _ h => h.imp fun _ h => ⟨h.1.below hb h.1.lt, h.2.1.below hb, h.2.2.below hb⟩, h.ins.below hb h.ins.lt, h.outs.below hb h.outs.lt, h.le, h.low, h.below.trans (hb.mono h.below.size)⟩
/-- The channel is laid anew, with other bytes. -/
theorem DirAt.turn (h : DirAt W w m a i0 j0 i1 j1) {s t : Sl} {P Q : List UInt8} (hs : New8 (m + 1 + 1 + 1) w s P) (ht : New8 (m + 1 + 1 + 1) w t Q) :
    Obl (w.setRow m (oc (Ob.chan 4 a 1 s t))) m 41 (oc (Ob.chan 4 a 1 s t)) ∧ New8 (m + 1 + 1 + 1) (w.setRow m (oc (Ob.chan 4 a 1 s t))) s P ∧ New8 (m + 1 + 1 + 1) (w.setRow m (oc (Ob.chan 4 a 1 s t))) t Q ∧
    Obl (w.setRow m (oc (Ob.chan 4 a 1 s t))) (m + 1) 38 #[.int .i64 (i0 : Int), .int .i64 (i1 : Int)] ∧ Obl (w.setRow m (oc (Ob.chan 4 a 1 s t))) (m + 1 + 1) 38 #[.int .i64 (j0 : Int), .int .i64 (j1 : Int)] ∧ Below W.heap.size W (w.setRow m (oc (Ob.chan 4 a 1 s t))) := by
  obtain ⟨s0, t0, O, _, _⟩ := h.at_
  exact ⟨O.row_same _, ⟨((hs.mono (show m + 1 ≤ m + 1 + 1 + 1 by omega)).row _).1, hs.2⟩, ⟨((ht.mono (show m + 1 ≤ m + 1 + 1 + 1 by omega)).row _).1, ht.2⟩, h.ins.row_other (by omega) _, h.outs.row_other (by omega) _, below_row h.below h.low _⟩
theorem New8.cell {B g : Nat} {w : World} {s : Sl} {P : List UInt8} (h : New8 B w s P) (hg : g + 1 ≤ B) (i : Nat) (v : Value) : New8 B (w.setCell ⟨g, i, none⟩ v) s P := ⟨((h.mono hg).put i v).1, h.2⟩
theorem DirAt.wrote0 (h : DirAt W w m a i0 j0 i1 j1) {s t : Sl} (hs : New8 (m + 1 + 1 + 1) w s (Ch.five 0 j0 (i0 + 1 - j0))) (ht : New8 (m + 1 + 1 + 1) w t (Ch.five 1 j1 (i1 - j1))) (hl : i0 - j0 < 64) : DirAt W ((w.setRow m (oc (Ob.chan 4 a 1 s t))).setCell ⟨m + 1, 0, none⟩ (.int .i64 ((i0 : Int) + 1))) m a (i0 + 1) j0 i1 j1 := by
  have e : ((i0 : Int) + 1) = ((i0 + 1 : Nat) : Int) := rfl
  rw [e]
  obtain ⟨k1, k2, k3, k4, k5, k6⟩ := h.turn hs ht
  have hle := h.le
  exact ⟨⟨s, t, k1.put_other (b' := m + 1) (by omega) _ _, k2.cell (by omega) _ _, k3.cell (by omega) _ _⟩, k4.put 0 _, k5.put_other (b' := m + 1) (by omega) _ _, by omega, h.low, k6.setCell (p := ⟨m + 1, 0, none⟩) (by have := h.low; simp only; omega) _⟩
theorem DirAt.read0 (h : DirAt W w m a i0 j0 i1 j1) {s t : Sl} (hs : New8 (m + 1 + 1 + 1) w s (Ch.five 0 (j0 + 1) (i0 - (j0 + 1)))) (ht : New8 (m + 1 + 1 + 1) w t (Ch.five 1 j1 (i1 - j1))) (hl : j0 < i0) : DirAt W ((w.setRow m (oc (Ob.chan 4 a 1 s t))).setCell ⟨m + 1 + 1, 0, none⟩ (.int .i64 ((j0 : Int) + 1))) m a i0 (j0 + 1) i1 j1 := by
  have e : ((j0 : Int) + 1) = ((j0 + 1 : Nat) : Int) := rfl
  rw [e]
  obtain ⟨k1, k2, k3, k4, k5, k6⟩ := h.turn hs ht
  have hle := h.le
  exact ⟨⟨s, t, k1.put_other (b' := m + 1 + 1) (by omega) _ _, k2.cell (by omega) _ _, k3.cell (by omega) _ _⟩, k4.put_other (b' := m + 1 + 1) (by omega) _ _, k5.put 0 _, by omega, h.low, k6.setCell (p := ⟨m + 1 + 1, 0, none⟩) (by have := h.low; simp only; omega) _⟩
theorem DirAt.wrote1 (h : DirAt W w m a i0 j0 i1 j1) {s t : Sl} (hs : New8 (m + 1 + 1 + 1) w s (Ch.five 0 j0 (i0 - j0))) (ht : New8 (m + 1 + 1 + 1) w t (Ch.five 1 j1 (i1 + 1 - j1))) (hl : i1 - j1 < 64) : DirAt W ((w.setRow m (oc (Ob.chan 4 a 1 s t))).setCell ⟨m + 1, 1, none⟩ (.int .i64 ((i1 : Int) + 1))) m a i0 j0 (i1 + 1) j1 := by
  have e : ((i1 : Int) + 1) = ((i1 + 1 : Nat) : Int) := rfl
  rw [e]
  obtain ⟨k1, k2, k3, k4, k5, k6⟩ := h.turn hs ht
  have hle := h.le
  exact ⟨⟨s, t, k1.put_other (b' := m + 1) (by omega) _ _, k2.cell (by omega) _ _, k3.cell (by omega) _ _⟩, k4.put 1 _, k5.put_other (b' := m + 1) (by omega) _ _, by omega, h.low, k6.setCell (p := ⟨m + 1, 1, none⟩) (by have := h.low; simp only; omega) _⟩
theorem DirAt.read1 (h : DirAt W w m a i0 j0 i1 j1) {s t : Sl} (hs : New8 (m + 1 + 1 + 1) w s (Ch.five 0 j0 (i0 - j0))) (ht : New8 (m + 1 + 1 + 1) w t (Ch.five 1 (j1 + 1) (i1 - (j1 + 1)))) (hl : j1 < i1) : DirAt W ((w.setRow m (oc (Ob.chan 4 a 1 s t))).setCell ⟨m + 1 + 1, 1, none⟩ (.int .i64 ((j1 : Int) + 1))) m a i0 j0 i1 (j1 + 1) := by
  have e : ((j1 : Int) + 1) = ((j1 + 1 : Nat) : Int) := rfl
  rw [e]
  obtain ⟨k1, k2, k3, k4, k5, k6⟩ := h.turn hs ht
  have hle := h.le
  exact ⟨⟨s, t, k1.put_other (b' := m + 1 + 1) (by omega) _ _, k2.cell (by omega) _ _, k3.cell (by omega) _ _⟩, k4.put_other (b' := m + 1 + 1) (by omega) _ _, k5.put 1 _, by omega, h.low, k6.setCell (p := ⟨m + 1 + 1, 1, none⟩) (by have := h.low; simp only; omega) _⟩
theorem dir_ok {B : Nat} {s t : Sl} {P Q : List UInt8} {k : Int} (hs : New8 B w s P) (ht : New8 B w t Q) (hp : P.length ≤ 64) (hq : Q.length ≤ 64) (ha : 0 ≤ a ∧ a ≤ 1) (hk : k = 0 ∨ k = 1) : (Ob.chan 4 a 1 s t).ChOk k :=
  chan_ok (by decide) ⟨ha.1, by omega, by decide, by decide, .inr (by decide)⟩ (by rw [hs.len]; exact hp) (by rw [ht.len]; exact hq) hk
end
theorem dir_wr {id a b k : Int} {s t : Sl} (h : (Ob.chan id a b s t).ChOk k) : (Ob.chan id a b s t).chWr k = if (Ob.chan id a b s t).eAt (1 - k) = 0 then 13 else if 64 ≤ ((Ob.chan id a b s t).qAt k).n then 12 else 0 := if_pos h
theorem bel_row (w : World) (m : Nat) (cells : Array Value) {B : Nat} : Bel B m w (w.setRow m cells) := ⟨rfl, rfl, rfl, by simp [World.setRow], fun k _ h => setRow_other w m cells h⟩
/-- Where the counts stand at the beginning. -/
theorem dir_start {W w : World} {m : Nat} (O : Obl w m 41 (oc (Ob.chan 4 1 1 noSl noSl))) (hs : w.heap.size = m + 1) (hb : Below W.heap.size W w) (hm : W.heap.size ≤ m) :
    DirAt W ((w.alloc (.cells #[.int .i64 0, .int .i64 0] 38)).alloc (.cells #[.int .i64 0, .int .i64 0] 38)) m 1 0 0 0 0 := by
  have h1 := Obl.make w 38 #[.int .i64 0, .int .i64 0]
  have h2 := Obl.make (w.alloc (.cells #[.int .i64 0, .int .i64 0] 38)) 38 #[.int .i64 0, .int .i64 0]
  rw [World.size_alloc] at h2
  rw [hs] at h1 h2
  have hn : ∀ w', New8 (m + 1 + 1 + 1) w' noSl [] := fun w' => ⟨Bytes.nil, Above.none, Nat.le_refl _⟩
  exact ⟨⟨noSl, noSl, (O.alloc _).alloc _, hn _, hn _⟩, h1.alloc _, h2, by omega, hm, (hb.alloc hb.size _).alloc (by have := hb.size; simp; omega) _⟩
/-- The end 0 is closed. -/
theorem DirAt.closed {W w : World} {m i0 j0 i1 j1 : Nat} (h : DirAt W w m 1 i0 j0 i1 j1) : DirAt W (w.setCell ⟨m, 32, none⟩ (.int .i64 0)) m 0 i0 j0 i1 j1 := by
  obtain ⟨s, t, O, hs, ht⟩ := h.at_
  exact ⟨⟨s, t, O.put 32 _, hs.cell (by omega) _ _, ht.cell (by omega) _ _⟩, h.ins.put_other (b' := m) (by omega) _ _, h.outs.put_other (b' := m) (by omega) _ _, h.le, h.low, h.below.setCell (p := ⟨m, 32, none⟩) h.low _⟩
/-- How many came out. -/
def outOf (w : World) (g : Nat) : Nat := match w.cell? ⟨g, 0, none⟩ with | some (.int _ v) => v.toNat | _ => 0
theorem outOf_of {w : World} {g j : Nat} (h : w.cell? ⟨g, 0, none⟩ = some (.int .i64 (j : Int))) : outOf w g = j := by unfold outOf; rw [h]; simp
set_option maxRecDepth 100000 in
set_option maxHeartbeats 16000000 in
theorem channelOrder_any (S : Option Addr) (q r : Nat) (l : List UInt8) (W : World) (hS : Bytes W W.heap.size S q l) (hq : q ≤ 9223372036854775807) :
    Calls Try.prog 5 #[.slice S q r] W (BoolPost true W) := by
  have HS := hide hS
  clear hS
  go_enter Try.func5, Try.ntmps5
  try dsimp only [List.append]
  go_wp2_with fail
  refine (chSane_any _).mono ?_
  rintro e w1 ⟨rfl, hb1⟩
  have HB1 := hide hb1
  clear hb1
  go_wp2_with fail
  refine (chNew_any 4 _).mono ?_
  rintro e w2 ⟨rfl, hb2⟩
  obtain ⟨w3, hw3, m, hm, w4, hw4, OZ, OM, hb4, hs4⟩ := laid_ob (Ob.chan 4 1 1 noSl noSl) w2
  have hmW : W.heap.size ≤ m := by have := HB1.out.size; have := hb2.size; omega
  have HB4 := hide (HB1.out.trans ((hb2.trans (hb4.mono hb2.size)).mono HB1.out.size))
  have HK := hide (dir_start OM hs4 HB4.out hmW)
  clear hb2 hb4 HB1 OM HB4
  go_upto_block 0 with (first | (refine store_ob rfl _ _ rfl rfl (c := Ob.chan 4 1 1 noSl noSl) rfl OZ rfl ?_; rw [hw4]) | fail)
  clear OZ hw4 hw3 hm hmW
  clear hs4
  generalize (w4.alloc (.cells #[.int .i64 0, .int .i64 0] 38)).alloc (.cells #[.int .i64 0, .int .i64 0] 38) = w5 at *
  go_cut [6] from 7 to 113 (fun _ wx => ∃ i0 j0 i1 j1 : Nat, i0 + i1 ≤ 200 ∧ Hid (DirAt W wx m 1 i0 j0 i1 j1))
  case first =>
    go_wp2_with fail
    go_loopw [27] (fun s27 wr => ∃ k i0 j0 i1 j1 : Nat, s27 = .int .i64 (k : Int) ∧ k ≤ q ∧ i0 + i1 ≤ k ∧ k ≤ 200 ∧ Hid (DirAt W wr m 1 i0 j0 i1 j1)) (fun s27 _ => q - (intOf s27).toNat)
    case atStart => exact ⟨0, 0, 0, 0, 0, rfl, by omega, by omega, by omega, HK⟩
    case round =>
      clear HK
      obtain ⟨k, i0, j0, i1, j1, rfl, hk, hik, hk2, HK⟩ := hrel
      by_cases hlt : k < q
      · have hlt' : (k : Int) < (q : Int) := by omega
        obtain ⟨b, f, hl, rfl, hbb, hc⟩ := HS.out.at_ hlt
        have hc' : wr.cell? ⟨b, f + k, none⟩ = some (.int .u8 (l[k].toNat : Int)) := (HK.out.below.cell (p := ⟨b, f + k, none⟩) hbb).trans hc
        have ha : l[k].toNat < 256 := l[k].toNat_lt
        generalize l[k].toNat = a at *
        clear hc
        by_cases h2 : k < 200
        · have h2' : ¬ (200 : Int) ≤ (k : Int) := by omega
          have hle := HK.out.le
          by_cases hx : 0 < a % 3
          · have hx' : (0 : Int) < (a : Int) % 3 := by omega
            obtain hd | hd : (a : Int) / 16 % 2 = 0 ∨ (a : Int) / 16 % 2 = 1 := by omega
            · by_cases hfull : i0 - j0 < 64
              · skip
                go_upto_region 11 with (fail)
                rw [hd]
                clear hc' hd
                go_cut [9, 10] from 41 to 53 (fun s9 s10 wx => ∃ (g9 : Nat) (s1 t1 : Sl), s9 = .pointer (some ⟨g9, 0, none⟩) ∧ s10 = .int .i64 0 ∧ m + 1 + 1 < g9 ∧ Hid (Obl wx g9 41 (oc (Ob.chan 4 1 1 s1 t1))) ∧ Hid (New8 (m + 1 + 1 + 1) wx s1 (Ch.five 0 j0 (i0 + 1 - j0))) ∧ Hid (New8 (m + 1 + 1 + 1) wx t1 (Ch.five 1 j1 (i1 - j1))) ∧ Hid (DirAt W wx m 1 i0 j0 i1 j1))
                case first =>
                  replace HK : Hid (DirAt W wr.drew m 1 i0 j0 i1 j1) := hide HK.out.drew
                  refine region_B (by kernel_rfl) wr.drew.heap.size ?_
                  generalize wr.drew = u0 at *
                  obtain ⟨s, t, O, hs, ht⟩ := HK.out.at_
                  have HS0 := hide hs
                  have HT0 := hide ht
                  have hle := HK.out.le
                  have OI := HK.out.ins
                  have OO := HK.out.outs
                  clear hs ht
                  have hl0 : (Ch.five 0 j0 (i0 - j0)).length ≤ 64 := by rw [Ch.five_length]; exact hle.1.2
                  have hl1 : (Ch.five 1 j1 (i1 - j1)).length ≤ 64 := by rw [Ch.five_length]; exact hle.2.2
                  have hO := O.lt
                  have hI := OI.lt
                  have hOo := OO.lt
                  have kin : u0.cell? ⟨m + 1, 0, none⟩ = some (.int .i64 (i0 : Int)) := OI.cell 0
                  have hok := dir_ok (a := 1) (k := 0) HS0.out HT0.out hl0 hl1 (by decide) (.inl rfl)
                  have HOK := hide hok
                  have hw1 : IntKind.i64.wrap ((i0 : Int) * 5) = (i0 : Int) * 5 := by rw [IntKind.wrap_i64]; omega
                  obtain ⟨c, hc⟩ : ∃ c, UInt8.ofNat (i0 * 5 + 0) = c := ⟨_, rfl⟩
                  have hv : ((i0 : Int) * 5) % 256 = (c.toNat : Int) := by rw [← hc, five_byte]; simp
                  have hvw : IntKind.u8.wrap ((i0 : Int) * 5) = (c.toNat : Int) := by rw [← hv, IntKind.wrap_u8]
                  have HC := hide hc
                  clear hc hok
                  refine takeB 0 rfl (by kernel_rfl) (fun _ _ _ h => h) (by rfl) (by intro w' hg; exact exec_load_ob rfl rfl (O.below hg hO)) ?_
                  refine takeB 1 rfl (by kernel_rfl) (fun _ _ _ h => h) (by rfl) (by intro w' hg; go_simp; try with_reducible rfl) ?_
                  refine takeB 2 rfl (by kernel_rfl) (fun _ _ _ h => h) (by rfl) (by intro w' hg; go_simp; try with_reducible rfl) ?_
                  refine takeB 3 rfl (by kernel_rfl) (fun _ _ _ h => h) (by rfl) (by intro w' hg; go_simp; try with_reducible rfl) ?_
                  refine takeB 4 rfl (by kernel_rfl) (fun _ _ _ h => h) (by rfl) (by intro w' hg; have g0 := (hg.cell (p := ⟨m + 1, 0, none⟩) hI).trans kin; go_simp; try with_reducible rfl) ?_
                  refine takeB 5 rfl (by kernel_rfl) (fun _ _ _ h => h) (by rfl) (by intro w' hg; go_simp; try with_reducible rfl) ?_
                  refine takeB 6 rfl (by kernel_rfl) (fun _ _ _ h => h) (by rfl) (by intro w' hg; go_simp; try with_reducible rfl) ?_
                  refine takeB 7 rfl (by kernel_rfl) (fun _ _ _ h => h) (by rfl) (by intro w' hg; go_simp; try with_reducible rfl) ?_
                  refine takeB 8 rfl (by kernel_rfl) (fun _ _ _ h => h) (by rfl) (by intro w' hg; go_simp; try with_reducible rfl) ?_
                  clear kin hw1 hv hvw
                  go_simp
                  refine twoB 9 13 rfl rfl (by kernel_rfl) (by rfl) (by rfl) ?_ ?_
                  · intro K hK
                    go_simp
                    refine (chWrite_ok0 (Ob.chan 4 1 1 s t) c (Ch.five 0 j0 (i0 - j0)) (Ch.five 1 j1 (i1 - j1)) _ HOK.out (show (1 : Int) ≠ 0 by decide) (show s.n < 64 by rw [HS0.out.len, Ch.five_length]; exact hfull) (HS0.out.1) (HT0.out.1)).mono ?_
                    rintro e y1 ⟨s1, t1, rfl, hn1, hn2, hb1⟩
                    rw [HC.out.symm, Ch.five_snoc hle.1.1] at hn1
                    refine hK _ _ (hb1.mono (Nat.le_refl _)) ?_
                    clear hK K
                    have hgu : u0.heap.size ≤ y1.heap.size := hb1.size
                    obtain ⟨y2, hy2, g1, hg1, y3, hy3, OZ, OM, hb8, hs8'⟩ := laid_ob (Ob.chan 4 1 1 s1 t1) y1
                    have HA8 := hide (show Below u0.heap.size y1 y2 from hy2 ▸ (Below.refl _ _).alloc hgu _)
                    have HA9 := hide (show Below u0.heap.size y2 y3 from hy3 ▸ below_row (Below.refl _ _) (by omega) _)
                    have HK3 := hide (HK.out.later (hb1.trans (hb8.mono hgu)))
                    have HF := hide OM
                    have HN1 := hide ((hn1.below hb8).mono (show m + 1 + 1 + 1 ≤ u0.heap.size by omega))
                    have HN2 := hide ((hn2.below hb8).mono (show m + 1 + 1 + 1 ≤ u0.heap.size by omega))
                    have hgm : m + 1 + 1 < g1 := by omega
                    clear hn1 hn2
                    clear hb1 hb8 OM hs8' HK HS0 HT0 O OI OO
                    refine takeB 10 rfl (by kernel_rfl) (fun _ _ _ h => h) (by rfl) (by intro w' hg; go_simp; try with_reducible rfl) ?_
                    refine takeB 11 rfl (by kernel_rfl) (fun _ _ _ h => h) (by rfl) (by intro w' hg; go_simp; try with_reducible rfl) ?_
                    refine takeB 12 rfl (by kernel_rfl) (fun _ _ _ h => h) (by rfl) (by intro w' hg; go_simp; try with_reducible rfl) ?_
                    refine onlyB 13 rfl (by kernel_rfl) (by rfl) ?_
                    intro K hK
                    go_simp
                    refine hK _ _ HA8.out ?_
                    clear hK K
                    go_simp
                    refine onlyB 14 rfl (by kernel_rfl) (by rfl) ?_
                    intro K hK
                    refine wp_store_ch rfl rfl (c := Ob.chan 4 1 1 s1 t1) rfl OZ rfl ?_
                    rw [hy3]
                    refine hK _ _ HA9.out ?_
                    clear hK K
                    refine takeB 15 rfl (by kernel_rfl) (fun _ _ _ h => h) (by rfl) (by intro w' hg; go_simp; try with_reducible rfl) ?_
                    refine doneB (by kernel_rfl) ?_
                    go_simp
                    go_wp2_with fail
                    go_meet
                    case rel => exact ⟨_, s1, t1, rfl, rfl, hgm, HF, HN1, HN2, HK3⟩
                  · intro K hK
                    go_simp
                    obtain ⟨z1, hz1, OZ, hbz, hsz⟩ := start_z u0
                    try rw [hz1]
                    refine hK _ _ hbz ?_
                    clear hK K hz1
                    have hgu : u0.heap.size ≤ z1.heap.size := hbz.size
                    have HS1 := hide (HS0.out.below hbz)
                    have HT1 := hide (HT0.out.below hbz)
                    have hgl := OZ.lt
                    have HBZ := hide hbz
                    clear hbz O OI OO hsz
                    refine onlyB 9 rfl (by kernel_rfl) (by rfl) ?_
                    intro K hK
                    go_simp
                    refine (chWrite_ok0 (Ob.chan 4 1 1 s t) c (Ch.five 0 j0 (i0 - j0)) (Ch.five 1 j1 (i1 - j1)) _ HOK.out (show (1 : Int) ≠ 0 by decide) (show s.n < 64 by rw [HS1.out.len, Ch.five_length]; exact hfull) (HS1.out.1) (HT1.out.1)).mono ?_
                    rintro e y1 ⟨s1, t1, rfl, hn1, hn2, hb1⟩
                    rw [HC.out.symm, Ch.five_snoc hle.1.1] at hn1
                    refine hK _ _ (hb1.mono hgu) ?_
                    clear hK K
                    have OY := OZ.below hb1 hgl
                    obtain ⟨y3, hy3⟩ : ∃ y3, y1.setRow u0.heap.size (oc (Ob.chan 4 1 1 s1 t1)) = y3 := ⟨_, rfl⟩
                    have hA9 : Below u0.heap.size y1 y3 := hy3 ▸ below_row (Below.refl _ _) (Nat.le_refl _) _
                    have HA9 := hide hA9
                    have HK3 := hide (HK.out.later ((HBZ.out.trans (hb1.mono hgu)).trans hA9))
                    have HF : Hid (Obl y3 u0.heap.size 41 (oc (Ob.chan 4 1 1 s1 t1))) := hide (hy3 ▸ OY.row_same _)
                    have HN1 : Hid (New8 (m + 1 + 1 + 1) y3 s1 (Ch.five 0 j0 (i0 + 1 - j0))) := hide ⟨(hy3 ▸ (hn1.mono (show u0.heap.size + 1 ≤ z1.heap.size by omega)).row _ : New8 (u0.heap.size + 1) y3 s1 (Ch.five 0 j0 (i0 + 1 - j0))).1, (hn1.mono (show m + 1 + 1 + 1 ≤ z1.heap.size by omega)).2⟩
                    have HN2 : Hid (New8 (m + 1 + 1 + 1) y3 t1 (Ch.five 1 j1 (i1 - j1))) := hide ⟨(hy3 ▸ (hn2.mono (show u0.heap.size + 1 ≤ z1.heap.size by omega)).row _ : New8 (u0.heap.size + 1) y3 t1 (Ch.five 1 j1 (i1 - j1))).1, (hn2.mono (show m + 1 + 1 + 1 ≤ z1.heap.size by omega)).2⟩
                    have hgm : m + 1 + 1 < u0.heap.size := by omega
                    clear hn1 hn2
                    clear hb1 hA9 HK HS0 HT0 HS1 HT1 HBZ OZ
                    refine takeB 10 rfl (by kernel_rfl) (fun _ _ _ h => h) (by rfl) (by intro w' hg; go_simp; try with_reducible rfl) ?_
                    refine takeB 11 rfl (by kernel_rfl) (fun _ _ _ h => h) (by rfl) (by intro w' hg; go_simp; try with_reducible rfl) ?_
                    refine takeB 12 rfl (by kernel_rfl) (fun _ _ _ h => h) (by rfl) (by intro w' hg; go_simp; try with_reducible rfl) ?_
                    go_simp
                    refine onlyB 14 rfl (by kernel_rfl) (by rfl) ?_
                    intro K hK
                    refine wp_store_ch rfl rfl (c := Ob.chan 4 1 1 s1 t1) rfl OY rfl ?_
                    rw [hy3]
                    refine hK _ _ HA9.out ?_
                    clear hK K
                    refine takeB 15 rfl (by kernel_rfl) (fun _ _ _ h => h) (by rfl) (by intro w' hg; go_simp; try with_reducible rfl) ?_
                    refine doneB (by kernel_rfl) ?_
                    go_simp
                    go_wp2_with fail
                    go_meet
                    case rel => exact ⟨_, s1, t1, rfl, rfl, hgm, HF, HN1, HN2, HK3⟩
                case rest =>
                  obtain ⟨g9, s1, t1, rfl, rfl, hg9, HF, HN1, HN2, HK⟩ := hcut
                  generalize wc = we at *
                  refine ‹∀ (a : Act) (w : World), Code.wp _ _ _ a w → _› _ _ ?_
                  clear hle
                  go_upto_region 15 with (fail)
                  refine region_D (by kernel_rfl) we.drew.heap.size m [8] ?_
                  replace HK : Hid (DirAt W we.drew m 1 i0 j0 i1 j1) := hide HK.out.drew
                  replace HF : Hid (Obl we.drew g9 41 (oc (Ob.chan 4 1 1 s1 t1))) := HF
                  replace HN1 : Hid (New8 (m + 1 + 1 + 1) we.drew s1 _) := HN1
                  replace HN2 : Hid (New8 (m + 1 + 1 + 1) we.drew t1 _) := HN2
                  generalize we.drew = u0 at *
                  obtain ⟨s, t, O, hs, ht⟩ := HK.out.at_
                  have HS0 := hide hs
                  have HT0 := hide ht
                  have hle := HK.out.le
                  have OI := HK.out.ins
                  have OO := HK.out.outs
                  clear hs ht
                  have hI := OI.lt
                  have kin : u0.cell? ⟨m + 1, 0, none⟩ = some (.int .i64 (i0 : Int)) := OI.cell 0
                  have hFg := HF.out.lt
                  refine takeDX 0 rfl (by kernel_rfl) (fun _ _ _ h => h) (by rfl) (by intro w'; go_simp; try with_reducible rfl) ?_
                  refine takeD 1 [1, 6, 7, 8] rfl (by kernel_rfl) (fun _ _ _ h => h) (by rfl) (by intro w' hq; exact exec_load_ob rfl rfl (hq.obl' HF.out (by omega))) ?_
                  refine takeDX 2 rfl (by kernel_rfl) (fun _ _ _ h => h) (by rfl) (by intro w'; go_simp; try with_reducible rfl) ?_
                  refine takeDX 3 rfl (by kernel_rfl) (fun _ _ _ h => h) (by rfl) (by intro w'; go_simp; try with_reducible rfl) ?_
                  refine takeD 4 [4, 5, 7, 8] rfl (by kernel_rfl) (fun _ _ _ h => h) (by rfl) (by intro w' hq; have g0 := (hq.cell (p := ⟨m + 1, 0, none⟩) hI (show m + 1 ≠ m by omega)).trans kin; go_simp; try with_reducible rfl) ?_
                  refine takeDX 5 rfl (by kernel_rfl) (fun _ _ _ h => h) (by rfl) (by intro w'; go_simp; try with_reducible rfl) ?_
                  go_simp
                  refine onlyD 6 rfl (by kernel_rfl) (by rfl) ?_
                  intro K hK
                  refine wp_store_ch rfl rfl (c := Ob.chan 4 1 1 s1 t1) rfl O rfl ?_
                  refine hK _ _ (fun _ => bel_row _ _ _) ?_
                  clear hK K
                  have HK2 := hide (HK.out.wrote0 HN1.out HN2.out (by omega))
                  have OR := OI.row_other (g := m) (by omega) (oc (Ob.chan 4 1 1 s1 t1))
                  obtain ⟨u1, hu1⟩ : ∃ u1, u0.setRow m (oc (Ob.chan 4 1 1 s1 t1)) = u1 := ⟨_, rfl⟩
                  rw [hu1] at HK2 OR ⊢
                  have k1 : u1.cell? ⟨m + 1, 0, none⟩ = some (.int .i64 (i0 : Int)) := OR.cell 0
                  have z1 := OR.free 0
                  clear hu1 O OI OO HS0 HT0 HF HN1 HN2 HK kin OR
                  refine takeDX 7 rfl (by kernel_rfl) (fun _ _ _ h => h) (by rfl) (by intro w'; go_simp; try with_reducible rfl) ?_
                  refine onlyD 8 rfl (by kernel_rfl) (by rfl) ?_
                  intro K hK
                  go_simp
                  refine hK _ _ (fun h => absurd h (by decide)) ?_
                  clear hK K
                  refine doneD (by kernel_rfl) ?_
                  go_simp
                  go_wp2_with fail
                  go_roundw
                  case rel => exact ⟨k + 1, i0 + 1, j0, i1, j1, by go_num, by omega, by omega, by omega, HK2⟩
                  case measure => simp [intOf]; omega
              · replace hfull : 64 ≤ i0 - j0 := by omega
                go_upto_region 11 with (fail)
                rw [hd]
                clear hc' hd
                go_cut [9, 10] from 41 to 53 (fun s9 s10 wx => s10 = .int .i64 12 ∧ Hid (DirAt W wx m 1 i0 j0 i1 j1))
                case first =>
                  replace HK : Hid (DirAt W wr.drew m 1 i0 j0 i1 j1) := hide HK.out.drew
                  refine region_B (by kernel_rfl) wr.drew.heap.size ?_
                  generalize wr.drew = u0 at *
                  obtain ⟨s, t, O, hs, ht⟩ := HK.out.at_
                  have HS0 := hide hs
                  have HT0 := hide ht
                  have hle := HK.out.le
                  have OI := HK.out.ins
                  have OO := HK.out.outs
                  clear hs ht
                  have hl0 : (Ch.five 0 j0 (i0 - j0)).length ≤ 64 := by rw [Ch.five_length]; exact hle.1.2
                  have hl1 : (Ch.five 1 j1 (i1 - j1)).length ≤ 64 := by rw [Ch.five_length]; exact hle.2.2
                  have hO := O.lt
                  have hI := OI.lt
                  have hOo := OO.lt
                  have kin : u0.cell? ⟨m + 1, 0, none⟩ = some (.int .i64 (i0 : Int)) := OI.cell 0
                  have hok := dir_ok (a := 1) (k := 0) HS0.out HT0.out hl0 hl1 (by decide) (.inl rfl)
                  have HOK := hide hok
                  have hw1 : IntKind.i64.wrap ((i0 : Int) * 5) = (i0 : Int) * 5 := by rw [IntKind.wrap_i64]; omega
                  obtain ⟨c, hc⟩ : ∃ c, UInt8.ofNat (i0 * 5 + 0) = c := ⟨_, rfl⟩
                  have hv : ((i0 : Int) * 5) % 256 = (c.toNat : Int) := by rw [← hc, five_byte]; simp
                  have hvw : IntKind.u8.wrap ((i0 : Int) * 5) = (c.toNat : Int) := by rw [← hv, IntKind.wrap_u8]
                  have HC := hide hc
                  clear hc hok
                  have HE : Hid ((Ob.chan 4 1 1 s t).chWr 0 = 12) := hide (by rw [dir_wr HOK.out, if_neg (show ¬ (Ob.chan 4 1 1 s t).eAt (1 - 0) = 0 from (by decide : ¬ (1 : Int) = 0)), if_pos (show 64 ≤ ((Ob.chan 4 1 1 s t).qAt 0).n from (show 64 ≤ s.n by rw [HS0.out.len, Ch.five_length]; exact hfull))])
                  refine takeB 0 rfl (by kernel_rfl) (fun _ _ _ h => h) (by rfl) (by intro w' hg; exact exec_load_ob rfl rfl (O.below hg hO)) ?_
                  refine takeB 1 rfl (by kernel_rfl) (fun _ _ _ h => h) (by rfl) (by intro w' hg; go_simp; try with_reducible rfl) ?_
                  refine takeB 2 rfl (by kernel_rfl) (fun _ _ _ h => h) (by rfl) (by intro w' hg; go_simp; try with_reducible rfl) ?_
                  refine takeB 3 rfl (by kernel_rfl) (fun _ _ _ h => h) (by rfl) (by intro w' hg; go_simp; try with_reducible rfl) ?_
                  refine takeB 4 rfl (by kernel_rfl) (fun _ _ _ h => h) (by rfl) (by intro w' hg; have g0 := (hg.cell (p := ⟨m + 1, 0, none⟩) hI).trans kin; go_simp; try with_reducible rfl) ?_
                  refine takeB 5 rfl (by kernel_rfl) (fun _ _ _ h => h) (by rfl) (by intro w' hg; go_simp; try with_reducible rfl) ?_
                  refine takeB 6 rfl (by kernel_rfl) (fun _ _ _ h => h) (by rfl) (by intro w' hg; go_simp; try with_reducible rfl) ?_
                  refine takeB 7 rfl (by kernel_rfl) (fun _ _ _ h => h) (by rfl) (by intro w' hg; go_simp; try with_reducible rfl) ?_
                  refine takeB 8 rfl (by kernel_rfl) (fun _ _ _ h => h) (by rfl) (by intro w' hg; go_simp; try with_reducible rfl) ?_
                  clear kin hw1 hv hvw
                  go_simp
                  refine twoB 9 13 rfl rfl (by kernel_rfl) (by rfl) (by rfl) ?_ ?_
                  · intro K hK
                    go_simp
                    refine (chWrite_no0 (Ob.chan 4 1 1 s t) c (Ch.five 0 j0 (i0 - j0)) (Ch.five 1 j1 (i1 - j1)) _ HOK.out (by rw [HE.out]; decide) (HS0.out.1) (HT0.out.1)).mono ?_
                    rintro e y1 ⟨rfl, hb1⟩
                    rw [HE.out]
                    refine hK _ _ (hb1.mono (Nat.le_refl _)) ?_
                    clear hK K
                    have hgu : u0.heap.size ≤ y1.heap.size := hb1.size
                    obtain ⟨y2, hy2, g1, hg1, y3, hy3, OZ, OM, hb8, hs8'⟩ := laid_ob (Ob.zero) y1
                    have HA8 := hide (show Below u0.heap.size y1 y2 from hy2 ▸ (Below.refl _ _).alloc hgu _)
                    have HA9 := hide (show Below u0.heap.size y2 y3 from hy3 ▸ below_row (Below.refl _ _) (by omega) _)
                    have HK3 := hide (HK.out.later (hb1.trans (hb8.mono hgu)))
                    clear hb1 hb8 OM hs8' HK HS0 HT0 O OI OO
                    refine takeB 10 rfl (by kernel_rfl) (fun _ _ _ h => h) (by rfl) (by intro w' hg; go_simp; try with_reducible rfl) ?_
                    refine takeB 11 rfl (by kernel_rfl) (fun _ _ _ h => h) (by rfl) (by intro w' hg; go_simp; try with_reducible rfl) ?_
                    refine takeB 12 rfl (by kernel_rfl) (fun _ _ _ h => h) (by rfl) (by intro w' hg; go_simp; try with_reducible rfl) ?_
                    refine onlyB 13 rfl (by kernel_rfl) (by rfl) ?_
                    intro K hK
                    go_simp
                    refine hK _ _ HA8.out ?_
                    clear hK K
                    go_simp
                    refine onlyB 14 rfl (by kernel_rfl) (by rfl) ?_
                    intro K hK
                    refine wp_store_ch rfl rfl (c := Ob.zero) rfl OZ rfl ?_
                    rw [hy3]
                    refine hK _ _ HA9.out ?_
                    clear hK K
                    refine takeB 15 rfl (by kernel_rfl) (fun _ _ _ h => h) (by rfl) (by intro w' hg; go_simp; try with_reducible rfl) ?_
                    refine doneB (by kernel_rfl) ?_
                    go_simp
                    go_wp2_with fail
                    go_meet
                    case rel => exact ⟨rfl, HK3⟩
                  · intro K hK
                    go_simp
                    obtain ⟨z1, hz1, OZ, hbz, hsz⟩ := start_z u0
                    try rw [hz1]
                    refine hK _ _ hbz ?_
                    clear hK K hz1
                    have hgu : u0.heap.size ≤ z1.heap.size := hbz.size
                    have HS1 := hide (HS0.out.below hbz)
                    have HT1 := hide (HT0.out.below hbz)
                    have hgl := OZ.lt
                    have HBZ := hide hbz
                    clear hbz O OI OO hsz
                    refine onlyB 9 rfl (by kernel_rfl) (by rfl) ?_
                    intro K hK
                    go_simp
                    refine (chWrite_no0 (Ob.chan 4 1 1 s t) c (Ch.five 0 j0 (i0 - j0)) (Ch.five 1 j1 (i1 - j1)) _ HOK.out (by rw [HE.out]; decide) (HS1.out.1) (HT1.out.1)).mono ?_
                    rintro e y1 ⟨rfl, hb1⟩
                    rw [HE.out]
                    refine hK _ _ (hb1.mono hgu) ?_
                    clear hK K
                    have OY := OZ.below hb1 hgl
                    obtain ⟨y3, hy3⟩ : ∃ y3, y1.setRow u0.heap.size (oc (Ob.zero)) = y3 := ⟨_, rfl⟩
                    have hA9 : Below u0.heap.size y1 y3 := hy3 ▸ below_row (Below.refl _ _) (Nat.le_refl _) _
                    have HA9 := hide hA9
                    have HK3 := hide (HK.out.later ((HBZ.out.trans (hb1.mono hgu)).trans hA9))
                    clear hb1 hA9 HK HS0 HT0 HS1 HT1 HBZ OZ
                    refine takeB 10 rfl (by kernel_rfl) (fun _ _ _ h => h) (by rfl) (by intro w' hg; go_simp; try with_reducible rfl) ?_
                    refine takeB 11 rfl (by kernel_rfl) (fun _ _ _ h => h) (by rfl) (by intro w' hg; go_simp; try with_reducible rfl) ?_
                    refine takeB 12 rfl (by kernel_rfl) (fun _ _ _ h => h) (by rfl) (by intro w' hg; go_simp; try with_reducible rfl) ?_
                    go_simp
                    refine onlyB 14 rfl (by kernel_rfl) (by rfl) ?_
                    intro K hK
                    refine wp_store_ch rfl rfl (c := Ob.zero) rfl OY rfl ?_
                    rw [hy3]
                    refine hK _ _ HA9.out ?_
                    clear hK K
                    refine takeB 15 rfl (by kernel_rfl) (fun _ _ _ h => h) (by rfl) (by intro w' hg; go_simp; try with_reducible rfl) ?_
                    refine doneB (by kernel_rfl) ?_
                    go_simp
                    go_wp2_with fail
                    go_meet
                    case rel => exact ⟨rfl, HK3⟩
                case rest =>
                  obtain ⟨rfl, HK⟩ := hcut
                  generalize wc = we at *
                  refine ‹∀ (a : Act) (w : World), Code.wp _ _ _ a w → _› _ _ ?_
                  have hdd : (i0 : Int) - (j0 : Int) = 64 := by omega
                  clear hle
                  go_upto_region 13 with (fail)
                  refine region_B (by kernel_rfl) we.drew.heap.size ?_
                  replace HK : Hid (DirAt W we.drew m 1 i0 j0 i1 j1) := hide HK.out.drew
                  generalize we.drew = u0 at *
                  obtain ⟨s, t, O, hs, ht⟩ := HK.out.at_
                  have HS0 := hide hs
                  have HT0 := hide ht
                  have hle := HK.out.le
                  have OI := HK.out.ins
                  have OO := HK.out.outs
                  clear hs ht
                  have hI := OI.lt
                  have hOo := OO.lt
                  have kin : u0.cell? ⟨m + 1, 0, none⟩ = some (.int .i64 (i0 : Int)) := OI.cell 0
                  have kout : u0.cell? ⟨m + 1 + 1, 0, none⟩ = some (.int .i64 (j0 : Int)) := OO.cell 0
                  clear O OI OO HS0 HT0
                  refine takeB 0 rfl (by kernel_rfl) (fun _ _ _ h => h) (by rfl) (by intro w' hg; go_simp; try with_reducible rfl) ?_
                  refine takeB 1 rfl (by kernel_rfl) (fun _ _ _ h => h) (by rfl) (by intro w' hg; go_simp; try with_reducible rfl) ?_
                  refine takeB 2 rfl (by kernel_rfl) (fun _ _ _ h => h) (by rfl) (by intro w' hg; go_simp; try with_reducible rfl) ?_
                  refine takeB 3 rfl (by kernel_rfl) (fun _ _ _ h => h) (by kernel_rfl) (by intro w' hg; go_simp; try with_reducible rfl) ?_
                  refine takeB 4 rfl (by kernel_rfl) (fun _ _ _ h => h) (by kernel_rfl) (by intro w' hg; go_simp; try with_reducible rfl) ?_
                  refine takeB 5 rfl (by kernel_rfl) (fun _ _ _ h => h) (by kernel_rfl) (by intro w' hg; have g0 := (hg.cell (p := ⟨m + 1, 0, none⟩) hI).trans kin; go_simp; try with_reducible rfl) ?_
                  refine takeB 6 rfl (by kernel_rfl) (fun _ _ _ h => h) (by kernel_rfl) (by intro w' hg; go_simp; try with_reducible rfl) ?_
                  refine takeB 7 rfl (by kernel_rfl) (fun _ _ _ h => h) (by kernel_rfl) (by intro w' hg; go_simp; try with_reducible rfl) ?_
                  refine takeB 8 rfl (by kernel_rfl) (fun _ _ _ h => h) (by kernel_rfl) (by intro w' hg; have g0 := (hg.cell (p := ⟨m + 1 + 1, 0, none⟩) hOo).trans kout; go_simp; try with_reducible rfl) ?_
                  refine takeB 9 rfl (by kernel_rfl) (fun _ _ _ h => h) (by kernel_rfl) (by intro w' hg; go_simp; try with_reducible rfl) ?_
                  refine takeB 10 rfl (by kernel_rfl) (fun _ _ _ h => h) (by kernel_rfl) (by intro w' hg; go_simp; try with_reducible rfl) ?_
                  refine takeB 11 rfl (by kernel_rfl) (fun _ _ _ h => h) (by rfl) (by intro w' hg; go_simp; try with_reducible rfl) ?_
                  refine doneB (by kernel_rfl) ?_
                  go_simp
                  clear kin kout
                  go_wp2_with fail
                  go_roundw
                  case rel => exact ⟨k + 1, i0, j0, i1, j1, by go_num, by omega, by omega, by omega, HK⟩
                  case measure => simp [intOf]; omega
            · by_cases hfull : i1 - j1 < 64
              · skip
                go_upto_region 11 with (fail)
                rw [hd]
                clear hc' hd
                go_cut [9, 10] from 41 to 53 (fun s9 s10 wx => ∃ (g9 : Nat) (s1 t1 : Sl), s9 = .pointer (some ⟨g9, 0, none⟩) ∧ s10 = .int .i64 0 ∧ m + 1 + 1 < g9 ∧ Hid (Obl wx g9 41 (oc (Ob.chan 4 1 1 s1 t1))) ∧ Hid (New8 (m + 1 + 1 + 1) wx s1 (Ch.five 0 j0 (i0 - j0))) ∧ Hid (New8 (m + 1 + 1 + 1) wx t1 (Ch.five 1 j1 (i1 + 1 - j1))) ∧ Hid (DirAt W wx m 1 i0 j0 i1 j1))
                case first =>
                  replace HK : Hid (DirAt W wr.drew m 1 i0 j0 i1 j1) := hide HK.out.drew
                  refine region_B (by kernel_rfl) wr.drew.heap.size ?_
                  generalize wr.drew = u0 at *
                  obtain ⟨s, t, O, hs, ht⟩ := HK.out.at_
                  have HS0 := hide hs
                  have HT0 := hide ht
                  have hle := HK.out.le
                  have OI := HK.out.ins
                  have OO := HK.out.outs
                  clear hs ht
                  have hl0 : (Ch.five 0 j0 (i0 - j0)).length ≤ 64 := by rw [Ch.five_length]; exact hle.1.2
                  have hl1 : (Ch.five 1 j1 (i1 - j1)).length ≤ 64 := by rw [Ch.five_length]; exact hle.2.2
                  have hO := O.lt
                  have hI := OI.lt
                  have hOo := OO.lt
                  have kin : u0.cell? ⟨m + 1, 1, none⟩ = some (.int .i64 (i1 : Int)) := OI.cell 1
                  have hok := dir_ok (a := 1) (k := 1) HS0.out HT0.out hl0 hl1 (by decide) (.inr rfl)
                  have HOK := hide hok
                  have hw1 : IntKind.i64.wrap ((i1 : Int) * 5) = (i1 : Int) * 5 := by rw [IntKind.wrap_i64]; omega
                  have hw2 : IntKind.i64.wrap ((i1 : Int) * 5 + 1) = (i1 : Int) * 5 + 1 := by rw [IntKind.wrap_i64]; omega
                  obtain ⟨c, hc⟩ : ∃ c, UInt8.ofNat (i1 * 5 + 1) = c := ⟨_, rfl⟩
                  have hv : ((i1 : Int) * 5 + 1) % 256 = (c.toNat : Int) := by rw [← hc, five_byte]; rfl
                  have hvw : IntKind.u8.wrap ((i1 : Int) * 5 + 1) = (c.toNat : Int) := by rw [← hv, IntKind.wrap_u8]
                  have HC := hide hc
                  clear hc hok
                  refine takeB 0 rfl (by kernel_rfl) (fun _ _ _ h => h) (by rfl) (by intro w' hg; exact exec_load_ob rfl rfl (O.below hg hO)) ?_
                  refine takeB 1 rfl (by kernel_rfl) (fun _ _ _ h => h) (by rfl) (by intro w' hg; go_simp; try with_reducible rfl) ?_
                  refine takeB 2 rfl (by kernel_rfl) (fun _ _ _ h => h) (by rfl) (by intro w' hg; go_simp; try with_reducible rfl) ?_
                  refine takeB 3 rfl (by kernel_rfl) (fun _ _ _ h => h) (by rfl) (by intro w' hg; go_simp; try with_reducible rfl) ?_
                  refine takeB 4 rfl (by kernel_rfl) (fun _ _ _ h => h) (by rfl) (by intro w' hg; have g0 := (hg.cell (p := ⟨m + 1, 1, none⟩) hI).trans kin; go_simp; try with_reducible rfl) ?_
                  refine takeB 5 rfl (by kernel_rfl) (fun _ _ _ h => h) (by rfl) (by intro w' hg; go_simp; try with_reducible rfl) ?_
                  refine takeB 6 rfl (by kernel_rfl) (fun _ _ _ h => h) (by rfl) (by intro w' hg; go_simp; try with_reducible rfl) ?_
                  refine takeB 7 rfl (by kernel_rfl) (fun _ _ _ h => h) (by rfl) (by intro w' hg; go_simp; try with_reducible rfl) ?_
                  refine takeB 8 rfl (by kernel_rfl) (fun _ _ _ h => h) (by rfl) (by intro w' hg; go_simp; try with_reducible rfl) ?_
                  clear kin hw1 hw2 hv hvw
                  go_simp
                  refine twoB 9 13 rfl rfl (by kernel_rfl) (by rfl) (by rfl) ?_ ?_
                  · intro K hK
                    go_simp
                    refine (chWrite_ok1 (Ob.chan 4 1 1 s t) c (Ch.five 0 j0 (i0 - j0)) (Ch.five 1 j1 (i1 - j1)) _ HOK.out (show (1 : Int) ≠ 0 by decide) (show t.n < 64 by rw [HT0.out.len, Ch.five_length]; exact hfull) (HS0.out.1) (HT0.out.1)).mono ?_
                    rintro e y1 ⟨s1, t1, rfl, hn1, hn2, hb1⟩
                    rw [HC.out.symm, Ch.five_snoc hle.2.1] at hn2
                    refine hK _ _ (hb1.mono (Nat.le_refl _)) ?_
                    clear hK K
                    have hgu : u0.heap.size ≤ y1.heap.size := hb1.size
                    obtain ⟨y2, hy2, g1, hg1, y3, hy3, OZ, OM, hb8, hs8'⟩ := laid_ob (Ob.chan 4 1 1 s1 t1) y1
                    have HA8 := hide (show Below u0.heap.size y1 y2 from hy2 ▸ (Below.refl _ _).alloc hgu _)
                    have HA9 := hide (show Below u0.heap.size y2 y3 from hy3 ▸ below_row (Below.refl _ _) (by omega) _)
                    have HK3 := hide (HK.out.later (hb1.trans (hb8.mono hgu)))
                    have HF := hide OM
                    have HN1 := hide ((hn1.below hb8).mono (show m + 1 + 1 + 1 ≤ u0.heap.size by omega))
                    have HN2 := hide ((hn2.below hb8).mono (show m + 1 + 1 + 1 ≤ u0.heap.size by omega))
                    have hgm : m + 1 + 1 < g1 := by omega
                    clear hn1 hn2
                    clear hb1 hb8 OM hs8' HK HS0 HT0 O OI OO
                    refine takeB 10 rfl (by kernel_rfl) (fun _ _ _ h => h) (by rfl) (by intro w' hg; go_simp; try with_reducible rfl) ?_
                    refine takeB 11 rfl (by kernel_rfl) (fun _ _ _ h => h) (by rfl) (by intro w' hg; go_simp; try with_reducible rfl) ?_
                    refine takeB 12 rfl (by kernel_rfl) (fun _ _ _ h => h) (by rfl) (by intro w' hg; go_simp; try with_reducible rfl) ?_
                    refine onlyB 13 rfl (by kernel_rfl) (by rfl) ?_
                    intro K hK
                    go_simp
                    refine hK _ _ HA8.out ?_
                    clear hK K
                    go_simp
                    refine onlyB 14 rfl (by kernel_rfl) (by rfl) ?_
                    intro K hK
                    refine wp_store_ch rfl rfl (c := Ob.chan 4 1 1 s1 t1) rfl OZ rfl ?_
                    rw [hy3]
                    refine hK _ _ HA9.out ?_
                    clear hK K
                    refine takeB 15 rfl (by kernel_rfl) (fun _ _ _ h => h) (by rfl) (by intro w' hg; go_simp; try with_reducible rfl) ?_
                    refine doneB (by kernel_rfl) ?_
                    go_simp
                    go_wp2_with fail
                    go_meet
                    case rel => exact ⟨_, s1, t1, rfl, rfl, hgm, HF, HN1, HN2, HK3⟩
                  · intro K hK
                    go_simp
                    obtain ⟨z1, hz1, OZ, hbz, hsz⟩ := start_z u0
                    try rw [hz1]
                    refine hK _ _ hbz ?_
                    clear hK K hz1
                    have hgu : u0.heap.size ≤ z1.heap.size := hbz.size
                    have HS1 := hide (HS0.out.below hbz)
                    have HT1 := hide (HT0.out.below hbz)
                    have hgl := OZ.lt
                    have HBZ := hide hbz
                    clear hbz O OI OO hsz
                    refine onlyB 9 rfl (by kernel_rfl) (by rfl) ?_
                    intro K hK
                    go_simp
                    refine (chWrite_ok1 (Ob.chan 4 1 1 s t) c (Ch.five 0 j0 (i0 - j0)) (Ch.five 1 j1 (i1 - j1)) _ HOK.out (show (1 : Int) ≠ 0 by decide) (show t.n < 64 by rw [HT1.out.len, Ch.five_length]; exact hfull) (HS1.out.1) (HT1.out.1)).mono ?_
                    rintro e y1 ⟨s1, t1, rfl, hn1, hn2, hb1⟩
                    rw [HC.out.symm, Ch.five_snoc hle.2.1] at hn2
                    refine hK _ _ (hb1.mono hgu) ?_
                    clear hK K
                    have OY := OZ.below hb1 hgl
                    obtain ⟨y3, hy3⟩ : ∃ y3, y1.setRow u0.heap.size (oc (Ob.chan 4 1 1 s1 t1)) = y3 := ⟨_, rfl⟩
                    have hA9 : Below u0.heap.size y1 y3 := hy3 ▸ below_row (Below.refl _ _) (Nat.le_refl _) _
                    have HA9 := hide hA9
                    have HK3 := hide (HK.out.later ((HBZ.out.trans (hb1.mono hgu)).trans hA9))
                    have HF : Hid (Obl y3 u0.heap.size 41 (oc (Ob.chan 4 1 1 s1 t1))) := hide (hy3 ▸ OY.row_same _)
                    have HN1 : Hid (New8 (m + 1 + 1 + 1) y3 s1 (Ch.five 0 j0 (i0 - j0))) := hide ⟨(hy3 ▸ (hn1.mono (show u0.heap.size + 1 ≤ z1.heap.size by omega)).row _ : New8 (u0.heap.size + 1) y3 s1 (Ch.five 0 j0 (i0 - j0))).1, (hn1.mono (show m + 1 + 1 + 1 ≤ z1.heap.size by omega)).2⟩
                    have HN2 : Hid (New8 (m + 1 + 1 + 1) y3 t1 (Ch.five 1 j1 (i1 + 1 - j1))) := hide ⟨(hy3 ▸ (hn2.mono (show u0.heap.size + 1 ≤ z1.heap.size by omega)).row _ : New8 (u0.heap.size + 1) y3 t1 (Ch.five 1 j1 (i1 + 1 - j1))).1, (hn2.mono (show m + 1 + 1 + 1 ≤ z1.heap.size by omega)).2⟩
                    have hgm : m + 1 + 1 < u0.heap.size := by omega
                    clear hn1 hn2
                    clear hb1 hA9 HK HS0 HT0 HS1 HT1 HBZ OZ
                    refine takeB 10 rfl (by kernel_rfl) (fun _ _ _ h => h) (by rfl) (by intro w' hg; go_simp; try with_reducible rfl) ?_
                    refine takeB 11 rfl (by kernel_rfl) (fun _ _ _ h => h) (by rfl) (by intro w' hg; go_simp; try with_reducible rfl) ?_
                    refine takeB 12 rfl (by kernel_rfl) (fun _ _ _ h => h) (by rfl) (by intro w' hg; go_simp; try with_reducible rfl) ?_
                    go_simp
                    refine onlyB 14 rfl (by kernel_rfl) (by rfl) ?_
                    intro K hK
                    refine wp_store_ch rfl rfl (c := Ob.chan 4 1 1 s1 t1) rfl OY rfl ?_
                    rw [hy3]
                    refine hK _ _ HA9.out ?_
                    clear hK K
                    refine takeB 15 rfl (by kernel_rfl) (fun _ _ _ h => h) (by rfl) (by intro w' hg; go_simp; try with_reducible rfl) ?_
                    refine doneB (by kernel_rfl) ?_
                    go_simp
                    go_wp2_with fail
                    go_meet
                    case rel => exact ⟨_, s1, t1, rfl, rfl, hgm, HF, HN1, HN2, HK3⟩
                case rest =>
                  obtain ⟨g9, s1, t1, rfl, rfl, hg9, HF, HN1, HN2, HK⟩ := hcut
                  generalize wc = we at *
                  refine ‹∀ (a : Act) (w : World), Code.wp _ _ _ a w → _› _ _ ?_
                  clear hle
                  go_upto_region 15 with (fail)
                  refine region_D (by kernel_rfl) we.drew.heap.size m [8] ?_
                  replace HK : Hid (DirAt W we.drew m 1 i0 j0 i1 j1) := hide HK.out.drew
                  replace HF : Hid (Obl we.drew g9 41 (oc (Ob.chan 4 1 1 s1 t1))) := HF
                  replace HN1 : Hid (New8 (m + 1 + 1 + 1) we.drew s1 _) := HN1
                  replace HN2 : Hid (New8 (m + 1 + 1 + 1) we.drew t1 _) := HN2
                  generalize we.drew = u0 at *
                  obtain ⟨s, t, O, hs, ht⟩ := HK.out.at_
                  have HS0 := hide hs
                  have HT0 := hide ht
                  have hle := HK.out.le
                  have OI := HK.out.ins
                  have OO := HK.out.outs
                  clear hs ht
                  have hI := OI.lt
                  have kin : u0.cell? ⟨m + 1, 1, none⟩ = some (.int .i64 (i1 : Int)) := OI.cell 1
                  have hFg := HF.out.lt
                  refine takeDX 0 rfl (by kernel_rfl) (fun _ _ _ h => h) (by rfl) (by intro w'; go_simp; try with_reducible rfl) ?_
                  refine takeD 1 [1, 6, 7, 8] rfl (by kernel_rfl) (fun _ _ _ h => h) (by rfl) (by intro w' hq; exact exec_load_ob rfl rfl (hq.obl' HF.out (by omega))) ?_
                  refine takeDX 2 rfl (by kernel_rfl) (fun _ _ _ h => h) (by rfl) (by intro w'; go_simp; try with_reducible rfl) ?_
                  refine takeDX 3 rfl (by kernel_rfl) (fun _ _ _ h => h) (by rfl) (by intro w'; go_simp; try with_reducible rfl) ?_
                  refine takeD 4 [4, 5, 7, 8] rfl (by kernel_rfl) (fun _ _ _ h => h) (by rfl) (by intro w' hq; have g0 := (hq.cell (p := ⟨m + 1, 1, none⟩) hI (show m + 1 ≠ m by omega)).trans kin; go_simp; try with_reducible rfl) ?_
                  refine takeDX 5 rfl (by kernel_rfl) (fun _ _ _ h => h) (by rfl) (by intro w'; go_simp; try with_reducible rfl) ?_
                  go_simp
                  refine onlyD 6 rfl (by kernel_rfl) (by rfl) ?_
                  intro K hK
                  refine wp_store_ch rfl rfl (c := Ob.chan 4 1 1 s1 t1) rfl O rfl ?_
                  refine hK _ _ (fun _ => bel_row _ _ _) ?_
                  clear hK K
                  have HK2 := hide (HK.out.wrote1 HN1.out HN2.out (by omega))
                  have OR := OI.row_other (g := m) (by omega) (oc (Ob.chan 4 1 1 s1 t1))
                  obtain ⟨u1, hu1⟩ : ∃ u1, u0.setRow m (oc (Ob.chan 4 1 1 s1 t1)) = u1 := ⟨_, rfl⟩
                  rw [hu1] at HK2 OR ⊢
                  have k1 : u1.cell? ⟨m + 1, 1, none⟩ = some (.int .i64 (i1 : Int)) := OR.cell 1
                  have z1 := OR.free 1
                  clear hu1 O OI OO HS0 HT0 HF HN1 HN2 HK kin OR
                  refine takeDX 7 rfl (by kernel_rfl) (fun _ _ _ h => h) (by rfl) (by intro w'; go_simp; try with_reducible rfl) ?_
                  refine onlyD 8 rfl (by kernel_rfl) (by rfl) ?_
                  intro K hK
                  go_simp
                  refine hK _ _ (fun h => absurd h (by decide)) ?_
                  clear hK K
                  refine doneD (by kernel_rfl) ?_
                  go_simp
                  go_wp2_with fail
                  go_roundw
                  case rel => exact ⟨k + 1, i0, j0, i1 + 1, j1, by go_num, by omega, by omega, by omega, HK2⟩
                  case measure => simp [intOf]; omega
              · replace hfull : 64 ≤ i1 - j1 := by omega
                go_upto_region 11 with (fail)
                rw [hd]
                clear hc' hd
                go_cut [9, 10] from 41 to 53 (fun s9 s10 wx => s10 = .int .i64 12 ∧ Hid (DirAt W wx m 1 i0 j0 i1 j1))
                case first =>
                  replace HK : Hid (DirAt W wr.drew m 1 i0 j0 i1 j1) := hide HK.out.drew
                  refine region_B (by kernel_rfl) wr.drew.heap.size ?_
                  generalize wr.drew = u0 at *
                  obtain ⟨s, t, O, hs, ht⟩ := HK.out.at_
                  have HS0 := hide hs
                  have HT0 := hide ht
                  have hle := HK.out.le
                  have OI := HK.out.ins
                  have OO := HK.out.outs
                  clear hs ht
                  have hl0 : (Ch.five 0 j0 (i0 - j0)).length ≤ 64 := by rw [Ch.five_length]; exact hle.1.2
                  have hl1 : (Ch.five 1 j1 (i1 - j1)).length ≤ 64 := by rw [Ch.five_length]; exact hle.2.2
                  have hO := O.lt
                  have hI := OI.lt
                  have hOo := OO.lt
                  have kin : u0.cell? ⟨m + 1, 1, none⟩ = some (.int .i64 (i1 : Int)) := OI.cell 1
                  have hok := dir_ok (a := 1) (k := 1) HS0.out HT0.out hl0 hl1 (by decide) (.inr rfl)
                  have HOK := hide hok
                  have hw1 : IntKind.i64.wrap ((i1 : Int) * 5) = (i1 : Int) * 5 := by rw [IntKind.wrap_i64]; omega
                  have hw2 : IntKind.i64.wrap ((i1 : Int) * 5 + 1) = (i1 : Int) * 5 + 1 := by rw [IntKind.wrap_i64]; omega
                  obtain ⟨c, hc⟩ : ∃ c, UInt8.ofNat (i1 * 5 + 1) = c := ⟨_, rfl⟩
                  have hv : ((i1 : Int) * 5 + 1) % 256 = (c.toNat : Int) := by rw [← hc, five_byte]; rfl
                  have hvw : IntKind.u8.wrap ((i1 : Int) * 5 + 1) = (c.toNat : Int) := by rw [← hv, IntKind.wrap_u8]
                  have HC := hide hc
                  clear hc hok
                  have HE : Hid ((Ob.chan 4 1 1 s t).chWr 1 = 12) := hide (by rw [dir_wr HOK.out, if_neg (show ¬ (Ob.chan 4 1 1 s t).eAt (1 - 1) = 0 from (by decide : ¬ (1 : Int) = 0)), if_pos (show 64 ≤ ((Ob.chan 4 1 1 s t).qAt 1).n from (show 64 ≤ t.n by rw [HT0.out.len, Ch.five_length]; exact hfull))])
                  refine takeB 0 rfl (by kernel_rfl) (fun _ _ _ h => h) (by rfl) (by intro w' hg; exact exec_load_ob rfl rfl (O.below hg hO)) ?_
                  refine takeB 1 rfl (by kernel_rfl) (fun _ _ _ h => h) (by rfl) (by intro w' hg; go_simp; try with_reducible rfl) ?_
                  refine takeB 2 rfl (by kernel_rfl) (fun _ _ _ h => h) (by rfl) (by intro w' hg; go_simp; try with_reducible rfl) ?_
                  refine takeB 3 rfl (by kernel_rfl) (fun _ _ _ h => h) (by rfl) (by intro w' hg; go_simp; try with_reducible rfl) ?_
                  refine takeB 4 rfl (by kernel_rfl) (fun _ _ _ h => h) (by rfl) (by intro w' hg; have g0 := (hg.cell (p := ⟨m + 1, 1, none⟩) hI).trans kin; go_simp; try with_reducible rfl) ?_
                  refine takeB 5 rfl (by kernel_rfl) (fun _ _ _ h => h) (by rfl) (by intro w' hg; go_simp; try with_reducible rfl) ?_
                  refine takeB 6 rfl (by kernel_rfl) (fun _ _ _ h => h) (by rfl) (by intro w' hg; go_simp; try with_reducible rfl) ?_
                  refine takeB 7 rfl (by kernel_rfl) (fun _ _ _ h => h) (by rfl) (by intro w' hg; go_simp; try with_reducible rfl) ?_
                  refine takeB 8 rfl (by kernel_rfl) (fun _ _ _ h => h) (by rfl) (by intro w' hg; go_simp; try with_reducible rfl) ?_
                  clear kin hw1 hw2 hv hvw
                  go_simp
                  refine twoB 9 13 rfl rfl (by kernel_rfl) (by rfl) (by rfl) ?_ ?_
                  · intro K hK
                    go_simp
                    refine (chWrite_no1 (Ob.chan 4 1 1 s t) c (Ch.five 0 j0 (i0 - j0)) (Ch.five 1 j1 (i1 - j1)) _ HOK.out (by rw [HE.out]; decide) (HS0.out.1) (HT0.out.1)).mono ?_
                    rintro e y1 ⟨rfl, hb1⟩
                    rw [HE.out]
                    refine hK _ _ (hb1.mono (Nat.le_refl _)) ?_
                    clear hK K
                    have hgu : u0.heap.size ≤ y1.heap.size := hb1.size
                    obtain ⟨y2, hy2, g1, hg1, y3, hy3, OZ, OM, hb8, hs8'⟩ := laid_ob (Ob.zero) y1
                    have HA8 := hide (show Below u0.heap.size y1 y2 from hy2 ▸ (Below.refl _ _).alloc hgu _)
                    have HA9 := hide (show Below u0.heap.size y2 y3 from hy3 ▸ below_row (Below.refl _ _) (by omega) _)
                    have HK3 := hide (HK.out.later (hb1.trans (hb8.mono hgu)))
                    clear hb1 hb8 OM hs8' HK HS0 HT0 O OI OO
                    refine takeB 10 rfl (by kernel_rfl) (fun _ _ _ h => h) (by rfl) (by intro w' hg; go_simp; try with_reducible rfl) ?_
                    refine takeB 11 rfl (by kernel_rfl) (fun _ _ _ h => h) (by rfl) (by intro w' hg; go_simp; try with_reducible rfl) ?_
                    refine takeB 12 rfl (by kernel_rfl) (fun _ _ _ h => h) (by rfl) (by intro w' hg; go_simp; try with_reducible rfl) ?_
                    refine onlyB 13 rfl (by kernel_rfl) (by rfl) ?_
                    intro K hK
                    go_simp
                    refine hK _ _ HA8.out ?_
                    clear hK K
                    go_simp
                    refine onlyB 14 rfl (by kernel_rfl) (by rfl) ?_
                    intro K hK
                    refine wp_store_ch rfl rfl (c := Ob.zero) rfl OZ rfl ?_
                    rw [hy3]
                    refine hK _ _ HA9.out ?_
                    clear hK K
                    refine takeB 15 rfl (by kernel_rfl) (fun _ _ _ h => h) (by rfl) (by intro w' hg; go_simp; try with_reducible rfl) ?_
                    refine doneB (by kernel_rfl) ?_
                    go_simp
                    go_wp2_with fail
                    go_meet
                    case rel => exact ⟨rfl, HK3⟩
                  · intro K hK
                    go_simp
                    obtain ⟨z1, hz1, OZ, hbz, hsz⟩ := start_z u0
                    try rw [hz1]
                    refine hK _ _ hbz ?_
                    clear hK K hz1
                    have hgu : u0.heap.size ≤ z1.heap.size := hbz.size
                    have HS1 := hide (HS0.out.below hbz)
                    have HT1 := hide (HT0.out.below hbz)
                    have hgl := OZ.lt
                    have HBZ := hide hbz
                    clear hbz O OI OO hsz
                    refine onlyB 9 rfl (by kernel_rfl) (by rfl) ?_
                    intro K hK
                    go_simp
                    refine (chWrite_no1 (Ob.chan 4 1 1 s t) c (Ch.five 0 j0 (i0 - j0)) (Ch.five 1 j1 (i1 - j1)) _ HOK.out (by rw [HE.out]; decide) (HS1.out.1) (HT1.out.1)).mono ?_
                    rintro e y1 ⟨rfl, hb1⟩
                    rw [HE.out]
                    refine hK _ _ (hb1.mono hgu) ?_
                    clear hK K
                    have OY := OZ.below hb1 hgl
                    obtain ⟨y3, hy3⟩ : ∃ y3, y1.setRow u0.heap.size (oc (Ob.zero)) = y3 := ⟨_, rfl⟩
                    have hA9 : Below u0.heap.size y1 y3 := hy3 ▸ below_row (Below.refl _ _) (Nat.le_refl _) _
                    have HA9 := hide hA9
                    have HK3 := hide (HK.out.later ((HBZ.out.trans (hb1.mono hgu)).trans hA9))
                    clear hb1 hA9 HK HS0 HT0 HS1 HT1 HBZ OZ
                    refine takeB 10 rfl (by kernel_rfl) (fun _ _ _ h => h) (by rfl) (by intro w' hg; go_simp; try with_reducible rfl) ?_
                    refine takeB 11 rfl (by kernel_rfl) (fun _ _ _ h => h) (by rfl) (by intro w' hg; go_simp; try with_reducible rfl) ?_
                    refine takeB 12 rfl (by kernel_rfl) (fun _ _ _ h => h) (by rfl) (by intro w' hg; go_simp; try with_reducible rfl) ?_
                    go_simp
                    refine onlyB 14 rfl (by kernel_rfl) (by rfl) ?_
                    intro K hK
                    refine wp_store_ch rfl rfl (c := Ob.zero) rfl OY rfl ?_
                    rw [hy3]
                    refine hK _ _ HA9.out ?_
                    clear hK K
                    refine takeB 15 rfl (by kernel_rfl) (fun _ _ _ h => h) (by rfl) (by intro w' hg; go_simp; try with_reducible rfl) ?_
                    refine doneB (by kernel_rfl) ?_
                    go_simp
                    go_wp2_with fail
                    go_meet
                    case rel => exact ⟨rfl, HK3⟩
                case rest =>
                  obtain ⟨rfl, HK⟩ := hcut
                  generalize wc = we at *
                  refine ‹∀ (a : Act) (w : World), Code.wp _ _ _ a w → _› _ _ ?_
                  have hdd : (i1 : Int) - (j1 : Int) = 64 := by omega
                  clear hle
                  go_upto_region 13 with (fail)
                  refine region_B (by kernel_rfl) we.drew.heap.size ?_
                  replace HK : Hid (DirAt W we.drew m 1 i0 j0 i1 j1) := hide HK.out.drew
                  generalize we.drew = u0 at *
                  obtain ⟨s, t, O, hs, ht⟩ := HK.out.at_
                  have HS0 := hide hs
                  have HT0 := hide ht
                  have hle := HK.out.le
                  have OI := HK.out.ins
                  have OO := HK.out.outs
                  clear hs ht
                  have hI := OI.lt
                  have hOo := OO.lt
                  have kin : u0.cell? ⟨m + 1, 1, none⟩ = some (.int .i64 (i1 : Int)) := OI.cell 1
                  have kout : u0.cell? ⟨m + 1 + 1, 1, none⟩ = some (.int .i64 (j1 : Int)) := OO.cell 1
                  clear O OI OO HS0 HT0
                  refine takeB 0 rfl (by kernel_rfl) (fun _ _ _ h => h) (by rfl) (by intro w' hg; go_simp; try with_reducible rfl) ?_
                  refine takeB 1 rfl (by kernel_rfl) (fun _ _ _ h => h) (by rfl) (by intro w' hg; go_simp; try with_reducible rfl) ?_
                  refine takeB 2 rfl (by kernel_rfl) (fun _ _ _ h => h) (by rfl) (by intro w' hg; go_simp; try with_reducible rfl) ?_
                  refine takeB 3 rfl (by kernel_rfl) (fun _ _ _ h => h) (by kernel_rfl) (by intro w' hg; go_simp; try with_reducible rfl) ?_
                  refine takeB 4 rfl (by kernel_rfl) (fun _ _ _ h => h) (by kernel_rfl) (by intro w' hg; go_simp; try with_reducible rfl) ?_
                  refine takeB 5 rfl (by kernel_rfl) (fun _ _ _ h => h) (by kernel_rfl) (by intro w' hg; have g0 := (hg.cell (p := ⟨m + 1, 1, none⟩) hI).trans kin; go_simp; try with_reducible rfl) ?_
                  refine takeB 6 rfl (by kernel_rfl) (fun _ _ _ h => h) (by kernel_rfl) (by intro w' hg; go_simp; try with_reducible rfl) ?_
                  refine takeB 7 rfl (by kernel_rfl) (fun _ _ _ h => h) (by kernel_rfl) (by intro w' hg; go_simp; try with_reducible rfl) ?_
                  refine takeB 8 rfl (by kernel_rfl) (fun _ _ _ h => h) (by kernel_rfl) (by intro w' hg; have g0 := (hg.cell (p := ⟨m + 1 + 1, 1, none⟩) hOo).trans kout; go_simp; try with_reducible rfl) ?_
                  refine takeB 9 rfl (by kernel_rfl) (fun _ _ _ h => h) (by kernel_rfl) (by intro w' hg; go_simp; try with_reducible rfl) ?_
                  refine takeB 10 rfl (by kernel_rfl) (fun _ _ _ h => h) (by kernel_rfl) (by intro w' hg; go_simp; try with_reducible rfl) ?_
                  refine takeB 11 rfl (by kernel_rfl) (fun _ _ _ h => h) (by rfl) (by intro w' hg; go_simp; try with_reducible rfl) ?_
                  refine doneB (by kernel_rfl) ?_
                  go_simp
                  clear kin kout
                  go_wp2_with fail
                  go_roundw
                  case rel => exact ⟨k + 1, i0, j0, i1, j1, by go_num, by omega, by omega, by omega, HK⟩
                  case measure => simp [intOf]; omega
          · have hx' : ¬ (0 : Int) < (a : Int) % 3 := by omega
            obtain hd | hd : (a : Int) / 16 % 2 = 0 ∨ (a : Int) / 16 % 2 = 1 := by omega
            · obtain ⟨s, t, O, hs, ht⟩ := HK.out.at_
              have HS0 := hide hs
              have HT0 := hide ht
              clear hs ht
              have hl0 : (Ch.five 0 j0 (i0 - j0)).length ≤ 64 := by rw [Ch.five_length]; exact hle.1.2
              have hl1 : (Ch.five 1 j1 (i1 - j1)).length ≤ 64 := by rw [Ch.five_length]; exact hle.2.2
              have HOK := hide (dir_ok (a := 1) (k := 1) HS0.out HT0.out hl0 hl1 (by decide) (.inr rfl))
              clear hl0 hl1
              by_cases hij : i0 = j0
              · go_upto_region 16 with (fail)
                rw [hd]
                clear hd
                go_wp2_with (first | (refine load_ob rfl _ rfl rfl O ?_) | fail)
                refine (chRead_wait1 (Ob.chan 4 1 1 s t) (Ch.five 0 j0 (i0 - j0)) (Ch.five 1 j1 (i1 - j1)) _ HOK.out (show s.n = 0 by rw [HS0.out.len, Ch.five_length]; omega) (show (0 : Int) < 1 by decide) HS0.out.1 HT0.out.1).mono ?_
                rintro e w6 ⟨rfl, hb6⟩
                obtain ⟨w7, hw7, g, hg, w8, hw8, OZ, _, hb8, hs8⟩ := laid_ob Ob.zero w6
                replace HK := hide (HK.out.later (hb6.trans (hb8.mono hb6.size)))
                clear hb6 hb8 O HS0 HT0 HOK hc' hle
                have hij' : (j0 : Int) = (i0 : Int) := by omega
                clear hij
                go_upto_region 18 with (first | (refine store_ob rfl _ _ rfl rfl (c := Ob.zero) rfl OZ rfl ?_; rw [hw8]) | fail)
                refine region_B (by kernel_rfl) w8.drew.heap.size ?_
                replace HK : Hid (DirAt W w8.drew m 1 i0 j0 i1 j1) := hide HK.out.drew
                generalize w8.drew = u0 at *
                obtain ⟨s, t, O, hs, ht⟩ := HK.out.at_
                have HS0 := hide hs
                have HT0 := hide ht
                have hle := HK.out.le
                have OI := HK.out.ins
                have OO := HK.out.outs
                clear hs ht
                have hI := OI.lt
                have hOo := OO.lt
                have kin : u0.cell? ⟨m + 1, 0, none⟩ = some (.int .i64 (i0 : Int)) := OI.cell 0
                have kout : u0.cell? ⟨m + 1 + 1, 0, none⟩ = some (.int .i64 (j0 : Int)) := OO.cell 0
                clear O OI OO HS0 HT0
                refine takeB 0 rfl (by kernel_rfl) (fun _ _ _ h => h) (by rfl) (by intro w' hg; go_simp; try with_reducible rfl) ?_
                refine takeB 1 rfl (by kernel_rfl) (fun _ _ _ h => h) (by rfl) (by intro w' hg; go_simp; try with_reducible rfl) ?_
                refine takeB 2 rfl (by kernel_rfl) (fun _ _ _ h => h) (by rfl) (by intro w' hg; go_simp; try with_reducible rfl) ?_
                refine takeB 3 rfl (by kernel_rfl) (fun _ _ _ h => h) (by kernel_rfl) (by intro w' hg; go_simp; try with_reducible rfl) ?_
                refine takeB 4 rfl (by kernel_rfl) (fun _ _ _ h => h) (by kernel_rfl) (by intro w' hg; go_simp; try with_reducible rfl) ?_
                refine takeB 5 rfl (by kernel_rfl) (fun _ _ _ h => h) (by kernel_rfl) (by intro w' hg; have g0 := (hg.cell (p := ⟨m + 1, 0, none⟩) hI).trans kin; go_simp; try with_reducible rfl) ?_
                refine takeB 6 rfl (by kernel_rfl) (fun _ _ _ h => h) (by kernel_rfl) (by intro w' hg; go_simp; try with_reducible rfl) ?_
                refine takeB 7 rfl (by kernel_rfl) (fun _ _ _ h => h) (by kernel_rfl) (by intro w' hg; go_simp; try with_reducible rfl) ?_
                refine takeB 8 rfl (by kernel_rfl) (fun _ _ _ h => h) (by kernel_rfl) (by intro w' hg; have g0 := (hg.cell (p := ⟨m + 1 + 1, 0, none⟩) hOo).trans kout; go_simp; try with_reducible rfl) ?_
                refine takeB 9 rfl (by kernel_rfl) (fun _ _ _ h => h) (by kernel_rfl) (by intro w' hg; go_simp; try with_reducible rfl) ?_
                refine takeB 10 rfl (by kernel_rfl) (fun _ _ _ h => h) (by rfl) (by intro w' hg; go_simp; try with_reducible rfl) ?_
                refine doneB (by kernel_rfl) ?_
                go_simp
                clear kin kout
                go_wp2_with fail
                go_roundw
                case rel => exact ⟨k + 1, i0, j0, i1, j1, by go_num, by omega, by omega, by omega, HK⟩
                case measure => simp [intOf]; omega
              · have hji : j0 < i0 := by omega
                obtain ⟨c, hcc⟩ : ∃ c, UInt8.ofNat (j0 * 5 + 0) = c := ⟨_, rfl⟩
                have hv : ((j0 : Int) * 5) % 256 = (c.toNat : Int) := by rw [← hcc, five_byte]; simp
                have hvw : IntKind.u8.wrap ((j0 : Int) * 5) = (c.toNat : Int) := by rw [← hv, IntKind.wrap_u8]
                have hv64 := byte_i64 c
                have HX := HS0
                rw [Ch.five_cons hji, hcc] at HX
                clear hcc hij
                go_upto_region 16 with (fail)
                rw [hd]
                clear hd
                go_wp2_with (first | (refine load_ob rfl _ rfl rfl O ?_) | fail)
                refine (chRead_ok1 (Ob.chan 4 1 1 s t) c (Ch.five 1 j1 (i1 - j1)) (Ch.five 0 (j0 + 1) (i0 - (j0 + 1))) _ HOK.out HX.out.1 HT0.out.1).mono ?_
                rintro e w6 ⟨s1, t1, rfl, hn1, hn2, hb6⟩
                obtain ⟨w7, hw7, g, hg, w8, hw8, OZ, ON, hb8, hs8⟩ := laid_ob (Ob.chan 4 1 1 s1 t1) w6
                have hmr := O.lt
                have hmo := HK.out.outs.lt
                replace HK := hide (HK.out.later (hb6.trans (hb8.mono hb6.size)))
                have HN1 := hide ((hn1.below hb8).mono (show m + 1 + 1 + 1 ≤ wr.heap.size by omega))
                have HN2 := hide ((hn2.below hb8).mono (show m + 1 + 1 + 1 ≤ wr.heap.size by omega))
                have HF := hide ON
                have hgm : m + 1 + 1 < g := by have := hb6.size; omega
                have kout : w8.cell? ⟨m + 1 + 1, 0, none⟩ = some (.int .i64 (j0 : Int)) := HK.out.outs.cell 0
                have hw1 : IntKind.i64.wrap ((j0 : Int) * 5) = (j0 : Int) * 5 := by rw [IntKind.wrap_i64]; omega
                clear hb6 hb8 hn1 hn2 O HS0 HT0 HOK HX hc' hle ON
                go_upto_region 22 with (first | (refine store_ob rfl _ _ rfl rfl (c := Ob.chan 4 1 1 s1 t1) rfl OZ rfl ?_; rw [hw8]) | fail)
                clear kout hw1 hv hvw hv64 OZ hw7 hw8 hg hs8
                go_upto_region 22 with (fail)
                refine region_D (by kernel_rfl) w8.drew.heap.size m [8] ?_
                replace HK : Hid (DirAt W w8.drew m 1 i0 j0 i1 j1) := hide HK.out.drew
                replace HF : Hid (Obl w8.drew g 41 (oc (Ob.chan 4 1 1 s1 t1))) := HF
                replace HN1 : Hid (New8 (m + 1 + 1 + 1) w8.drew s1 _) := HN1
                replace HN2 : Hid (New8 (m + 1 + 1 + 1) w8.drew t1 _) := HN2
                generalize w8.drew = u0 at *
                obtain ⟨s, t, O, hs, ht⟩ := HK.out.at_
                have HS0 := hide hs
                have HT0 := hide ht
                have hle := HK.out.le
                have OI := HK.out.ins
                have OO := HK.out.outs
                clear hs ht
                have hI := OO.lt
                have kin : u0.cell? ⟨m + 1 + 1, 0, none⟩ = some (.int .i64 (j0 : Int)) := OO.cell 0
                have hFg := HF.out.lt
                refine takeDX 0 rfl (by kernel_rfl) (fun _ _ _ h => h) (by rfl) (by intro w'; go_simp; try with_reducible rfl) ?_
                refine takeD 1 [1, 6, 7, 8] rfl (by kernel_rfl) (fun _ _ _ h => h) (by rfl) (by intro w' hq; exact exec_load_ob rfl rfl (hq.obl' HF.out (by omega))) ?_
                refine takeDX 2 rfl (by kernel_rfl) (fun _ _ _ h => h) (by rfl) (by intro w'; go_simp; try with_reducible rfl) ?_
                refine takeDX 3 rfl (by kernel_rfl) (fun _ _ _ h => h) (by rfl) (by intro w'; go_simp; try with_reducible rfl) ?_
                refine takeD 4 [4, 5, 7, 8] rfl (by kernel_rfl) (fun _ _ _ h => h) (by rfl) (by intro w' hq; have g0 := (hq.cell (p := ⟨m + 1 + 1, 0, none⟩) hI (show m + 1 + 1 ≠ m by omega)).trans kin; go_simp; try with_reducible rfl) ?_
                refine takeDX 5 rfl (by kernel_rfl) (fun _ _ _ h => h) (by rfl) (by intro w'; go_simp; try with_reducible rfl) ?_
                go_simp
                refine onlyD 6 rfl (by kernel_rfl) (by rfl) ?_
                intro K hK
                refine wp_store_ch rfl rfl (c := Ob.chan 4 1 1 s1 t1) rfl O rfl ?_
                refine hK _ _ (fun _ => bel_row _ _ _) ?_
                clear hK K
                have HK2 := hide (HK.out.read0 HN1.out HN2.out (by omega))
                have OR := OO.row_other (g := m) (by omega) (oc (Ob.chan 4 1 1 s1 t1))
                obtain ⟨u1, hu1⟩ : ∃ u1, u0.setRow m (oc (Ob.chan 4 1 1 s1 t1)) = u1 := ⟨_, rfl⟩
                rw [hu1] at HK2 OR ⊢
                have k1 : u1.cell? ⟨m + 1 + 1, 0, none⟩ = some (.int .i64 (j0 : Int)) := OR.cell 0
                have z1 := OR.free 0
                clear hu1 O OI OO HS0 HT0 HF HN1 HN2 HK kin OR
                refine takeDX 7 rfl (by kernel_rfl) (fun _ _ _ h => h) (by rfl) (by intro w'; go_simp; try with_reducible rfl) ?_
                refine onlyD 8 rfl (by kernel_rfl) (by rfl) ?_
                intro K hK
                go_simp
                refine hK _ _ (fun h => absurd h (by decide)) ?_
                clear hK K
                refine doneD (by kernel_rfl) ?_
                go_simp
                go_wp2_with fail
                go_roundw
                case rel => exact ⟨k + 1, i0, j0 + 1, i1, j1, by go_num, by omega, by omega, by omega, HK2⟩
                case measure => simp [intOf]; omega
            · obtain ⟨s, t, O, hs, ht⟩ := HK.out.at_
              have HS0 := hide hs
              have HT0 := hide ht
              clear hs ht
              have hl0 : (Ch.five 0 j0 (i0 - j0)).length ≤ 64 := by rw [Ch.five_length]; exact hle.1.2
              have hl1 : (Ch.five 1 j1 (i1 - j1)).length ≤ 64 := by rw [Ch.five_length]; exact hle.2.2
              have HOK := hide (dir_ok (a := 1) (k := 0) HS0.out HT0.out hl0 hl1 (by decide) (.inl rfl))
              clear hl0 hl1
              by_cases hij : i1 = j1
              · go_upto_region 16 with (fail)
                rw [hd]
                clear hd
                go_wp2_with (first | (refine load_ob rfl _ rfl rfl O ?_) | fail)
                refine (chRead_wait0 (Ob.chan 4 1 1 s t) (Ch.five 0 j0 (i0 - j0)) (Ch.five 1 j1 (i1 - j1)) _ HOK.out (show t.n = 0 by rw [HT0.out.len, Ch.five_length]; omega) (show (0 : Int) < 1 by decide) HS0.out.1 HT0.out.1).mono ?_
                rintro e w6 ⟨rfl, hb6⟩
                obtain ⟨w7, hw7, g, hg, w8, hw8, OZ, _, hb8, hs8⟩ := laid_ob Ob.zero w6
                replace HK := hide (HK.out.later (hb6.trans (hb8.mono hb6.size)))
                clear hb6 hb8 O HS0 HT0 HOK hc' hle
                have hij' : (j1 : Int) = (i1 : Int) := by omega
                clear hij
                go_upto_region 18 with (first | (refine store_ob rfl _ _ rfl rfl (c := Ob.zero) rfl OZ rfl ?_; rw [hw8]) | fail)
                refine region_B (by kernel_rfl) w8.drew.heap.size ?_
                replace HK : Hid (DirAt W w8.drew m 1 i0 j0 i1 j1) := hide HK.out.drew
                generalize w8.drew = u0 at *
                obtain ⟨s, t, O, hs, ht⟩ := HK.out.at_
                have HS0 := hide hs
                have HT0 := hide ht
                have hle := HK.out.le
                have OI := HK.out.ins
                have OO := HK.out.outs
                clear hs ht
                have hI := OI.lt
                have hOo := OO.lt
                have kin : u0.cell? ⟨m + 1, 1, none⟩ = some (.int .i64 (i1 : Int)) := OI.cell 1
                have kout : u0.cell? ⟨m + 1 + 1, 1, none⟩ = some (.int .i64 (j1 : Int)) := OO.cell 1
                clear O OI OO HS0 HT0
                refine takeB 0 rfl (by kernel_rfl) (fun _ _ _ h => h) (by rfl) (by intro w' hg; go_simp; try with_reducible rfl) ?_
                refine takeB 1 rfl (by kernel_rfl) (fun _ _ _ h => h) (by rfl) (by intro w' hg; go_simp; try with_reducible rfl) ?_
                refine takeB 2 rfl (by kernel_rfl) (fun _ _ _ h => h) (by rfl) (by intro w' hg; go_simp; try with_reducible rfl) ?_
                refine takeB 3 rfl (by kernel_rfl) (fun _ _ _ h => h) (by kernel_rfl) (by intro w' hg; go_simp; try with_reducible rfl) ?_
                refine takeB 4 rfl (by kernel_rfl) (fun _ _ _ h => h) (by kernel_rfl) (by intro w' hg; go_simp; try with_reducible rfl) ?_
                refine takeB 5 rfl (by kernel_rfl) (fun _ _ _ h => h) (by kernel_rfl) (by intro w' hg; have g0 := (hg.cell (p := ⟨m + 1, 1, none⟩) hI).trans kin; go_simp; try with_reducible rfl) ?_
                refine takeB 6 rfl (by kernel_rfl) (fun _ _ _ h => h) (by kernel_rfl) (by intro w' hg; go_simp; try with_reducible rfl) ?_
                refine takeB 7 rfl (by kernel_rfl) (fun _ _ _ h => h) (by kernel_rfl) (by intro w' hg; go_simp; try with_reducible rfl) ?_
                refine takeB 8 rfl (by kernel_rfl) (fun _ _ _ h => h) (by kernel_rfl) (by intro w' hg; have g0 := (hg.cell (p := ⟨m + 1 + 1, 1, none⟩) hOo).trans kout; go_simp; try with_reducible rfl) ?_
                refine takeB 9 rfl (by kernel_rfl) (fun _ _ _ h => h) (by kernel_rfl) (by intro w' hg; go_simp; try with_reducible rfl) ?_
                refine takeB 10 rfl (by kernel_rfl) (fun _ _ _ h => h) (by rfl) (by intro w' hg; go_simp; try with_reducible rfl) ?_
                refine doneB (by kernel_rfl) ?_
                go_simp
                clear kin kout
                go_wp2_with fail
                go_roundw
                case rel => exact ⟨k + 1, i0, j0, i1, j1, by go_num, by omega, by omega, by omega, HK⟩
                case measure => simp [intOf]; omega
              · have hji : j1 < i1 := by omega
                obtain ⟨c, hcc⟩ : ∃ c, UInt8.ofNat (j1 * 5 + 1) = c := ⟨_, rfl⟩
                have hv : ((j1 : Int) * 5 + 1) % 256 = (c.toNat : Int) := by rw [← hcc, five_byte]; rfl
                have hvw : IntKind.u8.wrap ((j1 : Int) * 5 + 1) = (c.toNat : Int) := by rw [← hv, IntKind.wrap_u8]
                have hv64 := byte_i64 c
                have HX := HT0
                rw [Ch.five_cons hji, hcc] at HX
                clear hcc hij
                go_upto_region 16 with (fail)
                rw [hd]
                clear hd
                go_wp2_with (first | (refine load_ob rfl _ rfl rfl O ?_) | fail)
                refine (chRead_ok0 (Ob.chan 4 1 1 s t) c (Ch.five 0 j0 (i0 - j0)) (Ch.five 1 (j1 + 1) (i1 - (j1 + 1))) _ HOK.out HS0.out.1 HX.out.1).mono ?_
                rintro e w6 ⟨s1, t1, rfl, hn1, hn2, hb6⟩
                obtain ⟨w7, hw7, g, hg, w8, hw8, OZ, ON, hb8, hs8⟩ := laid_ob (Ob.chan 4 1 1 s1 t1) w6
                have hmr := O.lt
                have hmo := HK.out.outs.lt
                replace HK := hide (HK.out.later (hb6.trans (hb8.mono hb6.size)))
                have HN1 := hide ((hn1.below hb8).mono (show m + 1 + 1 + 1 ≤ wr.heap.size by omega))
                have HN2 := hide ((hn2.below hb8).mono (show m + 1 + 1 + 1 ≤ wr.heap.size by omega))
                have HF := hide ON
                have hgm : m + 1 + 1 < g := by have := hb6.size; omega
                have kout : w8.cell? ⟨m + 1 + 1, 1, none⟩ = some (.int .i64 (j1 : Int)) := HK.out.outs.cell 1
                have hw1 : IntKind.i64.wrap ((j1 : Int) * 5) = (j1 : Int) * 5 := by rw [IntKind.wrap_i64]; omega
                have hw2 : IntKind.i64.wrap ((j1 : Int) * 5 + 1) = (j1 : Int) * 5 + 1 := by rw [IntKind.wrap_i64]; omega
                clear hb6 hb8 hn1 hn2 O HS0 HT0 HOK HX hc' hle ON
                go_upto_region 22 with (first | (refine store_ob rfl _ _ rfl rfl (c := Ob.chan 4 1 1 s1 t1) rfl OZ rfl ?_; rw [hw8]) | fail)
                clear kout hw1 hw2 hv hvw hv64 OZ hw7 hw8 hg hs8
                go_upto_region 22 with (fail)
                refine region_D (by kernel_rfl) w8.drew.heap.size m [8] ?_
                replace HK : Hid (DirAt W w8.drew m 1 i0 j0 i1 j1) := hide HK.out.drew
                replace HF : Hid (Obl w8.drew g 41 (oc (Ob.chan 4 1 1 s1 t1))) := HF
                replace HN1 : Hid (New8 (m + 1 + 1 + 1) w8.drew s1 _) := HN1
                replace HN2 : Hid (New8 (m + 1 + 1 + 1) w8.drew t1 _) := HN2
                generalize w8.drew = u0 at *
                obtain ⟨s, t, O, hs, ht⟩ := HK.out.at_
                have HS0 := hide hs
                have HT0 := hide ht
                have hle := HK.out.le
                have OI := HK.out.ins
                have OO := HK.out.outs
                clear hs ht
                have hI := OO.lt
                have kin : u0.cell? ⟨m + 1 + 1, 1, none⟩ = some (.int .i64 (j1 : Int)) := OO.cell 1
                have hFg := HF.out.lt
                refine takeDX 0 rfl (by kernel_rfl) (fun _ _ _ h => h) (by rfl) (by intro w'; go_simp; try with_reducible rfl) ?_
                refine takeD 1 [1, 6, 7, 8] rfl (by kernel_rfl) (fun _ _ _ h => h) (by rfl) (by intro w' hq; exact exec_load_ob rfl rfl (hq.obl' HF.out (by omega))) ?_
                refine takeDX 2 rfl (by kernel_rfl) (fun _ _ _ h => h) (by rfl) (by intro w'; go_simp; try with_reducible rfl) ?_
                refine takeDX 3 rfl (by kernel_rfl) (fun _ _ _ h => h) (by rfl) (by intro w'; go_simp; try with_reducible rfl) ?_
                refine takeD 4 [4, 5, 7, 8] rfl (by kernel_rfl) (fun _ _ _ h => h) (by rfl) (by intro w' hq; have g0 := (hq.cell (p := ⟨m + 1 + 1, 1, none⟩) hI (show m + 1 + 1 ≠ m by omega)).trans kin; go_simp; try with_reducible rfl) ?_
                refine takeDX 5 rfl (by kernel_rfl) (fun _ _ _ h => h) (by rfl) (by intro w'; go_simp; try with_reducible rfl) ?_
                go_simp
                refine onlyD 6 rfl (by kernel_rfl) (by rfl) ?_
                intro K hK
                refine wp_store_ch rfl rfl (c := Ob.chan 4 1 1 s1 t1) rfl O rfl ?_
                refine hK _ _ (fun _ => bel_row _ _ _) ?_
                clear hK K
                have HK2 := hide (HK.out.read1 HN1.out HN2.out (by omega))
                have OR := OO.row_other (g := m) (by omega) (oc (Ob.chan 4 1 1 s1 t1))
                obtain ⟨u1, hu1⟩ : ∃ u1, u0.setRow m (oc (Ob.chan 4 1 1 s1 t1)) = u1 := ⟨_, rfl⟩
                rw [hu1] at HK2 OR ⊢
                have k1 : u1.cell? ⟨m + 1 + 1, 1, none⟩ = some (.int .i64 (j1 : Int)) := OR.cell 1
                have z1 := OR.free 1
                clear hu1 O OI OO HS0 HT0 HF HN1 HN2 HK kin OR
                refine takeDX 7 rfl (by kernel_rfl) (fun _ _ _ h => h) (by rfl) (by intro w'; go_simp; try with_reducible rfl) ?_
                refine onlyD 8 rfl (by kernel_rfl) (by rfl) ?_
                intro K hK
                go_simp
                refine hK _ _ (fun h => absurd h (by decide)) ?_
                clear hK K
                refine doneD (by kernel_rfl) ?_
                go_simp
                go_wp2_with fail
                go_roundw
                case rel => exact ⟨k + 1, i0, j0, i1, j1 + 1, by go_num, by omega, by omega, by omega, HK2⟩
                case measure => simp [intOf]; omega
        · have h2' : (200 : Int) ≤ (k : Int) := by omega
          go_wp2_with fail
          go_meet
          case rel => exact ⟨i0, j0, i1, j1, by omega, HK⟩
      · have hlt' : ¬ (k : Int) < (q : Int) := by omega
        go_wp2_with fail
        go_meet
        case rel => exact ⟨i0, j0, i1, j1, by omega, HK⟩
  case rest =>
    clear HK
    obtain ⟨i0, j0, i1, j1, hi, HK⟩ := hcut
    obtain ⟨s, t, O, hs, ht⟩ := HK.out.at_
    have z32 := O.free 32
    have k32 : wc.cell? ⟨m, 32, none⟩ = some (.int .i64 1) := O.cell 32
    have hmr := O.lt
    have HKd := hide (HK.out.closed)
    obtain ⟨wd, hwd⟩ : ∃ wd, wc.setCell ⟨m, 32, none⟩ (.int .i64 0) = wd := ⟨_, rfl⟩
    rw [hwd] at HKd
    clear O hs ht HK hmr
    obtain ⟨s, t, O, hs, ht⟩ := HKd.out.at_
    have HS0 := hide hs
    have HT0 := hide ht
    have hle := HKd.out.le
    clear hs ht
    have hl0 : (Ch.five 0 j0 (i0 - j0)).length ≤ 64 := by rw [Ch.five_length]; exact hle.1.2
    have hl1 : (Ch.five 1 j1 (i1 - j1)).length ≤ 64 := by rw [Ch.five_length]; exact hle.2.2
    have hok := dir_ok (a := 0) (k := 1) HS0.out HT0.out hl0 hl1 (by decide) (.inr rfl)
    have HOK := hide hok
    have HE : Hid ((Ob.chan 4 0 1 s t).chWr 1 = 13) := hide (by rw [dir_wr hok, if_pos (show (Ob.chan 4 0 1 s t).eAt (1 - 1) = 0 from rfl)])
    clear hok hl0 hl1
    go_wp2_with (first | (refine load_ob rfl _ rfl rfl O ?_) | fail)
    refine (chWrite_no1 (Ob.chan 4 0 1 s t) 9 (Ch.five 0 j0 (i0 - j0)) (Ch.five 1 j1 (i1 - j1)) _ HOK.out (by rw [HE.out]; decide) HS0.out.1 HT0.out.1).mono ?_
    rintro e w6 ⟨rfl, hb6⟩
    rw [HE.out]
    obtain ⟨w7, hw7, g, hg, w8, hw8, OZ, _, hb8, hs8⟩ := laid_ob Ob.zero w6
    have HK := hide (HKd.out.later (hb6.trans (hb8.mono hb6.size)))
    clear hb6 hb8 HKd O HS0 HT0 HOK HE z32 k32 hwd
    go_wp2_with (first | (refine store_ob rfl _ _ rfl rfl (c := Ob.zero) rfl OZ rfl ?_; rw [hw8]) | fail)
    clear hw7 hg hs8 hle
    go_loopw [16] (fun _ wr => ∃ j : Nat, Hid (DirAt W wr m 0 i0 j i1 j1)) (fun _ w => i0 - outOf w (m + 1 + 1))
    case atStart => exact ⟨j0, HK⟩
    case round =>
      clear HK OZ hw8
      obtain ⟨j, HK⟩ := hrel
      have hle := HK.out.le
      obtain ⟨s, t, O, hs, ht⟩ := HK.out.at_
      have HS0 := hide hs
      have HT0 := hide ht
      clear hs ht
      have hl0 : (Ch.five 0 j (i0 - j)).length ≤ 64 := by rw [Ch.five_length]; exact hle.1.2
      have hl1 : (Ch.five 1 j1 (i1 - j1)).length ≤ 64 := by rw [Ch.five_length]; exact hle.2.2
      have HOK := hide (dir_ok (a := 0) (k := 1) HS0.out HT0.out hl0 hl1 (by decide) (.inr rfl))
      have kin : wr.cell? ⟨m + 1, 0, none⟩ = some (.int .i64 (i0 : Int)) := HK.out.ins.cell 0
      have kout : wr.cell? ⟨m + 1 + 1, 0, none⟩ = some (.int .i64 (j : Int)) := HK.out.outs.cell 0
      have HM := hide (outOf_of kout)
      clear hl0 hl1
      by_cases hlt : j < i0
      · have hlt' : (j : Int) < (i0 : Int) := by omega
        obtain ⟨c, hcc⟩ : ∃ c, UInt8.ofNat (j * 5 + 0) = c := ⟨_, rfl⟩
        have hv : ((j : Int) * 5) % 256 = (c.toNat : Int) := by rw [← hcc, five_byte]; simp
        have hvw : IntKind.u8.wrap ((j : Int) * 5) = (c.toNat : Int) := by rw [← hv, IntKind.wrap_u8]
        have hv64 := byte_i64 c
        have hw1 : IntKind.i64.wrap ((j : Int) * 5) = (j : Int) * 5 := by rw [IntKind.wrap_i64]; omega
        rw [Ch.five_cons hlt, hcc] at HS0
        clear hcc
        go_wp2_with (first | (refine load_ob rfl _ rfl rfl O ?_) | fail)
        refine (chRead_ok1 (Ob.chan 4 0 1 s t) c (Ch.five 1 j1 (i1 - j1)) (Ch.five 0 (j + 1) (i0 - (j + 1))) _ HOK.out HS0.out.1 HT0.out.1).mono ?_
        rintro e w6 ⟨s1, t1, rfl, hn1, hn2, hb6⟩
        obtain ⟨w7, hw7, g, hg, w8, hw8, OZ, ON, hb8, hs8⟩ := laid_ob (Ob.chan 4 0 1 s1 t1) w6
        have hmo := HK.out.outs.lt
        replace HK := hide (HK.out.later (hb6.trans (hb8.mono hb6.size)))
        have O8 := O.below (hb6.trans (hb8.mono hb6.size)) O.lt
        have HK2 := hide (HK.out.read0 ((hn1.below hb8).mono (show m + 1 + 1 + 1 ≤ wr.heap.size by omega)) ((hn2.below hb8).mono (show m + 1 + 1 + 1 ≤ wr.heap.size by omega)) hlt)
        have OO9 := HK.out.outs.row_other (g := m) (by omega) (oc (Ob.chan 4 0 1 s1 t1))
        have k8 : w8.cell? ⟨m + 1 + 1, 0, none⟩ = some (.int .i64 (j : Int)) := HK.out.outs.cell 0
        obtain ⟨w9, hw9⟩ : ∃ w9, w8.setRow m (oc (Ob.chan 4 0 1 s1 t1)) = w9 := ⟨_, rfl⟩
        rw [hw9] at OO9 HK2
        have k9 : w9.cell? ⟨m + 1 + 1, 0, none⟩ = some (.int .i64 (j : Int)) := OO9.cell 0
        have z9 := OO9.free 0
        have kn : (w9.setCell ⟨m + 1 + 1, 0, none⟩ (.int .i64 ((j : Int) + 1))).cell? ⟨m + 1 + 1, 0, none⟩ = some (.int .i64 ((j + 1 : Nat) : Int)) := (OO9.put 0 _).cell 0
        have HMn := hide (outOf_of kn)
        clear hb6 hb8 hn1 hn2 O HS0 HT0 HOK HK OO9 kn kin kout
        go_wp2_with (first | (refine store_ob rfl _ _ rfl rfl (c := Ob.chan 4 0 1 s1 t1) rfl OZ rfl ?_; rw [hw8]) | (refine load_ob rfl _ rfl rfl ON ?_) | (refine store_ob rfl _ _ rfl rfl (c := Ob.chan 4 0 1 s1 t1) rfl O8 rfl ?_; rw [hw9]) | fail)
        go_roundw
        case rel => exact ⟨j + 1, HK2⟩
        case measure => rw [HMn.out, HM.out]; omega
      · have hji : j = i0 := by omega
        subst hji
        have hlt' : ¬ (j : Int) < (j : Int) := by omega
        have hb0 := HK.out.below
        have HB0 := hide hb0
        clear hb0 HM
        go_wp2_with (first | (refine load_ob rfl _ rfl rfl O ?_) | fail)
        refine (chRead_end1 (Ob.chan 4 0 1 s t) (Ch.five 0 j (j - j)) (Ch.five 1 j1 (i1 - j1)) _ HOK.out (show s.n = 0 by rw [HS0.out.len, Ch.five_length]; omega) (Int.le_refl 0) HS0.out.1 HT0.out.1).mono ?_
        rintro e w6 ⟨s1, t1, rfl, _, _, hb6⟩
        obtain ⟨w7, hw7, g, hg, w8, hw8, OZ, _, hb8, hs8⟩ := laid_ob (Ob.chan 4 0 1 s1 t1) w6
        have HB8 := hide (HB0.out.trans ((hb6.trans (hb8.mono hb6.size)).mono HB0.out.size))
        clear hb6 hb8 O HS0 HT0 HOK HK HB0 kin kout
        go_wp2_with (first | (refine store_ob rfl _ _ rfl rfl (c := Ob.chan 4 0 1 s1 t1) rfl OZ rfl ?_; rw [hw8]) | fail)
        go_ret
        exact ⟨rfl, HB8.out⟩
end Go.Proofs.Yteaippnffmhhnaa
