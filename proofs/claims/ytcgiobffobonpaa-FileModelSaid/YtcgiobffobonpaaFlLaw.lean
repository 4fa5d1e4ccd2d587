/- Layer 8, what the laws share: files laid in blocks, the sanity check. -/
import Derived.Test.YtcgiobffobonpaaFlPut
import Derived.Test.YtcgiobffobonpaaFlOpen
namespace Go.Proofs.Ytcgiobffobonpaa
open Go.RowKit

/-- Block m is the file id, whose bytes are D. -/
structure FlAt (w : World) (m : Nat) (id : Int) (A : Option Addr) (n c : Nat) (D : List UInt8) : Prop where
  ob : Obl w m 41 (oc (Ob.file id ⟨A, n, c⟩))
  data : Bytes w w.heap.size A n D
theorem FlAt.below {w w' : World} {m : Nat} {id : Int} {A : Option Addr} {n c : Nat} {D : List UInt8} (h : FlAt w m id A n c D) (hb : Below w.heap.size w w') : FlAt w' m id A n c D := ⟨h.ob.below hb h.ob.lt, (h.data.below hb).mono hb.size⟩
theorem Fl.getD_put (D : List UInt8) (n k : Nat) (c : UInt8) : (Fl.put D n c).getD k 0 = if k = n then c else D.getD k 0 := by
  rw [List.getD_eq_getElem?_getD, List.getD_eq_getElem?_getD]
  split
  · rename_i h; subst h; rw [Fl.put_same]; rfl
  · rename_i h
    rw [Fl.put_other c h]
    split
    · rfl
    · rename_i hk
      rw [List.getElem?_eq_none (by omega : D.length ≤ k)]
      split <;> rfl
theorem file_read {id : Int} {s : Sl} (hid : id ≠ 0) (hs : s.n ≤ 4096) (D : List UInt8) (k : Nat) : (Ob.file id s).fcheck (k : Int) = 0 ∧ (Ob.file id s).fthere D (k : Int) = decide (k < D.length) ∧ (Ob.file id s).fbyte D (k : Int) = ((D.getD k 0).toNat : Int) := by
  have h := Ob.fcheck_ok (file_file hid hs) (n := (k : Int)) (by omega)
  refine ⟨h, ?_, ?_⟩
  · unfold Ob.fthere; rw [h]; simp
  · unfold Ob.fbyte
    split
    · rw [Int.toNat_natCast]
    · rename_i hk
      rw [List.getD_eq_getElem?_getD, List.getElem?_eq_none (by rw [h] at hk; omega)]
      rfl
theorem file_write {id : Int} {s : Sl} (hid : id ≠ 0) (hs : s.n ≤ 4096) {k : Nat} (hk : k < 4096) : (Ob.file id s).fwrite (k : Int) = 0 := Ob.fwrite_ok (Ob.fcheck_ok (file_file hid hs) (by omega)) (by omega)

set_option maxRecDepth 100000 in
set_option maxHeartbeats 4000000 in
theorem flSane_any (W : World) : Calls Try.prog 6 #[] W (BoolPost true W) := by
  go_enter Try.func6, Try.ntmps6
  try dsimp only [List.append]
  go_wp2_with fail
  refine (flNew_any 3 _).mono ?_
  rintro e w1 ⟨rfl, hb1⟩
  have HB1 := hide hb1
  clear hb1
  go_wp2_with fail
  refine (flWrite_ok (Ob.file 3 ⟨none, 0, 0⟩) [] 2 7 _ (file_write (by decide) (by decide) (by decide)) Bytes.nil).mono ?_
  rintro e w2 ⟨A, n, c, rfl, hown, hb2⟩
  have hD := Bytes.of_own hown
  clear hown
  rw [show Fl.put [] 2 7 = [0, 0, 7] from rfl] at hD
  obtain rfl : n = 3 := hD.len.symm
  obtain ⟨w3, hw3, m, hm, w4, hw4, OZ, OM, hb4, hs4⟩ := laid_ob (Ob.file 3 ⟨A, 3, c⟩) w2
  have P : FlAt w4 m 3 A 3 c [0, 0, 7] := ⟨OM, (hD.below hb4).mono hb4.size⟩
  have HB4 := hide (HB1.out.trans ((hb2.trans (hb4.mono hb2.size)).mono HB1.out.size))
  clear hb2 hb4 HB1 OM hD
  go_wp2_with (first | (refine store_ob rfl _ _ rfl rfl (c := Ob.file 3 ⟨A, 3, c⟩) rfl OZ rfl ?_; rw [hw4]) | (refine load_ob rfl _ rfl rfl P.ob ?_) | fail)
  refine (flRead_any (Ob.file 3 ⟨A, 3, c⟩) [0, 0, 7] 2 _ P.data).mono ?_
  rintro e w5 ⟨rfl, hb5⟩
  obtain ⟨r1, r2, r3⟩ := file_read (id := 3) (s := ⟨A, 3, c⟩) (by decide) (show 3 ≤ 4096 by omega) [0, 0, 7] 2
  rw [show ((2 : Nat) : Int) = 2 from rfl] at r1 r2 r3
  rw [r1, r2, r3]
  replace P := P.below hb5
  have HB5 := hide (HB4.out.trans (hb5.mono HB4.out.size))
  clear hb5 HB4 OZ hw4 hw3 hm hs4 r1 r2 r3
  go_wp2_with (first | (refine load_ob rfl _ rfl rfl P.ob ?_) | fail)
  refine (flRead_any (Ob.file 3 ⟨A, 3, c⟩) [0, 0, 7] 3 _ P.data).mono ?_
  rintro e w6 ⟨rfl, hb6⟩
  obtain ⟨r1, r2, r3⟩ := file_read (id := 3) (s := ⟨A, 3, c⟩) (by decide) (show 3 ≤ 4096 by omega) [0, 0, 7] 3
  rw [show ((3 : Nat) : Int) = 3 from rfl] at r1 r2 r3
  rw [r1, r2, r3]
  replace P := P.below hb6
  have HB6 := hide (HB5.out.trans (hb6.mono HB5.out.size))
  clear hb6 HB5 r1 r2 r3
  obtain ⟨b, f, hl, rfl, hlt, c0⟩ := P.data.at_ (k := 0) (by omega)
  have k24 : w6.cell? ⟨m, 24, none⟩ = some (.slice (some ⟨b, f, none⟩) 3 c) := P.ob.cell 24
  have c0' : w6.cell? ⟨b, f + 0, none⟩ = some (.int .u8 0) := c0
  rw [Nat.add_zero] at c0'
  have OM := P.ob
  clear c0 P
  go_wp2_with (first | (refine wpList_val (by rfl) (exec_load_ob rfl rfl OM) ?_) | (go_at_call 17; refine (flValid_any _ _).mono ?_; rintro e w7 ⟨rfl, hb7⟩; rw [decide_eq_true (file_file (id := 3) (s := ⟨some ⟨b, f, none⟩, 3, c⟩) (by decide) (show 3 ≤ 4096 by omega))]) | (go_at_call 23; refine (flOpened_any 4 3 _).mono ?_; rintro e w8 ⟨rfl, hb8⟩) | (go_at_call 19; refine (flValidOpen_any _ _).mono ?_; rintro e w9 ⟨rfl, hb9⟩; rw [show decide (Ob.desc 4 3).Desc = true from rfl]) | fail)
  go_ret
  exact ⟨rfl, HB6.out.trans ((hb7.trans ((hb8.trans (hb9.mono hb8.size)).mono hb7.size)).mono HB6.out.size)⟩
end Go.Proofs.Ytcgiobffobonpaa
