/- Layer 3, identifiers' texts: contracts of Format, and of the plain check of the statements. -/
import Derived.Test.YtgdhlghklnlahaaDoorNumRef
import Derived.Test.YtgdhlghklnlahaaDoorIdentNext
namespace Go.Proofs.YtgdhlghklnlahaaDoor
open Go.RowKit

namespace Id
/-- The text of an identifier. -/
def text (id : Nat) : List UInt8 := Lib.itoa ((id / 72057594037927936 : Nat) : Int) ++ [46] ++ Lib.itoa ((id / 1099511627776 % 65536 : Nat) : Int) ++ [46] ++ Lib.itoa ((id % 1099511627776 : Nat) : Int)
theorem itoa_digit (k : Nat) (h : k < 10) : Lib.itoa (k : Int) = [UInt8.ofNat (48 + k)] := by
  unfold Lib.itoa
  rw [if_neg (by omega), Int.toNat_natCast, Lib.decDigits, dif_pos h]
theorem text_sane : text 144118486610739204 = [50, 46, 51, 46, 52] := by
  unfold text
  rw [show (144118486610739204 / 72057594037927936 : Nat) = 2 from rfl, show (144118486610739204 / 1099511627776 % 65536 : Nat) = 3 from rfl, show (144118486610739204 % 1099511627776 : Nat) = 4 from rfl, itoa_digit 2 (by omega), itoa_digit 3 (by omega), itoa_digit 4 (by omega)]
  rfl
theorem text_le (id : Nat) (h : id < 18446744073709551616) : (text id).length ≤ 92 := by
  have h1 := Wd.itoa_le (n := ((id / 72057594037927936 : Nat) : Int)) (by omega) (by omega)
  have h2 := Wd.itoa_le (n := ((id / 1099511627776 % 65536 : Nat) : Int)) (by omega) (by omega)
  have h3 := Wd.itoa_le (n := ((id % 1099511627776 : Nat) : Int)) (by omega) (by omega)
  simp only [text, List.length_append, List.length_singleton]
  omega
end Id

set_option maxHeartbeats 1000000 in
theorem idFormat_any (id : Nat) (w : World) (h : id < 18446744073709551616) (hL : LaidT w) : Calls Tryd.prog 17 #[.int .u64 (id : Int)] w fun e w' => e = .returned (.string ⟨(Id.text id).toArray⟩) ∧ Below w.heap.size w w' := by
  have HL := hide hL
  have b1 := Wd.itoa_le (n := ((id / 72057594037927936 : Nat) : Int)) (by omega) (by omega)
  have b2 := Wd.itoa_le (n := ((id / 1099511627776 % 65536 : Nat) : Int)) (by omega) (by omega)
  have b3 := Wd.itoa_le (n := ((id % 1099511627776 : Nat) : Int)) (by omega) (by omega)
  have Ht : Hid (Id.text id = Lib.itoa ((id / 72057594037927936 : Nat) : Int) ++ [46] ++ Lib.itoa ((id / 1099511627776 % 65536 : Nat) : Int) ++ [46] ++ Lib.itoa ((id % 1099511627776 : Nat) : Int)) := hide rfl
  have HS := hide (fun w => split_any id w h)
  have F1 := hide (fun w => formatT_any ((id / 72057594037927936 : Nat) : Int) w (by omega) (by omega))
  have F2 := hide (fun w => formatT_any ((id / 1099511627776 % 65536 : Nat) : Int) w (by omega) (by omega))
  have F3 := hide (fun w => formatT_any ((id % 1099511627776 : Nat) : Int) w (by omega) (by omega))
  unfold SplitPost at HS
  generalize Lib.itoa ((id / 72057594037927936 : Nat) : Int) = l1 at *
  generalize Lib.itoa ((id / 1099511627776 % 65536 : Nat) : Int) = l2 at *
  generalize Lib.itoa ((id % 1099511627776 : Nat) : Int) = l3 at *
  clear hL
  rw [Ht.out, ← ba_append, ← ba_append, ← ba_append, ← ba_append]
  have s1 : (⟨l1.toArray⟩ : ByteArray).size ≤ 30 := by rw [ba_size]; exact b1
  have s2 : (⟨l2.toArray⟩ : ByteArray).size ≤ 30 := by rw [ba_size]; exact b2
  have s3 : (⟨l3.toArray⟩ : ByteArray).size ≤ 30 := by rw [ba_size]; exact b3
  go_enter Tryd.func17, Tryd.ntmps17
  go_wp2_with fail
  refine (HS.out _).mono ?_
  rintro e w1 ⟨rfl, rfl⟩
  go_wp2_with fail
  refine (F1.out _ HL.out).mono ?_
  rintro e w1 ⟨rfl, hb1⟩
  have HL1 := hide (HL.out.below hb1)
  go_wp2_with fail
  refine (F2.out _ HL1.out).mono ?_
  rintro e w2 ⟨rfl, hb2⟩
  have hb12 := hb1.trans (hb2.mono hb1.size)
  have HL2 := hide (HL.out.below hb12)
  go_wp2_with fail
  refine (F3.out _ HL2.out).mono ?_
  rintro e w3 ⟨rfl, hb3⟩
  have hb13 := hb12.trans (hb3.mono hb12.size)
  go_wp2
  go_ret
  exact ⟨rfl, hb13⟩
set_option maxHeartbeats 1000000 in
theorem refIdFormat_any (id : Nat) (w : World) (h : id < 18446744073709551616) : Calls Tryd.prog 18 #[.int .u64 (id : Int)] w fun e w' => e = .returned (.string ⟨(Id.text id).toArray⟩) ∧ Below w.heap.size w w' := by
  have b1 := Wd.itoa_le (n := ((id / 72057594037927936 : Nat) : Int)) (by omega) (by omega)
  have b2 := Wd.itoa_le (n := ((id / 1099511627776 % 65536 : Nat) : Int)) (by omega) (by omega)
  have b3 := Wd.itoa_le (n := ((id % 1099511627776 : Nat) : Int)) (by omega) (by omega)
  have Ht : Hid (Id.text id = Lib.itoa ((id / 72057594037927936 : Nat) : Int) ++ [46] ++ Lib.itoa ((id / 1099511627776 % 65536 : Nat) : Int) ++ [46] ++ Lib.itoa ((id % 1099511627776 : Nat) : Int)) := hide rfl
  have HS := hide (fun w => refSplit_any id w h)
  have F1 := hide (fun w => refFormat_any ((id / 72057594037927936 : Nat) : Int) w (by omega) (by omega))
  have F2 := hide (fun w => refFormat_any ((id / 1099511627776 % 65536 : Nat) : Int) w (by omega) (by omega))
  have F3 := hide (fun w => refFormat_any ((id % 1099511627776 : Nat) : Int) w (by omega) (by omega))
  unfold SplitPost at HS
  generalize Lib.itoa ((id / 72057594037927936 : Nat) : Int) = l1 at *
  generalize Lib.itoa ((id / 1099511627776 % 65536 : Nat) : Int) = l2 at *
  generalize Lib.itoa ((id % 1099511627776 : Nat) : Int) = l3 at *
  rw [Ht.out, ← ba_append, ← ba_append, ← ba_append, ← ba_append]
  have s1 : (⟨l1.toArray⟩ : ByteArray).size ≤ 30 := by rw [ba_size]; exact b1
  have s2 : (⟨l2.toArray⟩ : ByteArray).size ≤ 30 := by rw [ba_size]; exact b2
  have s3 : (⟨l3.toArray⟩ : ByteArray).size ≤ 30 := by rw [ba_size]; exact b3
  go_enter Tryd.func18, Tryd.ntmps18
  go_wp2_with fail
  refine (HS.out _).mono ?_
  rintro e w1 ⟨rfl, rfl⟩
  go_wp2_with fail
  refine (F1.out _).mono ?_
  rintro e w1 ⟨rfl, hb1⟩
  go_wp2_with fail
  refine (F2.out _).mono ?_
  rintro e w2 ⟨rfl, hb2⟩
  have hb12 := hb1.trans (hb2.mono hb1.size)
  go_wp2_with fail
  refine (F3.out _).mono ?_
  rintro e w3 ⟨rfl, hb3⟩
  have hb13 := hb12.trans (hb3.mono hb12.size)
  go_wp2
  go_ret
  exact ⟨rfl, hb13⟩

set_option maxRecDepth 100000 in
set_option maxHeartbeats 2000000 in
theorem sane3_any (w : World) (hL : LaidT w) : Calls Tryd.prog 8 #[] w fun e w' => e = .returned (.bool true) ∧ Below w.heap.size w w' := by
  have HL := hide hL
  have HT := hide Id.text_sane
  clear hL
  go_enter Tryd.func8, Tryd.ntmps8
  go_wp2_with fail
  refine (make_any _ _ _ _).mono ?_
  intro e w1 hp
  obtain ⟨rfl, rfl⟩ := hp.at_ (v := 144118486610739204) (er := 0) (by decide)
  clear hp
  go_wp2_with fail
  refine (new_any _ _ _).mono ?_
  intro e w1 hp
  obtain ⟨rfl, hb1⟩ := hp.at_ (a := (0, 0, 0)) (er := 0) (by decide)
  clear hp
  simp only [al]
  go_wp2_with fail
  refine (next_any (0, 0, 0) 1 _).mono ?_
  intro e w2 hp
  obtain ⟨A, c, rfl, hc, hcm, hn, hb2⟩ := hp.at_ (l := [1]) (a := (0, 0, 1)) (er := 0) (by decide)
  clear hp
  have hb12 : Below w.heap.size w w2 := (hb1.alloc hb1.size _).trans (hb2.mono (by simp; have := hb1.size; omega))
  obtain ⟨b, o, hl, rfl, hlt, hcell⟩ := hn.at_ (i := 0) (by decide)
  simp only [al]
  have hcell' : w2.cell? ⟨b, o, none⟩ = some (.int .u64 1) := hcell
  have hB2 := hb12.size
  clear hcell hn hc
  go_wp2_with fail
  have hL3 : LaidT (w2.alloc (.cells #[.int .i64 0, .int .i64 0, .int .i64 1] 34)) := HL.out.below (hb12.alloc hB2 _)
  refine (idFormat_any 144118486610739204 _ (by omega) hL3).mono ?_
  rintro e w3 ⟨rfl, hb3⟩
  rw [HT.out]
  have hcell3 : w3.cell? ⟨b, o, none⟩ = some (.int .u64 1) := (hb3.cell (p := ⟨b, o, none⟩) (by show b < _; simp; omega)).trans ((World.cell?_alloc_lt w2 _ _ hlt).trans hcell')
  clear hcell' hL3
  have hb13 : Below w.heap.size w w3 := (hb12.alloc hB2 _).trans (hb3.mono (by simp; omega))
  go_wp2_with fail
  refine (valid_any 144118486610739204 _ (by omega)).mono ?_
  rintro e w4 ⟨rfl, rfl⟩
  go_wp2
  go_ret
  exact ⟨rfl, hb13⟩
end Go.Proofs.YtgdhlghklnlahaaDoor
