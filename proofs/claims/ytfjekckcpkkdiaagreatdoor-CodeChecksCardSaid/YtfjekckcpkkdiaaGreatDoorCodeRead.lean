/- Layer 4, reading operands: contracts of the code and of the document's own answer. -/
import Derived.Test.YtfjekckcpkkdiaaGreatDoorCodeOps
import Derived.Test.YtfjekckcpkkdiaaGreatDoorCodeText
import Derived.Test.YtfjekckcpkkdiaaGreatDoorNumRef
import Derived.Test.YtfjekckcpkkdiaaGreatDoorWordsLines
namespace Go.Proofs.YtfjekckcpkkdiaaGreatDoor
open Go.RowKit

/-- A number, if there is one. -/
def OptPost (r : Option Int) (w : World) (e : Ending) (w' : World) : Prop := e = .returned (.tuple #[.int .i64 (r.getD 0), .bool r.isSome]) ∧ Below w.heap.size w w'
theorem OptPost.no {r : Option Int} {w w' : World} {e : Ending} (hr : r = none) (he : e = .returned (.tuple #[.int .i64 0, .bool false])) (hb : Below w.heap.size w w') : OptPost r w e w' := by subst hr; exact ⟨he, hb⟩
theorem OptPost.yes {r : Option Int} {v : Int} {w w' : World} {e : Ending} (hr : r = some v) (he : e = .returned (.tuple #[.int .i64 v, .bool true])) (hb : Below w.heap.size w w') : OptPost r w e w' := by subst hr; exact ⟨he, hb⟩

theorem regW_no {s : ByteArray} (h : s.size ≠ 2) : Cd.regW s.data.toList = none := by
  unfold Cd.regW; rw [if_neg]; rintro ⟨h1, _⟩; exact h (by rw [Lib.size_eq]; exact h1)
theorem getD_str {s : ByteArray} {k : Nat} (h : k < s.size) : s.data.toList.getD k 0 = s[k] := by
  have := str_at h
  rw [List.getD, this]; rfl
theorem regW_eq {s : ByteArray} (h : s.size = 2) : Cd.regW s.data.toList = if s[0] = 114 ∧ Wd.dig s[1] = true then some ((s[1].toNat : Int) - 48) else none := by
  unfold Cd.regW
  rw [getD_str (by omega), getD_str (by omega)]
  have : s.data.toList.length = 2 := by rw [← Lib.size_eq]; exact h
  simp [this]
theorem number_err {l : List UInt8} (h : (Wd.number l).2 ≠ 0) : (Wd.number l).1 = 0 := by
  revert h
  unfold Wd.number
  split
  · split <;> split <;> simp
  · simp

set_option maxHeartbeats 1000000 in
theorem readRegister_any (s : ByteArray) (w : World) (hs : s.size ≤ 1048576) : Calls Tryz.prog 107 #[.string s] w (OptPost (Cd.regW s.data.toList) w) := by
  by_cases h2 : s.size = 2
  · have h0 : 0 < s.size := by omega
    have h1 : 1 < s.size := by omega
    have HR : Hid (Cd.regW s.data.toList = if s[0]'h0 = 114 ∧ Wd.dig (s[1]'h1) = true then some (((s[1]'h1).toNat : Int) - 48) else none) := hide (regW_eq h2)
    have z2 : ((s.size : Int) == 2) = true := by simp; omega
    have z2' : ((s.size : Int) != 2) = false := by simp; omega
    clear h2
    by_cases ha : s[0] = 114
    · have e1 : ((s[0].toNat : Int) == 114) = true := by rw [ha]; rfl
      have e1' : ((s[0].toNat : Int) != 114) = false := by rw [ha]; rfl
      have HA := hide ha
      clear ha
      have hx := s[1].toNat_lt
      rcases dig_cases s[1] with ⟨hd, d1, d2⟩ | ⟨hd, hd2⟩
      · have HY : Hid (Cd.regW s.data.toList = some ((s[1].toNat : Int) - 48)) := hide (by rw [HR.out, if_pos ⟨HA.out, hd⟩])
        have hb := Wd.dig_iff.1 hd
        clear hd
        have Hb := hide hb
        go_enter Tryz.func107, Tryz.ntmps107
        go_wp2
        go_ret2
        exact OptPost.yes HY.out (by go_num) (Below.refl _ _)
      · have HN : Hid (Cd.regW s.data.toList = none) := hide (by rw [HR.out, if_neg (by rintro ⟨_, h⟩; rw [hd] at h; cases h)])
        clear hd
        rcases hd2 with d1 | ⟨d1, d2⟩
        all_goals
          go_enter Tryz.func107, Tryz.ntmps107
          go_wp2
          go_ret2
          exact OptPost.no HN.out rfl (Below.refl _ _)
    · have e1 : ((s[0].toNat : Int) == 114) = false := by have := ne_nat ha; simp; rw [show (114 : UInt8).toNat = 114 from rfl] at this; omega
      have e1' : ((s[0].toNat : Int) != 114) = true := by have := ne_nat ha; simp; rw [show (114 : UInt8).toNat = 114 from rfl] at this; omega
      have HN : Hid (Cd.regW s.data.toList = none) := hide (by rw [HR.out, if_neg (fun h => ha h.1)])
      clear ha
      go_enter Tryz.func107, Tryz.ntmps107
      go_wp2
      go_ret2
      exact OptPost.no HN.out rfl (Below.refl _ _)
  · have z2 : ((s.size : Int) == 2) = false := by simp; omega
    have z2' : ((s.size : Int) != 2) = true := by simp; omega
    have HN := hide (regW_no h2)
    clear h2
    go_enter Tryz.func107, Tryz.ntmps107
    go_wp2
    go_ret2
    exact OptPost.no HN.out rfl (Below.refl _ _)

theorem readOp_reg {f : UInt8} (h : f = 114) (l : List UInt8) : Cd.readOp f l = Cd.regW l := by unfold Cd.readOp; rw [if_pos h]
theorem readOp_ok {f : UInt8} (h : f ≠ 114) {l : List UInt8} (hn : (Wd.number l).2 = 0) : Cd.readOp f l = some (Wd.number l).1 := by unfold Cd.readOp; rw [if_neg h, if_pos hn]
theorem readOp_no {f : UInt8} (h : f ≠ 114) {l : List UInt8} (hn : (Wd.number l).2 ≠ 0) : Cd.readOp f l = none := by unfold Cd.readOp; rw [if_neg h, if_neg hn]
theorem OptPost.mono {r : Option Int} {w w1 : World} {e : Ending} {w' : World} (h : OptPost r w1 e w') (hb : Below w.heap.size w w1) : OptPost r w e w' := ⟨h.1, hb.trans (h.2.mono hb.size)⟩

set_option maxHeartbeats 1000000 in
theorem readOperand_any (f : UInt8) (s : ByteArray) (w : World) (hs : s.size ≤ 1048576) (hL : Laid w) : Calls Tryz.prog 92 #[.int .u8 (f.toNat : Int), .string s] w (OptPost (Cd.readOp f s.data.toList) w) := by
  by_cases hf : f = 114
  · have e1 : ((f.toNat : Int) == 114) = true := by rw [hf]; rfl
    rw [readOp_reg hf]
    clear hf hL
    go_enter Tryz.func92, Tryz.ntmps92
    go_wp2_with fail
    refine (readRegister_any s _ hs).mono ?_
    rintro e w1 ⟨rfl, hb1⟩
    generalize Cd.regW s.data.toList = r at *
    go_wp2
    go_ret2
    exact ⟨rfl, hb1⟩
  · have e1 : ((f.toNat : Int) == 114) = false := by have := ne_nat hf; simp; rw [show (114 : UInt8).toNat = 114 from rfl] at this; omega
    have HL := hide hL
    clear hL
    by_cases hn : (Wd.number s.data.toList).2 = 0
    · have HR := hide (readOp_ok hf hn)
      have HN := hide hn
      clear hf hn
      go_enter Tryz.func92, Tryz.ntmps92
      go_wp2_with fail
      refine (number_any s _ hs HL.out).mono ?_
      rintro e w1 ⟨rfl, hb1⟩
      rw [HN.out]
      generalize (Wd.number s.data.toList).1 = v at *
      go_wp2
      go_ret2
      exact OptPost.yes HR.out rfl hb1
    · have HR := hide (readOp_no hf hn)
      have HZ := hide (number_err hn)
      have hne : (((Wd.number s.data.toList).2 : Int) == 0) = false := by simp; omega
      clear hf hn
      go_enter Tryz.func92, Tryz.ntmps92
      go_wp2_with fail
      refine (number_any s _ hs HL.out).mono ?_
      rintro e w1 ⟨rfl, hb1⟩
      rw [HZ.out]
      generalize (Wd.number s.data.toList).2 = v at *
      go_wp2
      go_ret2
      exact OptPost.no HR.out rfl hb1

set_option maxHeartbeats 1000000 in
theorem refReadReg_any (s : ByteArray) (w : World) (hs : s.size ≤ 1048576) : Calls Tryz.prog 42 #[.int .u8 114, .string s] w (OptPost (Cd.regW s.data.toList) w) := by
  by_cases h2 : s.size = 2
  · have h0 : 0 < s.size := by omega
    have h1 : 1 < s.size := by omega
    have HR : Hid (Cd.regW s.data.toList = if s[0]'h0 = 114 ∧ Wd.dig (s[1]'h1) = true then some (((s[1]'h1).toNat : Int) - 48) else none) := hide (regW_eq h2)
    have z2 : ((s.size : Int) == 2) = true := by simp; omega
    have z2' : ((s.size : Int) != 2) = false := by simp; omega
    clear h2
    by_cases ha : s[0] = 114
    · have e1 : ((s[0].toNat : Int) == 114) = true := by rw [ha]; rfl
      have e1' : ((s[0].toNat : Int) != 114) = false := by rw [ha]; rfl
      have HA := hide ha
      clear ha
      have hx := s[1].toNat_lt
      rcases dig_cases s[1] with ⟨hd, d1, d2⟩ | ⟨hd, hd2⟩
      · have HY : Hid (Cd.regW s.data.toList = some ((s[1].toNat : Int) - 48)) := hide (by rw [HR.out, if_pos ⟨HA.out, hd⟩])
        have hb := Wd.dig_iff.1 hd
        clear hd
        have Hb := hide hb
        go_enter Tryz.func42, Tryz.ntmps42
        go_wp2
        go_ret2
        exact OptPost.yes HY.out (by go_num) (Below.refl _ _)
      · have HN : Hid (Cd.regW s.data.toList = none) := hide (by rw [HR.out, if_neg (by rintro ⟨_, h⟩; rw [hd] at h; cases h)])
        clear hd
        rcases hd2 with d1 | ⟨d1, d2⟩
        all_goals
          go_enter Tryz.func42, Tryz.ntmps42
          go_wp2
          go_ret2
          exact OptPost.no HN.out rfl (Below.refl _ _)
    · have e1 : ((s[0].toNat : Int) == 114) = false := by have := ne_nat ha; simp; rw [show (114 : UInt8).toNat = 114 from rfl] at this; omega
      have e1' : ((s[0].toNat : Int) != 114) = true := by have := ne_nat ha; simp; rw [show (114 : UInt8).toNat = 114 from rfl] at this; omega
      have HN : Hid (Cd.regW s.data.toList = none) := hide (by rw [HR.out, if_neg (fun h => ha h.1)])
      clear ha
      go_enter Tryz.func42, Tryz.ntmps42
      go_wp2
      go_ret2
      exact OptPost.no HN.out rfl (Below.refl _ _)
  · have z2 : ((s.size : Int) == 2) = false := by simp; omega
    have z2' : ((s.size : Int) != 2) = true := by simp; omega
    have HN := hide (regW_no h2)
    clear h2
    go_enter Tryz.func42, Tryz.ntmps42
    go_wp2
    go_ret2
    exact OptPost.no HN.out rfl (Below.refl _ _)

set_option maxHeartbeats 1000000 in
theorem refRead_any (f : UInt8) (s : ByteArray) (w : World) (hs : s.size ≤ 1048576) : Calls Tryz.prog 42 #[.int .u8 (f.toNat : Int), .string s] w (OptPost (Cd.readOp f s.data.toList) w) := by
  by_cases hf : f = 114
  · rw [readOp_reg hf]
    subst hf
    exact refReadReg_any s w hs
  · have e1 : ((f.toNat : Int) == 114) = false := by have := ne_nat hf; simp; rw [show (114 : UInt8).toNat = 114 from rfl] at this; omega
    by_cases hn : (Wd.number s.data.toList).2 = 0
    · have HR := hide (readOp_ok hf hn)
      have HN := hide hn
      clear hf hn
      go_enter Tryz.func42, Tryz.ntmps42
      go_wp2_with fail
      refine (refNumber_any s _ hs).mono ?_
      rintro e w1 ⟨rfl, hb1⟩
      rw [HN.out]
      generalize (Wd.number s.data.toList).1 = v at *
      go_wp2
      go_ret2
      exact OptPost.yes HR.out rfl hb1
    · have HR := hide (readOp_no hf hn)
      have HZ := hide (number_err hn)
      have hne : (((Wd.number s.data.toList).2 : Int) == 0) = false := by simp; omega
      clear hf hn
      go_enter Tryz.func42, Tryz.ntmps42
      go_wp2_with fail
      refine (refNumber_any s _ hs).mono ?_
      rintro e w1 ⟨rfl, hb1⟩
      rw [HZ.out]
      generalize (Wd.number s.data.toList).2 = v at *
      go_wp2
      go_ret2
      exact OptPost.no HR.out rfl hb1
end Go.Proofs.YtfjekckcpkkdiaaGreatDoor
