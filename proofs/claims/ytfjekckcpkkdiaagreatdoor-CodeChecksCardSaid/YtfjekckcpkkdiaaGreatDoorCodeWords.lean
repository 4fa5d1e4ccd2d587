/- Layer 4, code.instructionWords and what it calls: contracts. -/
import Derived.Test.YtfjekckcpkkdiaaGreatDoorCodeOps
import Derived.Test.YtfjekckcpkkdiaaGreatDoorRegionB
import Derived.Test.YtfjekckcpkkdiaaGreatDoorWordsRefJoin
import Derived.Deep.CutRange
namespace Go.Proofs.YtfjekckcpkkdiaaGreatDoor
open Go.RowKit

theorem itoa_size {n : Int} (h1 : -9223372036854775808 ≤ n) (h2 : n ≤ 9223372036854775807) : (⟨(Lib.itoa n).toArray⟩ : ByteArray).size ≤ 30 := by rw [ba_size]; exact Wd.itoa_le h1 h2
theorem operand_reg {f : UInt8} (hf : f = 114) (v : Int) : (⟨(Cd.operand f v).toArray⟩ : ByteArray) = ⟨#[114]⟩ ++ ⟨(Lib.itoa v).toArray⟩ := by
  unfold Cd.operand; rw [if_pos hf]
  exact (ba_append [114] (Lib.itoa v)).symm
theorem operand_num {f : UInt8} (hf : f ≠ 114) (v : Int) : Cd.operand f v = Lib.itoa v := by unfold Cd.operand; rw [if_neg hf]

set_option maxHeartbeats 1000000 in
theorem operandWord_any (f : UInt8) (v : Int) (w : World) (h1 : -9223372036854775808 ≤ v) (h2 : v ≤ 9223372036854775807) (hL : LaidT w) :
    Calls Tryz.prog 55 #[.int .u8 (f.toNat : Int), .int .i64 v] w fun e w' => e = .returned (.string ⟨(Cd.operand f v).toArray⟩) ∧ Below w.heap.size w w' := by
  have hsz := itoa_size h1 h2
  by_cases hf : f = 114
  · have HR := hide (operand_reg hf v)
    have e1 : ((f.toNat : Int) == 114) = true := by rw [hf]; rfl
    clear hf
    go_enter Tryz.func55, Tryz.ntmps55
    go_wp2_with fail
    refine (formatT_any v _ h1 h2 hL).mono ?_
    rintro e w1 ⟨rfl, hb1⟩
    generalize (⟨(Lib.itoa v).toArray⟩ : ByteArray) = s at *
    go_wp2
    go_ret
    exact ⟨by rw [HR.out]; rfl, hb1⟩
  · have HR := hide (operand_num hf v)
    have e1 : ((f.toNat : Int) == 114) = false := by have := ne_nat hf; simp; rw [show (114 : UInt8).toNat = 114 from rfl] at this; omega
    clear hf
    go_enter Tryz.func55, Tryz.ntmps55
    go_wp2_with fail
    refine (formatT_any v _ h1 h2 hL).mono ?_
    rintro e w1 ⟨rfl, hb1⟩
    go_wp2
    go_ret
    exact ⟨by rw [HR.out]; rfl, hb1⟩
set_option maxHeartbeats 1000000 in
theorem refOperand_any (f : UInt8) (v : Int) (w : World) (h1 : -9223372036854775808 ≤ v) (h2 : v ≤ 9223372036854775807) :
    Calls Tryz.prog 34 #[.int .u8 (f.toNat : Int), .int .i64 v] w fun e w' => e = .returned (.string ⟨(Cd.operand f v).toArray⟩) ∧ Below w.heap.size w w' := by
  have hsz := itoa_size h1 h2
  by_cases hf : f = 114
  · have HR := hide (operand_reg hf v)
    have e1 : ((f.toNat : Int) == 114) = true := by rw [hf]; rfl
    clear hf
    go_enter Tryz.func34, Tryz.ntmps34
    go_wp2_with fail
    refine (refFormat_any v _ h1 h2).mono ?_
    rintro e w1 ⟨rfl, hb1⟩
    generalize (⟨(Lib.itoa v).toArray⟩ : ByteArray) = s at *
    go_wp2
    go_ret
    exact ⟨by rw [HR.out]; rfl, hb1⟩
  · have HR := hide (operand_num hf v)
    have e1 : ((f.toNat : Int) == 114) = false := by have := ne_nat hf; simp; rw [show (114 : UInt8).toNat = 114 from rfl] at this; omega
    clear hf
    go_enter Tryz.func34, Tryz.ntmps34
    go_wp2_with fail
    refine (refFormat_any v _ h1 h2).mono ?_
    rintro e w1 ⟨rfl, hb1⟩
    go_wp2
    go_ret
    exact ⟨by rw [HR.out]; rfl, hb1⟩
end Go.Proofs.YtfjekckcpkkdiaaGreatDoor
