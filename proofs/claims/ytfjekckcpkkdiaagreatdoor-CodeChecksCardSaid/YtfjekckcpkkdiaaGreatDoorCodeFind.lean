/- Layer 4, code.findOperation: a contract. -/
import Derived.Test.YtfjekckcpkkdiaaGreatDoorCodeOps
import Derived.Test.YtfjekckcpkkdiaaGreatDoorCodeText
namespace Go.Proofs.YtfjekckcpkkdiaaGreatDoor
open Go.RowKit

/-- A load of a whole variable, as one step. -/
theorem wpList_load_whole {P : Program} {w : World} {ops : Array Oper} {rest : List Oper} {o : Oper} {a : Act} {Q : Exit → Act → World → Prop} (hg : o.guard = none) (x : Operand) (ty : TypeId) (hop : o.op = Op.load ty x) {A : Addr} {v : Value}
    (hx : a.eval x = .pointer (some A)) (hrun : (Instr.loadAt ty (.pointer (some A))).run P w = .ok v w) (h : wpList P ops Q rest (a.put o.dst v) w) : wpList P ops Q (o :: rest) a w := by
  refine wpList_plain hg fun K hK => ?_
  unfold Oper.wp
  simp [execOp, hop, hx, hrun, Result.andThen]
  exact hK _ _ h
theorem opsLoad {w : World} (h : LaidO w) : (Instr.loadAt 93 (.pointer (some ⟨0, 0, none⟩))).run Tryz.prog w = .ok (.agg (ov Cd.tbl).toArray) w := by
  unfold LaidO World.var? at h
  rw [gOps] at h
  simp only [Option.bind_some] at h
  cases hb : w.heap[0]? with
  | none => rw [hb] at h; simp at h
  | some o =>
    rw [hb] at h
    cases o with
    | cells cs t fr =>
      simp only [Option.some.injEq] at h
      subst h
      have := run_loadVar_row w _ t _ _ fr _ hb Tryz.underlying93 rfl (by kernel_rfl)
      simp [Instr.loadAt, Instr.sureAddr, this]
    | _ => simp at h
set_option maxRecDepth 100000 in
theorem opsIndex (w : World) : ∀ (k : Nat), k < 13 → (Instr.index 93 (.agg (ov Cd.tbl).toArray) (.int .i64 (k : Int))).run Tryz.prog w = .ok (.agg #[.string ⟨(Cd.opn (k : Int)).name.toArray⟩, .string ⟨(Cd.opn (k : Int)).form.toArray⟩, .int .i64 (Cd.opn (k : Int)).least, .int .i64 (Cd.opn (k : Int)).most]) w
  | 0, _ => by kernel_rfl
  | 1, _ => by kernel_rfl
  | 2, _ => by kernel_rfl
  | 3, _ => by kernel_rfl
  | 4, _ => by kernel_rfl
  | 5, _ => by kernel_rfl
  | 6, _ => by kernel_rfl
  | 7, _ => by kernel_rfl
  | 8, _ => by kernel_rfl
  | 9, _ => by kernel_rfl
  | 10, _ => by kernel_rfl
  | 11, _ => by kernel_rfl
  | 12, _ => by kernel_rfl
  | k + 13, h => absurd h (by omega)

theorem findOp_some {N : List UInt8} {k : Nat} (hk : k < 13) (he : (Cd.opn (k : Int)).name = N) (ha : ∀ j : Nat, j < k → (Cd.opn (j : Int)).name ≠ N) : Cd.findOp N = some k := by
  unfold Cd.findOp
  rw [List.findIdx?_eq_some_iff_getElem]
  refine ⟨hk, ?_, fun j hj => ?_⟩
  · rw [← Cd.opn_nat k hk]; simpa using he
  · have := ha j hj
    rw [Cd.opn_nat j (by omega)] at this
    intro hd
    exact this (of_decide_eq_true hd)
theorem findOp_none {N : List UInt8} (ha : ∀ j : Nat, j < 13 → (Cd.opn (j : Int)).name ≠ N) : Cd.findOp N = none := by
  unfold Cd.findOp
  rw [List.findIdx?_eq_none_iff]
  intro x hx
  obtain ⟨j, hj, rfl⟩ := List.getElem_of_mem hx
  have hj' : j < 13 := hj
  have := ha j hj'
  rw [Cd.opn_nat j hj'] at this
  exact decide_eq_false this
/-- The number of an operation, if there is one. -/
def FindPost (r : Option Nat) (w : World) (e : Ending) (w' : World) : Prop := e = .returned (.tuple #[.int .i64 ((r.getD 0 : Nat) : Int), .bool r.isSome]) ∧ Below w.heap.size w w'
theorem FindPost.no {r : Option Nat} {w w' : World} {e : Ending} (hr : r = none) (he : e = .returned (.tuple #[.int .i64 0, .bool false])) (hb : Below w.heap.size w w') : FindPost r w e w' := by subst hr; exact ⟨he, hb⟩
theorem FindPost.yes {r : Option Nat} {v : Nat} {w w' : World} {e : Ending} (hr : r = some v) (he : e = .returned (.tuple #[.int .i64 (v : Int), .bool true])) (hb : Below w.heap.size w w') : FindPost r w e w' := by subst hr; exact ⟨he, hb⟩

set_option maxRecDepth 100000 in
set_option maxHeartbeats 2000000 in
theorem findOperation_any (N : List UInt8) (w : World) (hL : LaidO w) : Calls Tryz.prog 93 #[.string ⟨N.toArray⟩] w (FindPost (Cd.findOp N) w) := by
  have hld := opsLoad hL
  have hix := opsIndex
  have HX : Hid (∀ (w : World) (k : Nat), k < 13 → (Instr.index 93 (.agg (ov Cd.tbl).toArray) (.int .i64 (k : Int))).run Tryz.prog w = .ok (.agg #[.string ⟨(Cd.opn (k : Int)).name.toArray⟩, .string ⟨(Cd.opn (k : Int)).form.toArray⟩, .int .i64 (Cd.opn (k : Int)).least, .int .i64 (Cd.opn (k : Int)).most]) w) := hide opsIndex
  clear hix hL
  generalize (ov Cd.tbl).toArray = T at *
  go_enter Tryz.func93, Tryz.ntmps93
  go_wp2_with (refine wpList_load_whole rfl (.global 0) 93 rfl rfl hld ?_)
  go_loopw [7] (fun s7 wr => ∃ k : Nat, s7 = .int .i64 (k : Int) ∧ k ≤ 13 ∧ Hid (∀ j : Nat, j < k → (Cd.opn (j : Int)).name ≠ N) ∧ Below w.heap.size w wr) (fun s7 _ => 13 - (intOf s7).toNat)
  case atStart => exact ⟨0, rfl, by omega, hide (by omega), Below.refl _ _⟩
  case round =>
    clear hld
    obtain ⟨k, rfl, hk, HA, hb⟩ := hrel
    have hsz := hb.size
    by_cases hlt : k < 13
    · have hix := fun w => HX.out w k hlt
      have hb2 := hb.alloc hsz (.cells #[.string ⟨(Cd.opn (k : Int)).name.toArray⟩, .string ⟨(Cd.opn (k : Int)).form.toArray⟩, .int .i64 (Cd.opn (k : Int)).least, .int .i64 (Cd.opn (k : Int)).most] 92)
      by_cases he : (Cd.opn (k : Int)).name = N
      · have HF := hide (findOp_some hlt he HA.out)
        have hcmp : ((Cd.opn (k : Int)).name == N) = true := by simpa using he
        clear he
        generalize (Cd.opn (k : Int)).name = nm at *
        generalize (Cd.opn (k : Int)).form = f at *
        generalize (Cd.opn (k : Int)).least = ls at *
        generalize (Cd.opn (k : Int)).most = ms at *
        go_wp2
        go_ret2
        exact FindPost.yes HF.out rfl hb2
      · have hcmp : ((Cd.opn (k : Int)).name == N) = false := by simpa using he
        have HA2 : Hid (∀ j : Nat, j < k + 1 → (Cd.opn (j : Int)).name ≠ N) := hide (fun j hj => by
          rcases Nat.lt_or_ge j k with g | g
          · exact HA.out j g
          · obtain rfl : j = k := by omega
            exact he)
        clear he
        generalize (Cd.opn (k : Int)).name = nm at *
        generalize (Cd.opn (k : Int)).form = f at *
        generalize (Cd.opn (k : Int)).least = ls at *
        generalize (Cd.opn (k : Int)).most = ms at *
        go_wp2
        go_roundw
        case rel => exact ⟨k + 1, by go_num, by omega, HA2, hb2⟩
        case measure => simp [intOf]; omega
    · obtain rfl : k = 13 := by omega
      have HF := hide (findOp_none HA.out)
      go_wp2
      go_ret2
      exact FindPost.no HF.out rfl hb
end Go.Proofs.YtfjekckcpkkdiaaGreatDoor
