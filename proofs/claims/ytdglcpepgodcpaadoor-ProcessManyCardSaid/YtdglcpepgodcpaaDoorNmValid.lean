/- (exact since round 8: tools/mknmvalid.py wrote the version that left the answer open) The reference of name spaces: Valid: a contract that leaves the answer open (written by tools/mknmvalid.py). -/
import Derived.Test.YtdglcpepgodcpaaDoorNmEntry
import Derived.Test.YtdglcpepgodcpaaDoorOb
import Derived.Deep.CutRange
import Derived.Test.YtdglcpepgodcpaaDoorRegionX
namespace Go.Proofs.YtdglcpepgodcpaaDoor
open Go.RowKit

/-- Entries that are short. -/
def Short (l : List Nm) : Prop := ∀ x ∈ l, x.path.length ≤ 1000 ∧ x.ids.n ≤ 1000
section
variable {w : World} {a : Act} {o : Oper}
/-- An entry, out of a row. -/
theorem exec_load_nmid {x : Operand} (ho : o.op = .load 123 x) {g k : Nat} (hx : a.eval x = .pointer (some ⟨g, k, none⟩)) {y : Nm} (h0 : w.cell? ⟨g, k, none⟩ = some (.string ⟨y.path.toArray⟩)) (h1 : w.cell? ⟨g, k + 1, none⟩ = some (.int .i64 y.kind)) (h2 : w.cell? ⟨g, k + 2, none⟩ = some (.slice y.ids.A y.ids.n y.ids.c)) :
    (execOp a.eval o).run Tryd.prog w = .ok (.value (.agg (nc y))) w := by
  have hr := run_loadVar_mid (P := Tryd.prog) w g k 123 [.string ⟨y.path.toArray⟩, .int .i64 y.kind, .slice y.ids.A y.ids.n y.ids.c] _ (three_mid (fun j => w.cell? ⟨g, k + j, none⟩) _ _ _ h0 h1 h2) Tryd.underlying123 rfl nmSize
  unfold execOp
  simp only [ho, hx, Instr.loadAt, Instr.sureAddr, Sem.run_bind, Sem.run_pure, Result.andThen_ok, hr]
  rfl
end
/-- A new block for an entry, laid. -/
theorem start_nm (w : World) (x : Nm) : ∃ w1, w.alloc (.cells #[.string ⟨#[]⟩, .int .i64 0, .slice none 0 0] 123) = w1 ∧ ∃ g, w.heap.size = g ∧ ∃ w2, w1.setRow g (nc x) = w2 ∧ Obl w1 g 123 #[.string ⟨#[]⟩, .int .i64 0, .slice none 0 0] ∧ Obl w2 g 123 (nc x) ∧ Below g w w2 ∧ w2.heap.size = g + 1 := by
  have O1 : Obl (w.alloc (.cells #[.string ⟨#[]⟩, .int .i64 0, .slice none 0 0] 123)) w.heap.size 123 #[.string ⟨#[]⟩, .int .i64 0, .slice none 0 0] := Obl.make w _ _
  exact ⟨_, rfl, _, rfl, _, rfl, O1, O1.row_same _, below_row ((Below.refl _ _).alloc (Nat.le_refl _) _) (Nat.le_refl _) _, by simp [World.setRow]⟩

end Go.Proofs.YtdglcpepgodcpaaDoor
