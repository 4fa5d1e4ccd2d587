/- Objects in memory: where a function begins that gives one back; pages' words; answers. Nothing of the program but the types' numbers. -/
import Derived.Test.YtddbohnappogkaaOb
import Derived.Test.YtddbohnappogkaaAgg
import Derived.Deep.OwnRows
import Derived.Laws.CopyOwn
namespace Go.Proofs.Ytddbohnappogkaa
open Go.RowKit

def no16 : List Int := [0, 0, 0, 0, 0, 0, 0, 0, 0, 0, 0, 0, 0, 0, 0, 0]
/-- Sixteen words that are 0. -/
theorem wpList_make16 {ops : Array Oper} {rest : List Oper} {o : Oper} {a : Act} {w : World} {Q : Exit → Act → World → Prop} (hgd : o.guard = none) (l c : Operand) (hop : o.op = Op.makeSlice 35 l c) (hl : a.eval l = .int .i64 16) (hc : a.eval c = .int .i64 16) {g : Nat} (hg : w.heap.size = g)
    (hK : ∀ w', Obl w' g 2 (nv .i64 no16).toArray → Below g w w' → w'.heap.size = g + 1 → wpList Try.prog ops Q rest (a.put o.dst (.slice (some ⟨g, 0, none⟩) 16 16)) w') : wpList Try.prog ops Q (o :: rest) a w := by
  obtain ⟨i0, hi, hz0, hz1, hz2⟩ := info_parts (show (Try.prog.info? 2).map (fun i => (i.zero, i.size, i.bytes)) = some (some (.int .i64 0), 1, 8) by kernel_rfl)
  subst hg
  refine wpList_make_row w hgd l c _ hop 2 i0 (.int .i64 0) Try.underlying35 hi hz0 hz1 rfl .i64 .i64 16 hl hc (by rw [hz2]; omega) (by omega) ?_
  refine hK _ ?_ ((Below.refl _ _).alloc (Nat.le_refl _) _) (by simp)
  rw [show madeCells #[Value.int .i64 0] 16 = (nv .i64 no16).toArray from by kernel_rfl]
  exact Obl.make w _ _
/-- Where a function begins that gives an object back. -/
theorem start_z (W : World) : ∃ w1, W.alloc (.cells #[.int .u64 0, .int .i64 0, .int .i64 0, .int .i64 0, .int .u64 0, .slice none 0 0, .slice none 0 0, .slice none 0 0, .int .i64 0, .int .i64 0, .int .i64 0, .int .i64 0, .int .i64 0, .int .i64 0, .int .i64 0, .int .i64 0, .int .i64 0, .int .i64 0,
  .slice none 0 0, .slice none 0 0, .int .i64 0, .int .i64 0, .int .i64 0, .slice none 0 0, .slice none 0 0, .int .i64 0, .int .u64 0, .int .i64 0, .int .i64 0, .slice none 0 0, .slice none 0 0, .slice none 0 0, .int .i64 0, .int .i64 0, .int .i64 0, .slice none 0 0] 41) = w1 ∧
    Obl w1 W.heap.size 41 (oc Ob.zero) ∧ Below W.heap.size W w1 ∧ w1.heap.size = W.heap.size + 1 :=
  ⟨_, rfl, Obl.make W _ (oc Ob.zero), (Below.refl _ _).alloc (Nat.le_refl _) _, by simp⟩
/-- .. and that copies one. -/
theorem start_oz (W : World) (o : Ob) : ∃ w1, (W.alloc (.cells (oc o) 41)).alloc (.cells #[.int .u64 0, .int .i64 0, .int .i64 0, .int .i64 0, .int .u64 0, .slice none 0 0, .slice none 0 0, .slice none 0 0, .int .i64 0, .int .i64 0, .int .i64 0, .int .i64 0, .int .i64 0, .int .i64 0, .int .i64 0, .int .i64 0, .int .i64 0, .int .i64 0,
  .slice none 0 0, .slice none 0 0, .int .i64 0, .int .i64 0, .int .i64 0, .slice none 0 0, .slice none 0 0, .int .i64 0, .int .u64 0, .int .i64 0, .int .i64 0, .slice none 0 0, .slice none 0 0, .slice none 0 0, .int .i64 0, .int .i64 0, .int .i64 0, .slice none 0 0] 41) = w1 ∧
    Obl w1 W.heap.size 41 (oc o) ∧ Obl w1 (W.heap.size + 1) 41 (oc Ob.zero) ∧ Below W.heap.size W w1 ∧ w1.heap.size = W.heap.size + 2 := by
  obtain ⟨w1, h1, h2, h3, h4⟩ := start_z (W.alloc (.cells (oc o) 41))
  rw [World.size_alloc] at h2 h4
  exact ⟨w1, h1, (Obl.make W _ _).below h3 (by simp), h2, ((Below.refl _ _).alloc (Nat.le_refl _) _).trans (h3.mono (by simp)), h4⟩
/-- A page comes back, with words of its own. -/
def PagePost (id : Int) (L : List Int) (w : World) (e : Ending) (w' : World) : Prop := ∃ g, e = .returned (.agg (oc (Ob.page id ⟨some ⟨g, 0, none⟩, 16, 16⟩))) ∧ Obl w' g 2 (nv .i64 L).toArray ∧ w.heap.size ≤ g ∧ Below w.heap.size w w'
def IntPost (r : Int) (w : World) (e : Ending) (w' : World) : Prop := e = .returned (.int .i64 r) ∧ Below w.heap.size w w'
/-- The words of an object, if it is a page. -/
def Words (w : World) (o : Ob) (L : List Int) : Prop := o.words.n = 16 → Nums .i64 w w.heap.size o.words.A 16 L
theorem Words.below {w w' : World} {o : Ob} {L : List Int} (h : Words w o L) (hb : Below w.heap.size w w') : Words w' o L := fun hn => ((h hn).below hb).mono hb.size
theorem words_page {w : World} {g : Nat} {id : Int} {L : List Int} (h : Obl w g 2 (nv .i64 L).toArray) (hL : L.length = 16) : Words w (Ob.page id ⟨some ⟨g, 0, none⟩, 16, 16⟩) L := fun _ =>
  ⟨hL, ⟨by rw [nv_length]; omega, (fun h => by cases h), fun _ => ⟨g, 0, rfl, h.lt, fun j u hu => by rw [h.cell, Nat.zero_add, List.getElem?_toArray]; exact hu⟩⟩⟩
/-- A number and an error. -/
def GetPost (v r : Int) (w : World) (e : Ending) (w' : World) : Prop := e = .returned (.tuple #[.int .i64 v, .int .i64 r]) ∧ Below w.heap.size w w'
theorem i64Size1 : (Try.prog.info? 2).map (·.size) = some 1 := by kernel_rfl
/-- A page and no error; nothing and an error. -/
def PageOk (id : Int) (L : List Int) (w : World) (e : Ending) (w' : World) : Prop := ∃ g, e = .returned (.tuple #[.agg (oc (Ob.page id ⟨some ⟨g, 0, none⟩, 16, 16⟩)), .int .i64 0]) ∧ Obl w' g 2 (nv .i64 L).toArray ∧ w.heap.size ≤ g ∧ Below w.heap.size w w'
def PageNo (r : Int) (w : World) (e : Ending) (w' : World) : Prop := e = .returned (.tuple #[.agg (oc Ob.zero), .int .i64 r]) ∧ Below w.heap.size w w'
theorem nv_put (L : List Int) (k : Nat) (v : Int) : ((nv .i64 L).toArray).setIfInBounds k (.int .i64 v) = (nv .i64 (L.set k v)).toArray := by simp [nv]
theorem numTy : ElemTy Try.prog 35 2 1 8 := by
  obtain ⟨i0, hi, hz0, hz1, hz2⟩ := info_parts (show (Try.prog.info? 2).map (fun i => (i.zero, i.size, i.bytes)) = some (some (.int .i64 0), 1, 8) by kernel_rfl)
  exact ⟨i0, _, Try.underlying35, hi, hz0, hz1, hz2, rfl, by omega⟩
/-- Behind the copy of sixteen words: where they lie. -/
theorem row_copied {w2 w3 : World} {A : Option Addr} {c : Nat} {L : List Int} (h : w3.ownsRow w2.heap.size 2 1 (.slice A (0 + 16) c) (0 + 16) ([] ++ nv .i64 L)) : ∃ g, A = some ⟨g, 0, none⟩ ∧ w2.heap.size ≤ g ∧ w3.ownsRow w2.heap.size 2 1 (.slice (some ⟨g, 0, none⟩) 16 c) 16 (nv .i64 L) := by
  obtain ⟨g, rfl, hg, _⟩ := own_addr h (by omega)
  exact ⟨g, rfl, hg, by simpa using h⟩
/-- A row that is laid elsewhere. -/
theorem Nums.keep_row {w : World} {g f n B m : Nat} {L : List Int} {k : IntKind} {cells : Array Value} (h : Nums k w B (some ⟨g, f, none⟩) n L) (hne : g ≠ m) : Nums k (w.setRow m cells) (w.setRow m cells).heap.size (some ⟨g, f, none⟩) n L := by
  refine ⟨h.1, h.2.1, h.2.2.1, fun hx => ?_⟩
  obtain ⟨b, o, e, hb, hc⟩ := h.2.2.2 hx
  simp only [Option.some.injEq, Addr.mk.injEq, and_true] at e
  obtain ⟨rfl, rfl⟩ := e
  refine ⟨_, _, rfl, ?_, fun j u hu => ?_⟩
  · obtain ⟨x, l, hxl⟩ := List.exists_cons_of_ne_nil hx
    have := World.block_lt_of_cell? w _ (hc 0 x (by rw [hxl]; rfl))
    simpa [World.setRow] using this
  · rw [← hc j u hu]
    unfold World.cell?
    simp only [setRow_other w m cells hne]
/-- An object that came back, laid in a new block. -/
theorem laid_ob (o : Ob) (w1 : World) :
    ∃ w2, w1.alloc (.cells #[.int .u64 0, .int .i64 0, .int .i64 0, .int .i64 0, .int .u64 0, .slice none 0 0, .slice none 0 0, .slice none 0 0, .int .i64 0, .int .i64 0, .int .i64 0, .int .i64 0, .int .i64 0, .int .i64 0, .int .i64 0, .int .i64 0, .int .i64 0, .int .i64 0,
      .slice none 0 0, .slice none 0 0, .int .i64 0, .int .i64 0, .int .i64 0, .slice none 0 0, .slice none 0 0, .int .i64 0, .int .u64 0, .int .i64 0, .int .i64 0, .slice none 0 0, .slice none 0 0, .slice none 0 0, .int .i64 0, .int .i64 0, .int .i64 0, .slice none 0 0] 41) = w2 ∧
    ∃ m, w1.heap.size = m ∧ ∃ w3, w2.setRow m (oc o) = w3 ∧ Obl w2 m 41 (oc Ob.zero) ∧ Obl w3 m 41 (oc o) ∧ Below w1.heap.size w1 w3 ∧ w3.heap.size = m + 1 := by
  obtain ⟨w2, h1, h2, h3, h4⟩ := start_z w1
  exact ⟨w2, h1, _, rfl, _, rfl, h2, h2.row_same _, below_row h3 (Nat.le_refl _) _, by simpa [World.setRow] using h4⟩
/-- The file id with data there. -/
def Ob.file (id : Int) (data : Sl) : Ob := { Ob.zero with id := id, kind := 3, data := data }
end Go.Proofs.Ytddbohnappogkaa
