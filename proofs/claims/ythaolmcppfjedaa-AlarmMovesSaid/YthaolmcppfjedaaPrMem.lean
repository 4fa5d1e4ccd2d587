/- Processes in memory: what their lists hold, whatever else the object has; the same, in words; processes that come back. -/
import Derived.Test.YthaolmcppfjedaaTbCopied
import Derived.Test.YthaolmcppfjedaaSameProc
import Derived.Test.YthaolmcppfjedaaKeepOb
namespace Go.Proofs.Ythaolmcppfjedaa
open Go.RowKit

/-- The lists of the process read so. -/
structure HoldsP (w : World) (B : Nat) (o : Ob) (X : Cont) : Prop where
  children : Nums .u64 w B o.children.A o.children.n X.children
  code : Inss w B o.code.A o.code.n X.code
  strs : Strs w B o.strs.A o.strs.n X.strs
  pages : Refs w B o.pages.A o.pages.n X.pages
  table : Slots w B o.table.A o.table.n X.table
def Cont.ShortP (X : Cont) : Prop := X.children.length ≤ 100000 ∧ X.code.length ≤ 100000 ∧ X.strs.length ≤ 100000 ∧ X.pages.length ≤ 100000 ∧ X.table.length ≤ 100000
theorem Cont.none_shortP : Cont.none.ShortP := by simp [Cont.ShortP, Cont.none]
theorem Cont.Short.p {X : Cont} (h : X.Short) : X.ShortP := ⟨h.1, h.2.1, h.2.2.1, h.2.2.2.1, h.2.2.2.2.1⟩
section
variable {w w' : World} {B B' : Nat} {o : Ob} {X : Cont}
theorem Holds.p (h : Holds w B o X) : HoldsP w B o X := ⟨h.children, h.code, h.strs, h.pages, h.table⟩
theorem HoldsP.mono (h : HoldsP w B o X) (hB : B ≤ B') : HoldsP w B' o X := ⟨h.children.mono hB, h.code.mono hB, h.strs.mono hB, h.pages.mono hB, h.table.mono hB⟩
theorem HoldsP.below (h : HoldsP w B o X) (hb : Below B w w') : HoldsP w' B o X := ⟨h.children.below hb, h.code.below hb, h.strs.below hb, h.pages.below hb, h.table.below hb⟩
theorem HoldsP.later (h : HoldsP w w.heap.size o X) (hb : Below w.heap.size w w') : HoldsP w' w'.heap.size o X := (h.below hb).mono hb.size
theorem HoldsP.zero (w : World) (B : Nat) : HoldsP w B Ob.zero Cont.none := ⟨Nums.nil, Inss.nil, Strs.nil, Refs.nil, Slots.nil⟩
theorem Owns.p {lo : Nat} (h : Owns w lo o X) : HoldsP w w.heap.size o X := ⟨Nums.of_own h.children, Inss.of_own h.code, Strs.of_own h.strs, Refs.of_own h.pages, Slots.of_own h.table⟩
end
/-- Nothing but the process. -/
def Ob.only (o : Ob) : Ob := { Ob.zero with state := o.state, parent := o.parent, children := o.children, code := o.code, strs := o.strs, ppages := o.ppages, pc := o.pc, r0 := o.r0, r1 := o.r1, r2 := o.r2, r3 := o.r3, r4 := o.r4, r5 := o.r5, r6 := o.r6, r7 := o.r7, pages := o.pages, table := o.table, pending := o.pending, alarm := o.alarm, status := o.status }
def Cont.only (X : Cont) : Cont := { Cont.none with children := X.children, code := X.code, strs := X.strs, pages := X.pages, table := X.table }
theorem pcell_only (o : Ob) : pcell o.only = pcell o := rfl
theorem HoldsP.only {w : World} {B : Nat} {o : Ob} {X : Cont} (h : HoldsP w B o X) : Holds w B o.only X.only := ⟨h.children, h.code, h.strs, h.pages, h.table, Nums.nil, Bytes.nil, Nums.nil, Bytes.nil, Bytes.nil, [], Ents.nil⟩
theorem Cont.ShortP.only {X : Cont} (h : X.ShortP) : X.only.Short := ⟨h.1, h.2.1, h.2.2.1, h.2.2.2.1, h.2.2.2.2, by simp [Cont.only, Cont.none], by simp [Cont.only, Cont.none], by simp [Cont.only, Cont.none], by simp [Cont.only, Cont.none], by simp [Cont.only, Cont.none], by simp [Cont.only, Cont.none], by simp [Cont.only, Cont.none]⟩
theorem AlikeP.refl (a : Ob) : AlikeP a a := ⟨rfl, rfl, rfl, rfl, rfl, rfl, rfl⟩
theorem AlikeP.symm {a b : Ob} (h : AlikeP a b) : AlikeP b a := ⟨h.1.symm, h.2.symm, h.3.symm, h.4.symm, h.5.symm, h.6.symm, h.7.symm⟩
theorem AlikeP.trans {a b c : Ob} (h : AlikeP a b) (k : AlikeP b c) : AlikeP a c := ⟨h.1.trans k.1, h.2.trans k.2, h.3.trans k.3, h.4.trans k.4, h.5.trans k.5, h.6.trans k.6, h.7.trans k.7⟩
theorem sameProc_p (a b : Ob) (X : Cont) (W : World) (hn : AlikeP a b) (ha : HoldsP W W.heap.size a X) (hb : HoldsP W W.heap.size b X) (hX : X.ShortP) : Calls Try.prog 12 #[.agg (pcell a), .agg (pcell b)] W (BoolPost true W) :=
  sameProc_full a.only b.only X.only W ⟨hn.1, hn.2, hn.3, hn.4, hn.5, hn.6, hn.7⟩ ha.only hb.only hX.only
/-- What a call answers that gives a process like b with the same lists, or nothing and an error. -/
def PAns (w : World) (a b : Ob) (r : Int) (X : Cont) : Prop := (r ≠ 0 ∧ a = Ob.zero) ∨ (r = 0 ∧ AlikeP a b ∧ HoldsP w w.heap.size a X)
theorem PAns.later {w w' : World} {a b : Ob} {r : Int} {X : Cont} (h : PAns w a b r X) (hb : Below w.heap.size w w') : PAns w' a b r X := h.imp id fun h => ⟨h.1, h.2.1, h.2.2.later hb⟩
theorem PAns.ok {w : World} {a b : Ob} {X : Cont} (h : PAns w a b 0 X) : AlikeP a b ∧ HoldsP w w.heap.size a X := by
  rcases h with h | h
  · exact absurd rfl h.1
  · exact h.2
theorem same_pans {w : World} {a a' b : Ob} {r : Int} {X : Cont} (h : PAns w a b r X) (h' : PAns w a' b r X) (hX : X.ShortP) : Calls Try.prog 12 #[.agg (pcell a), .agg (pcell a')] w (BoolPost true w) := by
  rcases h with ⟨h1, rfl⟩ | ⟨h1, h2, h3⟩
  · rcases h' with ⟨_, rfl⟩ | ⟨h1', _⟩
    · exact sameProc_p _ _ Cont.none w (AlikeP.refl _) (HoldsP.zero _ _) (HoldsP.zero _ _) Cont.none_shortP
    · exact absurd h1' h1
  · rcases h' with ⟨h1', _⟩ | ⟨_, h2', h3'⟩
    · exact absurd h1 h1'
    · exact sameProc_p _ _ X w (h2.trans h2'.symm) h3 h3' hX
/-- A process and an error. -/
def ProcErr (b : Ob) (r : Int) (X : Cont) (w : World) (e : Ending) (w' : World) : Prop := ∃ a, e = .returned (.tuple #[.agg (pcell a), .int .i64 r]) ∧ PAns w' a b r X ∧ Below w.heap.size w w'
/-- A process again. -/
def ProcGive (b : Ob) (X : Cont) (w : World) (e : Ending) (w' : World) : Prop := ∃ a, e = .returned (.agg (pcell a)) ∧ AlikeP a b ∧ HoldsP w' w'.heap.size a X ∧ Below w.heap.size w w'
/-- A number and a process. -/
def NumProc (n : Int) (b : Ob) (X : Cont) (w : World) (e : Ending) (w' : World) : Prop := ∃ a, e = .returned (.tuple #[.int .i64 n, .agg (pcell a)]) ∧ AlikeP a b ∧ HoldsP w' w'.heap.size a X ∧ Below w.heap.size w w'
theorem ret_proc2 {w : World} {fn : Func} {p u : Tmp} (hr : fn.results = #[.cell p 34, .tmp u]) (tmps : Array Value) {g : Nat} (hp : tmps.getD p undef = .pointer (some ⟨g, 0, none⟩)) {y : Ob} {t : TypeId} (h : Obl w g t (pcell y)) :
    (results fn tmps).run Try.prog w = .ok (.tuple #[.agg (pcell y), tmps.getD u undef]) w := results_cell_2 hr tmps hp h Try.underlying34 rfl procSize
theorem ret_tproc {w : World} {fn : Func} {s p : Tmp} (hr : fn.results = #[.tmp s, .cell p 34]) (tmps : Array Value) {g : Nat} (hp : tmps.getD p undef = .pointer (some ⟨g, 0, none⟩)) {y : Ob} {t : TypeId} (h : Obl w g t (pcell y)) :
    (results fn tmps).run Try.prog w = .ok (.tuple #[tmps.getD s undef, .agg (pcell y)]) w := by
  have hp' : tmps[p]?.getD undef = .pointer (some ⟨g, 0, none⟩) := by simpa using hp
  simp [results, hr, hp', asAddr, h.load Try.underlying34 rfl procSize]
theorem ret_tproc3 {w : World} {fn : Func} {s p u : Tmp} (hr : fn.results = #[.tmp s, .cell p 34, .tmp u]) (tmps : Array Value) {g : Nat} (hp : tmps.getD p undef = .pointer (some ⟨g, 0, none⟩)) {y : Ob} {t : TypeId} (h : Obl w g t (pcell y)) :
    (results fn tmps).run Try.prog w = .ok (.tuple #[tmps.getD s undef, .agg (pcell y), tmps.getD u undef]) w := results_tcell_3 hr tmps hp h Try.underlying34 rfl procSize
theorem load_proc0 {ops : Array Oper} {rest : List Oper} {o : Oper} {a : Act} {w : World} {Q : Exit → Act → World → Prop} (hgd : o.guard = none) (x : Operand) (ho : o.op = .load 34 x) {g : Nat} (hx : a.eval x = .pointer (some ⟨g, 0, none⟩)) {y : Ob} {t : TypeId} (h : Obl w g t (pcell y))
    (hK : wpList Try.prog ops Q rest (a.put o.dst (.agg (pcell y))) w) : wpList Try.prog ops Q (o :: rest) a w :=
  wpList_load_row hgd _ x ho g hx t (pcell y) (0, 0) _ h Try.underlying34 rfl procSize hK
theorem wp_store_proc {o : Oper} {a : Act} {w : World} {Q : Exit → Act → World → Prop} {K : Act → World → Prop} {x y : Operand} (ho : o.op = .store 34 x y) {g : Nat} (hx : a.eval x = .pointer (some ⟨g, 0, none⟩)) {c : Ob} (hy : a.eval y = .agg (pcell c)) {old : Array Value} {t : TypeId} (h : Obl w g t old) (hold : old.size = 20)
    (hK : K (a.put o.dst undef) (w.setRow g (pcell c))) : o.wp Try.prog a w K Q := wp_store_row _ x y ho g (pcell c) hx hy t old h procSize hold (pcell_one c) hK
/-- A process with these numbers and nothing else. -/
def Ob.proc (st pd al su : Int) : Ob := { Ob.zero with state := st, pending := pd, alarm := al, status := su }
theorem built_proc (st : Int) : Try.prog.built 34 [(0, .int .i64 st)] = some (pcell (Ob.proc st 0 0 0)) := by kernel_rfl
theorem built_pzero : Try.prog.built 34 [] = some (pcell Ob.zero) := by kernel_rfl
theorem built_obproc (o : Ob) : Try.prog.built 43 [(3, .agg (pcell o))] = some (oc o.only) := by kernel_rfl
theorem HoldsP.proc (w : World) (B : Nat) (st pd al su : Int) : HoldsP w B (Ob.proc st pd al su) Cont.none := ⟨Nums.nil, Inss.nil, Strs.nil, Refs.nil, Slots.nil⟩
theorem kept_shortP {w : World} {o : Ob} {X : Cont} {T : List (List UInt8)} (hk : Kept o.only [] T) (h : HoldsP w w.heap.size o X) : X.ShortP := by
  have k1 := hk.children
  have k2 := hk.prog
  have k3 := hk.pages
  have k4 := hk.table
  have e1 := h.children.len
  have e2 := h.code.len
  have e3 := h.strs.len
  have e4 := h.pages.len
  have e5 := h.table.len
  obtain ⟨k21, k22, _⟩ := k2
  simp only [Ob.only] at k1 k21 k22 k3 k4
  exact ⟨by omega, by omega, by omega, by omega, by omega⟩
end Go.Proofs.Ythaolmcppfjedaa
