/- Layer 4, the document's own answer to a line with an instruction: a contract. -/
import Derived.Test.YtfjekckcpkkdiaaGreatDoorCodeReadIns
import Derived.Test.YtfjekckcpkkdiaaGreatDoorCodeRefCheck
import Derived.Test.YtfjekckcpkkdiaaGreatDoorWordsLines
import Derived.Laws.RangeString
import Derived.Laws.RangeAny
import Derived.Lib.OthersKept
namespace Go.Proofs.YtfjekckcpkkdiaaGreatDoor
open Go.RowKit

section
variable {w w' : World} {B k pos : Nat} {s : ByteArray}
theorem below_iterAt (h : Below B w w') (hB : B ≤ k) (s : ByteArray) (pos : Nat) : Below B w (w'.iterAt k s pos) := ⟨h.os, h.tape, h.output, by simpa [World.iterAt] using h.size, fun j hj => by
  rw [← h.block j hj]
  simp only [World.iterAt]
  rw [Array.getElem?_setIfInBounds_ne (by omega)]⟩
theorem Obl.iterAt {b : Nat} {t : TypeId} {cs : Array Value} (h : Obl w b t cs) (hne : b ≠ k) : Obl (w.iterAt k s pos) b t cs := by
  unfold Obl at h ⊢
  simp only [World.iterAt]
  rw [Array.getElem?_setIfInBounds_ne (Ne.symm hne)]
  exact h
theorem lt_of_obj {o : Obj} (h : w.heap[k]? = some o) : k < w.heap.size := (Array.getElem?_eq_some_iff.1 h).1
theorem iterPos_of (h : w.heap[k]? = some (.stringIter s pos)) : w.iterPos k = pos := by simp [World.iterPos, h]
theorem iter_put_other {b : Nat} (h : w.heap[k]? = some (.stringIter s pos)) (hne : b ≠ k) (i : Nat) (u : Value) : (w.setCell ⟨b, i, none⟩ u).heap[k]? = some (.stringIter s pos) := by
  simp [World.setCell, Array.getElem?_modify, h, hne]
end
/-- An instruction, if there is one. -/
def InsPost (r : Option Cd.Ins) (w : World) (e : Ending) (w' : World) : Prop := ∃ x, e = .returned (.tuple #[ia x, .bool r.isSome]) ∧ (∀ y, r = some y → x = y) ∧ Below w.heap.size w w'
theorem InsPost.no {r : Option Cd.Ins} {w w' : World} {e : Ending} (hr : r = none) (he : e = .returned (.tuple #[.agg #[.int .i64 0, .int .i64 0, .int .i64 0, .int .i64 0], .bool false])) (hb : Below w.heap.size w w') : InsPost r w e w' := by subst hr; exact ⟨⟨0, 0, 0, 0⟩, he, fun y h => by (cases h), hb⟩
theorem InsPost.yes {r : Option Cd.Ins} {x : Cd.Ins} {w w' : World} {e : Ending} (hr : r = some x) (he : e = .returned (.tuple #[.agg #[.int .i64 x.op, .int .i64 x.a, .int .i64 x.b, .int .i64 x.c], .bool true])) (hb : Below w.heap.size w w') : InsPost r w e w' := by subst hr; exact ⟨x, he, fun y h => by (cases h; rfl), hb⟩
theorem findOp_name {M : List UInt8} {k : Nat} (h : Cd.findOp M = some k) : (Cd.opn (k : Int)).name = M := by
  have hk := findOp_lt h
  unfold Cd.findOp at h
  rw [List.findIdx?_eq_some_iff_getElem] at h
  obtain ⟨h1, h2, _⟩ := h
  rw [Cd.opn_nat k hk]
  exact of_decide_eq_true h2
theorem instr_at {M : List UInt8} {rest : List (List UInt8)} {k : Nat} {o : Cd.Opn} (hk : k < 13) (hM : (Cd.opn (k : Int)).name = M) (ho : Cd.opn (k : Int) = o) (hl : rest.length = o.form.length) : Cd.instr M rest = Cd.vals o rest k :=
  instr_vals (by rw [← hM]; exact Cd.findOp_at k hk) ho hl
theorem instr_never {M : List UInt8} {rest : List (List UInt8)} (h : ∀ j : Nat, j < 13 → (Cd.opn (j : Int)).name ≠ M ∨ rest.length ≠ (Cd.opn (j : Int)).form.length) : Cd.instr M rest = none := by
  cases hf : Cd.findOp M with
  | none => exact instr_no hf
  | some k => exact instr_len hf (by rcases h k (findOp_lt hf) with h | h; exact absurd (findOp_name hf) h; exact h)
theorem Strs.next {w : World} {B b o n : Nat} {x : List UInt8} {l : List (List UInt8)} (h : Strs w B (some ⟨b, o, none⟩) (n + 1) (x :: l)) {i : Nat} (hi : i < l.length) : w.cell? ⟨b, o + (i + 1), none⟩ = some (.string ⟨l[i].toArray⟩) ∧ b < B := by
  have hl : l.length = n := by have := h.1; simpa using this
  obtain ⟨b', o', hl', e, hb, hc⟩ := h.at_ (k := i + 1) (by omega)
  simp only [Option.some.injEq, Addr.mk.injEq, and_true] at e
  obtain ⟨rfl, rfl⟩ := e
  exact ⟨by simpa using hc, hb⟩

set_option maxRecDepth 100000 in
set_option maxHeartbeats 4000000 in
theorem refInstr_any (M : List UInt8) (rest : List (List UInt8)) (E : Option Addr) (c0 : Nat) (w : World) (hs : Strs w w.heap.size E (rest.length + 1) (M :: rest)) (hq : rest.length ≤ 1000000) (hw : ∀ x ∈ rest, x.length ≤ 4096) :
    Calls Tryz.prog 43 #[.slice E (rest.length + 1) c0] w (InsPost (Cd.instr M rest) w) := by
  obtain ⟨be, oe, hl0, rfl, hbe, hce⟩ := hs.at_ (k := 0) (by omega)
  simp only [Nat.add_zero, List.getElem_cons_zero] at hce
  have HNx : Hid (∀ i (hi : i < rest.length), w.cell? ⟨be, oe + (i + 1), none⟩ = some (.string ⟨rest[i].toArray⟩)) := hide (fun i hi => (hs.next hi).1)
  have HW : Hid (∀ i (hi : i < rest.length), rest[i].length ≤ 4096) := hide (fun i hi => hw _ (List.getElem_mem hi))
  have OR0 := Obl.make w 32 #[.int .i64 0, .int .i64 0, .int .i64 0, .int .i64 0]
  have hb0 := (Below.refl w.heap.size w).alloc (Nat.le_refl _) (.cells #[.int .i64 0, .int .i64 0, .int .i64 0, .int .i64 0] 32)
  clear hl0 hs hw
  go_enter Tryz.func43, Tryz.ntmps43
  go_wp2_with fail
  go_loopw [4] (fun s4 wr => ∃ k : Nat, s4 = .int .i64 (k : Int) ∧ k ≤ 13 ∧ Hid (∀ j : Nat, j < k → (Cd.opn (j : Int)).name ≠ M ∨ rest.length ≠ (Cd.opn (j : Int)).form.length) ∧ Obl wr w.heap.size 32 #[.int .i64 0, .int .i64 0, .int .i64 0, .int .i64 0] ∧ Below w.heap.size w wr) (fun s4 _ => 13 - (intOf s4).toNat)
  case atStart => exact ⟨0, rfl, by omega, hide (by omega), OR0, hb0⟩
  case round =>
    clear OR0 hb0
    obtain ⟨k, rfl, hk, HA, OR, hb⟩ := hrel
    have hszr := hb.size
    by_cases hlt : k < 13
    · have hk12 : (k : Int) ≤ 12 := by omega
      have hf3 : (⟨(Cd.opn (k : Int)).form.toArray⟩ : ByteArray).size ≤ 3 := by rw [ba_size]; exact Cd.form_le _
      have HLt := hide (letters (op := (k : Int)) (by omega) (by omega))
      obtain ⟨nm, f, ls, ms, ho, hnm, hf⟩ : ∃ (nm f : ByteArray) (ls ms : Int), Cd.opn (k : Int) = ⟨nm.data.toList, f.data.toList, ls, ms⟩ ∧ (⟨(Cd.opn (k : Int)).name.toArray⟩ : ByteArray) = nm ∧ (⟨(Cd.opn (k : Int)).form.toArray⟩ : ByteArray) = f :=
        ⟨⟨(Cd.opn (k : Int)).name.toArray⟩, ⟨(Cd.opn (k : Int)).form.toArray⟩, (Cd.opn (k : Int)).least, (Cd.opn (k : Int)).most, rfl, rfl, rfl⟩
      have hfl : (Cd.opn (k : Int)).form.length = f.size := by rw [ho]; simp only; rw [Lib.size_eq]
      have HO := hide ho
      have HFl := hide hfl
      by_cases hM : (Cd.opn (k : Int)).name = M
      · have ecmp : (M == (Cd.opn (k : Int)).name) = true := by rw [hM]; simp
        by_cases hql : rest.length = f.size
        · have HI := hide (instr_at hlt hM ho (by simp only; rw [hql, Lib.size_eq]))
          have eql : ¬ ¬ ((rest.length : Int) + 1 = (f.size : Int) + 1) := by omega
          clear hM ho hfl hnm
          go_wp2_with fail
          refine (form_any (k : Int) _).mono ?_
          rintro e u1 ⟨rfl, hbu⟩
          rw [hf] at hf3 ⊢
          generalize (Cd.opn (k : Int)).name = nl at *
          clear hf
          have hbw1 := hb.trans (hbu.mono hszr)
          have OR1 := OR.below hbu OR.lt
          have hcu : u1.cell? ⟨be, oe, none⟩ = some (.string ⟨M.toArray⟩) := (hbw1.cell (p := ⟨be, oe, none⟩) hbe).trans hce
          have hsu := hbw1.size
          go_wp2_with fail
          have OV : Obl ((u1.alloc (.cells #[.int .i64 0, .int .i64 0, .int .i64 0] 87)).iter f 0) u1.heap.size 87 #[.int .i64 0, .int .i64 0, .int .i64 0] := (Obl.make u1 87 #[.int .i64 0, .int .i64 0, .int .i64 0]).alloc (.stringIter f 0)
          have OR2 : Obl ((u1.alloc (.cells #[.int .i64 0, .int .i64 0, .int .i64 0] 87)).iter f 0) w.heap.size 32 #[.int .i64 0, .int .i64 0, .int .i64 0, .int .i64 0] := (OR1.alloc (.cells #[.int .i64 0, .int .i64 0, .int .i64 0] 87)).alloc (.stringIter f 0)
          have hbw2 : Below w.heap.size w ((u1.alloc (.cells #[.int .i64 0, .int .i64 0, .int .i64 0] 87)).iter f 0) := (hbw1.alloc hsu (.cells #[.int .i64 0, .int .i64 0, .int .i64 0] 87)).alloc (by simp; omega) (.stringIter f 0)
          have hit : ((u1.alloc (.cells #[.int .i64 0, .int .i64 0, .int .i64 0] 87)).iter f 0).heap[u1.heap.size + 1]? = some (.stringIter f 0) := by
            have := World.iter_heap (u1.alloc (.cells #[.int .i64 0, .int .i64 0, .int .i64 0] 87)) f 0
            simpa using this
          have HT0 : Hid (readTo ⟨nm.data.toList, f.data.toList, ls, ms⟩ rest 0 0 0 0) := hide ⟨⟨by omega, fun _ => rfl⟩, ⟨by omega, fun _ => rfl⟩, ⟨by omega, fun _ => rfl⟩⟩
          have hne : w.heap.size ≠ u1.heap.size + 1 := by omega
          have hrn : w.heap.size ≠ u1.heap.size := by have := OR1.lt; omega
          have hnk : u1.heap.size ≠ u1.heap.size + 1 := by omega
          have hgk : w.heap.size ≤ u1.heap.size + 1 := by omega
          generalize (u1.alloc (.cells #[.int .i64 0, .int .i64 0, .int .i64 0] 87)).iter f 0 = w2 at *
          generalize u1.heap.size + 1 = gk at *
          have hgn := hsu
          generalize u1.heap.size = gn at *
          clear OR1 OR hb hbu hbw1 hcu
          go_loopw [8] (fun s8 wx => ∃ (j : Nat) (va vb vc : Int), j ≤ f.size ∧ wx.heap[gk]? = some (.stringIter f j) ∧ Hid (readTo ⟨nm.data.toList, f.data.toList, ls, ms⟩ rest va vb vc j) ∧ Obl wx gn 87 #[.int .i64 va, .int .i64 vb, .int .i64 vc] ∧ Obl wx w.heap.size 32 #[.int .i64 0, .int .i64 0, .int .i64 0, .int .i64 0] ∧ Below w.heap.size w wx) (fun _ wx => f.size - wx.iterPos gk)
          case atStart => exact ⟨0, 0, 0, 0, by omega, hit, HT0, OV, OR2, hbw2⟩
          case round =>
            clear HT0 OV hbw2 hit OR2
            obtain ⟨j, va, vb, vc, hj, hit, HT, OV, OR, hb⟩ := hrel
            have hpos := iterPos_of hit
            by_cases hlt2 : j < f.size
            · have hjl : j < rest.length := by omega
              have HVA := hide (valAt_in (nm := nm) (ls := ls) (ms := ms) hlt2 hjl)
              have hxs : (⟨rest[j].toArray⟩ : ByteArray).size ≤ 1048576 := by rw [ba_size]; have := HW.out j hjl; omega
              have hascii : (f[j]'hlt2).toNat < 128 := by
                have hmem : f[j] ∈ (Cd.opn (k : Int)).form := by rw [HO.out]; exact List.mem_of_getElem? (str_at hlt2)
                rcases HLt.out _ hmem with h | h | h <;> rw [h] <;> decide
              have hnx := fun ty => Lib.run_next_ascii_at (P := Tryz.prog) wr gk f j ty hit hlt2 hascii
              have hb2 := below_iterAt hb hgk f (j + 1)
              have OV2 := OV.iterAt (s := f) (pos := j + 1) hnk
              have OR2 := OR.iterAt (s := f) (pos := j + 1) hne
              have hit2 := Lib.iterAt_heap wr gk f j (j + 1) hit
              have hcj := (hb2.cell (p := ⟨be, oe + (j + 1), none⟩) hbe).trans (HNx.out j hjl)
              have hj1 : (j : Int) + 1 < (f.size : Int) + 1 := by omega
              clear hascii
              generalize rest[j] = x at *
              go_wp2_with fail
              clear hnx
              have hbe2 : be < (wr.iterAt gk f (j + 1)).drew.heap.size := Nat.lt_of_lt_of_le hbe hb2.size
              refine region_C (by kernel_rfl) (wr.iterAt gk f (j + 1)).drew.heap.size [8] ?_
              replace hb2 : Below w.heap.size w (wr.iterAt gk f (j + 1)).drew := hb2.drew
              replace OV2 : Obl (wr.iterAt gk f (j + 1)).drew gn 87 #[.int .i64 va, .int .i64 vb, .int .i64 vc] := OV2
              replace OR2 : Obl (wr.iterAt gk f (j + 1)).drew w.heap.size 32 #[.int .i64 0, .int .i64 0, .int .i64 0, .int .i64 0] := OR2
              replace hit2 : (wr.iterAt gk f (j + 1)).drew.heap[gk]? = some (.stringIter f (j + 1)) := hit2
              replace hcj : (wr.iterAt gk f (j + 1)).drew.cell? ⟨be, oe + (j + 1), none⟩ = some (.string ⟨x.toArray⟩) := hcj
              generalize (wr.iterAt gk f (j + 1)).drew = w0 at *
              rcases (show j = 0 ∨ j = 1 ∨ j = 2 by omega) with rfl | rfl | rfl
              · have hidx : (0 : Int) < (f.size : Int) := by omega
                cases hro : Cd.readOp f[0] x with
                | none =>
                  have HN := hide (HI.out.trans (vals_no (i := 0) (by omega) (HVA.out.trans hro)))
                  have HRo := hide hro
                  clear hro
                  refine takeX 0 rfl (by kernel_rfl) (fun _ _ _ h => h) (by rfl) (by intro w'; go_simp; try with_reducible rfl) ?_
                  refine takeX 1 rfl (by kernel_rfl) (fun _ _ _ h => h) (by rfl) (by intro w'; go_simp; try with_reducible rfl) ?_
                  refine takeX 2 rfl (by kernel_rfl) (fun _ _ _ h => h) (by rfl) (by intro w'; go_simp; try with_reducible rfl) ?_
                  refine takeX 3 rfl (by kernel_rfl) (fun _ _ _ h => h) (by rfl) (by intro w'; go_simp; try with_reducible rfl) ?_
                  refine takeX 4 rfl (by kernel_rfl) (fun _ _ _ h => h) (by rfl) (by intro w'; go_simp; try with_reducible rfl) ?_
                  refine takeX 5 rfl (by kernel_rfl) (fun _ _ _ h => h) (by rfl) (by intro w'; have hwr : IntKind.i64.wrap (0 + 1) = 1 := (by decide); have hwr' : IntKind.i64.wrap 1 = 1 := (by decide); go_simp; try with_reducible rfl) ?_
                  refine takeX 6 rfl (by kernel_rfl) (fun _ _ _ h => h) (by rfl) (by intro w'; have hbnd : (1 : Int) < (f.size : Int) + 1 := (by omega); go_simp; try with_reducible rfl) ?_
                  refine takeC 7 [7, 8, 9, 10, 11, 12, 13] rfl (by kernel_rfl) (fun _ _ _ h => h) (by rfl) (by intro w' hg; have g0 : w'.cell? ⟨be, oe + 1, none⟩ = some (.string ⟨x.toArray⟩) := (hg.cell (p := ⟨be, oe + (0 + 1), none⟩) hbe2).trans hcj; go_simp; try with_reducible rfl) ?_
                  refine onlyC 8 rfl (by kernel_rfl) (by rfl) ?_
                  intro K hK
                  go_simp
                  refine (refRead_any f[0] ⟨x.toArray⟩ _ hxs).mono ?_
                  rintro e w5 ⟨rfl, hb5⟩
                  rw [show (⟨x.toArray⟩ : ByteArray).data.toList = x from rfl, HRo.out]
                  simp only [Option.getD_none, Option.isSome_none]
                  refine hK _ _ (fun h => absurd h (by decide)) ?_
                  clear hK K
                  refine takeX 9 rfl (by kernel_rfl) (fun _ _ _ h => h) (by rfl) (by intro w'; go_simp; try with_reducible rfl) ?_
                  refine takeX 10 rfl (by kernel_rfl) (fun _ _ _ h => h) (by rfl) (by intro w'; go_simp; try with_reducible rfl) ?_
                  refine takeX 11 rfl (by kernel_rfl) (fun _ _ _ h => h) (by rfl) (by intro w'; go_simp; try with_reducible rfl) ?_
                  refine takeX 12 rfl (by kernel_rfl) (fun _ _ _ h => h) (by rfl) (by intro w'; go_simp; try with_reducible rfl) ?_
                  refine takeX 13 rfl (by kernel_rfl) (fun _ _ _ h => h) (by rfl) (by intro w'; go_simp; try with_reducible rfl) ?_
                  refine doneC (by kernel_rfl) ?_
                  go_simp
                  have hb6 := hb2.trans (hb5.mono hb2.size)
                  have OR6 := OR2.below hb5 OR2.lt
                  have p0 := OR6.cell 0
                  have z0 := OR6.free 0
                  have p1 := OR6.cell 1
                  have z1 := OR6.free 1
                  have p2 := OR6.cell 2
                  have z2 := OR6.free 2
                  have p3 := OR6.cell 3
                  have z3 := OR6.free 3
                  simp at p0 p1 p2 p3
                  have OR7 : Obl ((((w5.setCell ⟨w.heap.size, 0, none⟩ (.int .i64 0)).setCell ⟨w.heap.size, 1, none⟩ (.int .i64 0)).setCell ⟨w.heap.size, 2, none⟩ (.int .i64 0)).setCell ⟨w.heap.size, 3, none⟩ (.int .i64 0)) w.heap.size 32 #[.int .i64 0, .int .i64 0, .int .i64 0, .int .i64 0] := ((((OR6.put 0 (.int .i64 0)).put 1 (.int .i64 0)).put 2 (.int .i64 0)).put 3 (.int .i64 0))
                  have hb7 := ((((hb6.setCell (p := ⟨w.heap.size, 0, none⟩) (Nat.le_refl _) (.int .i64 0)).setCell (p := ⟨w.heap.size, 1, none⟩) (Nat.le_refl _) (.int .i64 0)).setCell (p := ⟨w.heap.size, 2, none⟩) (Nat.le_refl _) (.int .i64 0)).setCell (p := ⟨w.heap.size, 3, none⟩) (Nat.le_refl _) (.int .i64 0))
                  go_wp2
                  refine bodyPost_ret (results_cell_2 rfl _ (b := w.heap.size) rfl OR7 Tryz.underlying32 rfl insSize) rfl ?_
                  exact InsPost.no HN.out rfl hb7
                | some v =>
                  have HRo := hide hro
                  clear hro
                  have HT2 : Hid (readTo ⟨nm.data.toList, f.data.toList, ls, ms⟩ rest v vb vc 1) := hide ⟨⟨fun _ => HVA.out.trans HRo.out, by omega⟩, ⟨by omega, fun _ => HT.out.2.1.2 (by omega)⟩, ⟨by omega, fun _ => HT.out.2.2.2 (by omega)⟩⟩
                  refine takeX 0 rfl (by kernel_rfl) (fun _ _ _ h => h) (by rfl) (by intro w'; go_simp; try with_reducible rfl) ?_
                  refine takeX 1 rfl (by kernel_rfl) (fun _ _ _ h => h) (by rfl) (by intro w'; go_simp; try with_reducible rfl) ?_
                  refine takeX 2 rfl (by kernel_rfl) (fun _ _ _ h => h) (by rfl) (by intro w'; go_simp; try with_reducible rfl) ?_
                  refine takeX 3 rfl (by kernel_rfl) (fun _ _ _ h => h) (by rfl) (by intro w'; go_simp; try with_reducible rfl) ?_
                  refine takeX 4 rfl (by kernel_rfl) (fun _ _ _ h => h) (by rfl) (by intro w'; go_simp; try with_reducible rfl) ?_
                  refine takeX 5 rfl (by kernel_rfl) (fun _ _ _ h => h) (by rfl) (by intro w'; have hwr : IntKind.i64.wrap (0 + 1) = 1 := (by decide); have hwr' : IntKind.i64.wrap 1 = 1 := (by decide); go_simp; try with_reducible rfl) ?_
                  refine takeX 6 rfl (by kernel_rfl) (fun _ _ _ h => h) (by rfl) (by intro w'; have hbnd : (1 : Int) < (f.size : Int) + 1 := (by omega); go_simp; try with_reducible rfl) ?_
                  refine takeC 7 [7, 8, 9, 10, 11, 12, 13] rfl (by kernel_rfl) (fun _ _ _ h => h) (by rfl) (by intro w' hg; have g0 : w'.cell? ⟨be, oe + 1, none⟩ = some (.string ⟨x.toArray⟩) := (hg.cell (p := ⟨be, oe + (0 + 1), none⟩) hbe2).trans hcj; go_simp; try with_reducible rfl) ?_
                  refine onlyC 8 rfl (by kernel_rfl) (by rfl) ?_
                  intro K hK
                  go_simp
                  refine (refRead_any f[0] ⟨x.toArray⟩ _ hxs).mono ?_
                  rintro e w5 ⟨rfl, hb5⟩
                  rw [show (⟨x.toArray⟩ : ByteArray).data.toList = x from rfl, HRo.out]
                  simp only [Option.getD_some, Option.isSome_some]
                  refine hK _ _ (fun h => absurd h (by decide)) ?_
                  clear hK K
                  refine takeX 9 rfl (by kernel_rfl) (fun _ _ _ h => h) (by rfl) (by intro w'; go_simp; try with_reducible rfl) ?_
                  refine takeX 10 rfl (by kernel_rfl) (fun _ _ _ h => h) (by rfl) (by intro w'; go_simp; try with_reducible rfl) ?_
                  refine takeX 11 rfl (by kernel_rfl) (fun _ _ _ h => h) (by rfl) (by intro w'; go_simp; try with_reducible rfl) ?_
                  refine takeX 12 rfl (by kernel_rfl) (fun _ _ _ h => h) (by rfl) (by intro w'; go_simp; try with_reducible rfl) ?_
                  refine takeX 13 rfl (by kernel_rfl) (fun _ _ _ h => h) (by rfl) (by intro w'; go_simp; try with_reducible rfl) ?_
                  refine doneC (by kernel_rfl) ?_
                  go_simp
                  have hb6 := (hb2.trans (hb5.mono hb2.size)).setCell (p := ⟨gn, 0, none⟩) hgn (.int .i64 v)
                  have OV5 := OV2.below hb5 OV2.lt
                  have OR6 := (OR2.below hb5 OR2.lt).put_other (b' := gn) hrn 0 (.int .i64 v)
                  have hit5 : w5.heap[gk]? = some (.stringIter f (0 + 1)) := (hb5.block gk (lt_of_obj hit2)).trans hit2
                  have hit6 := iter_put_other hit5 hnk 0 (.int .i64 v)
                  have OV6 : Obl (w5.setCell ⟨gn, 0, none⟩ (.int .i64 v)) gn 87 #[.int .i64 v, .int .i64 vb, .int .i64 vc] := OV5.put 0 (.int .i64 v)
                  have p0 := OV5.cell 0
                  have z0 := OV5.free 0
                  simp at p0
                  have hpos6 := iterPos_of hit6
                  go_wp2
                  go_roundw
                  case rel => exact ⟨1, v, vb, vc, by omega, hit6, HT2, OV6, OR6, hb6⟩
                  case measure => rw [hpos, hpos6]; omega
              · have hidx : (1 : Int) < (f.size : Int) := by omega
                cases hro : Cd.readOp f[1] x with
                | none =>
                  have HN := hide (HI.out.trans (vals_no (i := 1) (by omega) (HVA.out.trans hro)))
                  have HRo := hide hro
                  clear hro
                  refine takeX 0 rfl (by kernel_rfl) (fun _ _ _ h => h) (by rfl) (by intro w'; go_simp; try with_reducible rfl) ?_
                  refine takeX 1 rfl (by kernel_rfl) (fun _ _ _ h => h) (by rfl) (by intro w'; go_simp; try with_reducible rfl) ?_
                  refine takeX 2 rfl (by kernel_rfl) (fun _ _ _ h => h) (by rfl) (by intro w'; go_simp; try with_reducible rfl) ?_
                  refine takeX 3 rfl (by kernel_rfl) (fun _ _ _ h => h) (by rfl) (by intro w'; go_simp; try with_reducible rfl) ?_
                  refine takeX 4 rfl (by kernel_rfl) (fun _ _ _ h => h) (by rfl) (by intro w'; go_simp; try with_reducible rfl) ?_
                  refine takeX 5 rfl (by kernel_rfl) (fun _ _ _ h => h) (by rfl) (by intro w'; have hwr : IntKind.i64.wrap (1 + 1) = 2 := (by decide); have hwr' : IntKind.i64.wrap 2 = 2 := (by decide); go_simp; try with_reducible rfl) ?_
                  refine takeX 6 rfl (by kernel_rfl) (fun _ _ _ h => h) (by rfl) (by intro w'; have hbnd : (2 : Int) < (f.size : Int) + 1 := (by omega); go_simp; try with_reducible rfl) ?_
                  refine takeC 7 [7, 8, 9, 10, 11, 12, 13] rfl (by kernel_rfl) (fun _ _ _ h => h) (by rfl) (by intro w' hg; have g0 : w'.cell? ⟨be, oe + 2, none⟩ = some (.string ⟨x.toArray⟩) := (hg.cell (p := ⟨be, oe + (1 + 1), none⟩) hbe2).trans hcj; go_simp; try with_reducible rfl) ?_
                  refine onlyC 8 rfl (by kernel_rfl) (by rfl) ?_
                  intro K hK
                  go_simp
                  refine (refRead_any f[1] ⟨x.toArray⟩ _ hxs).mono ?_
                  rintro e w5 ⟨rfl, hb5⟩
                  rw [show (⟨x.toArray⟩ : ByteArray).data.toList = x from rfl, HRo.out]
                  simp only [Option.getD_none, Option.isSome_none]
                  refine hK _ _ (fun h => absurd h (by decide)) ?_
                  clear hK K
                  refine takeX 9 rfl (by kernel_rfl) (fun _ _ _ h => h) (by rfl) (by intro w'; go_simp; try with_reducible rfl) ?_
                  refine takeX 10 rfl (by kernel_rfl) (fun _ _ _ h => h) (by rfl) (by intro w'; go_simp; try with_reducible rfl) ?_
                  refine takeX 11 rfl (by kernel_rfl) (fun _ _ _ h => h) (by rfl) (by intro w'; go_simp; try with_reducible rfl) ?_
                  refine takeX 12 rfl (by kernel_rfl) (fun _ _ _ h => h) (by rfl) (by intro w'; go_simp; try with_reducible rfl) ?_
                  refine takeX 13 rfl (by kernel_rfl) (fun _ _ _ h => h) (by rfl) (by intro w'; go_simp; try with_reducible rfl) ?_
                  refine doneC (by kernel_rfl) ?_
                  go_simp
                  have hb6 := hb2.trans (hb5.mono hb2.size)
                  have OR6 := OR2.below hb5 OR2.lt
                  have p0 := OR6.cell 0
                  have z0 := OR6.free 0
                  have p1 := OR6.cell 1
                  have z1 := OR6.free 1
                  have p2 := OR6.cell 2
                  have z2 := OR6.free 2
                  have p3 := OR6.cell 3
                  have z3 := OR6.free 3
                  simp at p0 p1 p2 p3
                  have OR7 : Obl ((((w5.setCell ⟨w.heap.size, 0, none⟩ (.int .i64 0)).setCell ⟨w.heap.size, 1, none⟩ (.int .i64 0)).setCell ⟨w.heap.size, 2, none⟩ (.int .i64 0)).setCell ⟨w.heap.size, 3, none⟩ (.int .i64 0)) w.heap.size 32 #[.int .i64 0, .int .i64 0, .int .i64 0, .int .i64 0] := ((((OR6.put 0 (.int .i64 0)).put 1 (.int .i64 0)).put 2 (.int .i64 0)).put 3 (.int .i64 0))
                  have hb7 := ((((hb6.setCell (p := ⟨w.heap.size, 0, none⟩) (Nat.le_refl _) (.int .i64 0)).setCell (p := ⟨w.heap.size, 1, none⟩) (Nat.le_refl _) (.int .i64 0)).setCell (p := ⟨w.heap.size, 2, none⟩) (Nat.le_refl _) (.int .i64 0)).setCell (p := ⟨w.heap.size, 3, none⟩) (Nat.le_refl _) (.int .i64 0))
                  go_wp2
                  refine bodyPost_ret (results_cell_2 rfl _ (b := w.heap.size) rfl OR7 Tryz.underlying32 rfl insSize) rfl ?_
                  exact InsPost.no HN.out rfl hb7
                | some v =>
                  have HRo := hide hro
                  clear hro
                  have HT2 : Hid (readTo ⟨nm.data.toList, f.data.toList, ls, ms⟩ rest va v vc 2) := hide ⟨⟨fun _ => HT.out.1.1 (by omega), by omega⟩, ⟨fun _ => HVA.out.trans HRo.out, by omega⟩, ⟨by omega, fun _ => HT.out.2.2.2 (by omega)⟩⟩
                  refine takeX 0 rfl (by kernel_rfl) (fun _ _ _ h => h) (by rfl) (by intro w'; go_simp; try with_reducible rfl) ?_
                  refine takeX 1 rfl (by kernel_rfl) (fun _ _ _ h => h) (by rfl) (by intro w'; go_simp; try with_reducible rfl) ?_
                  refine takeX 2 rfl (by kernel_rfl) (fun _ _ _ h => h) (by rfl) (by intro w'; go_simp; try with_reducible rfl) ?_
                  refine takeX 3 rfl (by kernel_rfl) (fun _ _ _ h => h) (by rfl) (by intro w'; go_simp; try with_reducible rfl) ?_
                  refine takeX 4 rfl (by kernel_rfl) (fun _ _ _ h => h) (by rfl) (by intro w'; go_simp; try with_reducible rfl) ?_
                  refine takeX 5 rfl (by kernel_rfl) (fun _ _ _ h => h) (by rfl) (by intro w'; have hwr : IntKind.i64.wrap (1 + 1) = 2 := (by decide); have hwr' : IntKind.i64.wrap 2 = 2 := (by decide); go_simp; try with_reducible rfl) ?_
                  refine takeX 6 rfl (by kernel_rfl) (fun _ _ _ h => h) (by rfl) (by intro w'; have hbnd : (2 : Int) < (f.size : Int) + 1 := (by omega); go_simp; try with_reducible rfl) ?_
                  refine takeC 7 [7, 8, 9, 10, 11, 12, 13] rfl (by kernel_rfl) (fun _ _ _ h => h) (by rfl) (by intro w' hg; have g0 : w'.cell? ⟨be, oe + 2, none⟩ = some (.string ⟨x.toArray⟩) := (hg.cell (p := ⟨be, oe + (1 + 1), none⟩) hbe2).trans hcj; go_simp; try with_reducible rfl) ?_
                  refine onlyC 8 rfl (by kernel_rfl) (by rfl) ?_
                  intro K hK
                  go_simp
                  refine (refRead_any f[1] ⟨x.toArray⟩ _ hxs).mono ?_
                  rintro e w5 ⟨rfl, hb5⟩
                  rw [show (⟨x.toArray⟩ : ByteArray).data.toList = x from rfl, HRo.out]
                  simp only [Option.getD_some, Option.isSome_some]
                  refine hK _ _ (fun h => absurd h (by decide)) ?_
                  clear hK K
                  refine takeX 9 rfl (by kernel_rfl) (fun _ _ _ h => h) (by rfl) (by intro w'; go_simp; try with_reducible rfl) ?_
                  refine takeX 10 rfl (by kernel_rfl) (fun _ _ _ h => h) (by rfl) (by intro w'; go_simp; try with_reducible rfl) ?_
                  refine takeX 11 rfl (by kernel_rfl) (fun _ _ _ h => h) (by rfl) (by intro w'; go_simp; try with_reducible rfl) ?_
                  refine takeX 12 rfl (by kernel_rfl) (fun _ _ _ h => h) (by rfl) (by intro w'; go_simp; try with_reducible rfl) ?_
                  refine takeX 13 rfl (by kernel_rfl) (fun _ _ _ h => h) (by rfl) (by intro w'; go_simp; try with_reducible rfl) ?_
                  refine doneC (by kernel_rfl) ?_
                  go_simp
                  have hb6 := (hb2.trans (hb5.mono hb2.size)).setCell (p := ⟨gn, 1, none⟩) hgn (.int .i64 v)
                  have OV5 := OV2.below hb5 OV2.lt
                  have OR6 := (OR2.below hb5 OR2.lt).put_other (b' := gn) hrn 1 (.int .i64 v)
                  have hit5 : w5.heap[gk]? = some (.stringIter f (1 + 1)) := (hb5.block gk (lt_of_obj hit2)).trans hit2
                  have hit6 := iter_put_other hit5 hnk 1 (.int .i64 v)
                  have OV6 : Obl (w5.setCell ⟨gn, 1, none⟩ (.int .i64 v)) gn 87 #[.int .i64 va, .int .i64 v, .int .i64 vc] := OV5.put 1 (.int .i64 v)
                  have p0 := OV5.cell 1
                  have z0 := OV5.free 1
                  simp at p0
                  have hpos6 := iterPos_of hit6
                  go_wp2
                  go_roundw
                  case rel => exact ⟨2, va, v, vc, by omega, hit6, HT2, OV6, OR6, hb6⟩
                  case measure => rw [hpos, hpos6]; omega
              · have hidx : (2 : Int) < (f.size : Int) := by omega
                cases hro : Cd.readOp f[2] x with
                | none =>
                  have HN := hide (HI.out.trans (vals_no (i := 2) (by omega) (HVA.out.trans hro)))
                  have HRo := hide hro
                  clear hro
                  refine takeX 0 rfl (by kernel_rfl) (fun _ _ _ h => h) (by rfl) (by intro w'; go_simp; try with_reducible rfl) ?_
                  refine takeX 1 rfl (by kernel_rfl) (fun _ _ _ h => h) (by rfl) (by intro w'; go_simp; try with_reducible rfl) ?_
                  refine takeX 2 rfl (by kernel_rfl) (fun _ _ _ h => h) (by rfl) (by intro w'; go_simp; try with_reducible rfl) ?_
                  refine takeX 3 rfl (by kernel_rfl) (fun _ _ _ h => h) (by rfl) (by intro w'; go_simp; try with_reducible rfl) ?_
                  refine takeX 4 rfl (by kernel_rfl) (fun _ _ _ h => h) (by rfl) (by intro w'; go_simp; try with_reducible rfl) ?_
                  refine takeX 5 rfl (by kernel_rfl) (fun _ _ _ h => h) (by rfl) (by intro w'; have hwr : IntKind.i64.wrap (2 + 1) = 3 := (by decide); have hwr' : IntKind.i64.wrap 3 = 3 := (by decide); go_simp; try with_reducible rfl) ?_
                  refine takeX 6 rfl (by kernel_rfl) (fun _ _ _ h => h) (by rfl) (by intro w'; have hbnd : (3 : Int) < (f.size : Int) + 1 := (by omega); go_simp; try with_reducible rfl) ?_
                  refine takeC 7 [7, 8, 9, 10, 11, 12, 13] rfl (by kernel_rfl) (fun _ _ _ h => h) (by rfl) (by intro w' hg; have g0 : w'.cell? ⟨be, oe + 3, none⟩ = some (.string ⟨x.toArray⟩) := (hg.cell (p := ⟨be, oe + (2 + 1), none⟩) hbe2).trans hcj; go_simp; try with_reducible rfl) ?_
                  refine onlyC 8 rfl (by kernel_rfl) (by rfl) ?_
                  intro K hK
                  go_simp
                  refine (refRead_any f[2] ⟨x.toArray⟩ _ hxs).mono ?_
                  rintro e w5 ⟨rfl, hb5⟩
                  rw [show (⟨x.toArray⟩ : ByteArray).data.toList = x from rfl, HRo.out]
                  simp only [Option.getD_none, Option.isSome_none]
                  refine hK _ _ (fun h => absurd h (by decide)) ?_
                  clear hK K
                  refine takeX 9 rfl (by kernel_rfl) (fun _ _ _ h => h) (by rfl) (by intro w'; go_simp; try with_reducible rfl) ?_
                  refine takeX 10 rfl (by kernel_rfl) (fun _ _ _ h => h) (by rfl) (by intro w'; go_simp; try with_reducible rfl) ?_
                  refine takeX 11 rfl (by kernel_rfl) (fun _ _ _ h => h) (by rfl) (by intro w'; go_simp; try with_reducible rfl) ?_
                  refine takeX 12 rfl (by kernel_rfl) (fun _ _ _ h => h) (by rfl) (by intro w'; go_simp; try with_reducible rfl) ?_
                  refine takeX 13 rfl (by kernel_rfl) (fun _ _ _ h => h) (by rfl) (by intro w'; go_simp; try with_reducible rfl) ?_
                  refine doneC (by kernel_rfl) ?_
                  go_simp
                  have hb6 := hb2.trans (hb5.mono hb2.size)
                  have OR6 := OR2.below hb5 OR2.lt
                  have p0 := OR6.cell 0
                  have z0 := OR6.free 0
                  have p1 := OR6.cell 1
                  have z1 := OR6.free 1
                  have p2 := OR6.cell 2
                  have z2 := OR6.free 2
                  have p3 := OR6.cell 3
                  have z3 := OR6.free 3
                  simp at p0 p1 p2 p3
                  have OR7 : Obl ((((w5.setCell ⟨w.heap.size, 0, none⟩ (.int .i64 0)).setCell ⟨w.heap.size, 1, none⟩ (.int .i64 0)).setCell ⟨w.heap.size, 2, none⟩ (.int .i64 0)).setCell ⟨w.heap.size, 3, none⟩ (.int .i64 0)) w.heap.size 32 #[.int .i64 0, .int .i64 0, .int .i64 0, .int .i64 0] := ((((OR6.put 0 (.int .i64 0)).put 1 (.int .i64 0)).put 2 (.int .i64 0)).put 3 (.int .i64 0))
                  have hb7 := ((((hb6.setCell (p := ⟨w.heap.size, 0, none⟩) (Nat.le_refl _) (.int .i64 0)).setCell (p := ⟨w.heap.size, 1, none⟩) (Nat.le_refl _) (.int .i64 0)).setCell (p := ⟨w.heap.size, 2, none⟩) (Nat.le_refl _) (.int .i64 0)).setCell (p := ⟨w.heap.size, 3, none⟩) (Nat.le_refl _) (.int .i64 0))
                  go_wp2
                  refine bodyPost_ret (results_cell_2 rfl _ (b := w.heap.size) rfl OR7 Tryz.underlying32 rfl insSize) rfl ?_
                  exact InsPost.no HN.out rfl hb7
                | some v =>
                  have HRo := hide hro
                  clear hro
                  have HT2 : Hid (readTo ⟨nm.data.toList, f.data.toList, ls, ms⟩ rest va vb v 3) := hide ⟨⟨fun _ => HT.out.1.1 (by omega), by omega⟩, ⟨fun _ => HT.out.2.1.1 (by omega), by omega⟩, ⟨fun _ => HVA.out.trans HRo.out, by omega⟩⟩
                  refine takeX 0 rfl (by kernel_rfl) (fun _ _ _ h => h) (by rfl) (by intro w'; go_simp; try with_reducible rfl) ?_
                  refine takeX 1 rfl (by kernel_rfl) (fun _ _ _ h => h) (by rfl) (by intro w'; go_simp; try with_reducible rfl) ?_
                  refine takeX 2 rfl (by kernel_rfl) (fun _ _ _ h => h) (by rfl) (by intro w'; go_simp; try with_reducible rfl) ?_
                  refine takeX 3 rfl (by kernel_rfl) (fun _ _ _ h => h) (by rfl) (by intro w'; go_simp; try with_reducible rfl) ?_
                  refine takeX 4 rfl (by kernel_rfl) (fun _ _ _ h => h) (by rfl) (by intro w'; go_simp; try with_reducible rfl) ?_
                  refine takeX 5 rfl (by kernel_rfl) (fun _ _ _ h => h) (by rfl) (by intro w'; have hwr : IntKind.i64.wrap (2 + 1) = 3 := (by decide); have hwr' : IntKind.i64.wrap 3 = 3 := (by decide); go_simp; try with_reducible rfl) ?_
                  refine takeX 6 rfl (by kernel_rfl) (fun _ _ _ h => h) (by rfl) (by intro w'; have hbnd : (3 : Int) < (f.size : Int) + 1 := (by omega); go_simp; try with_reducible rfl) ?_
                  refine takeC 7 [7, 8, 9, 10, 11, 12, 13] rfl (by kernel_rfl) (fun _ _ _ h => h) (by rfl) (by intro w' hg; have g0 : w'.cell? ⟨be, oe + 3, none⟩ = some (.string ⟨x.toArray⟩) := (hg.cell (p := ⟨be, oe + (2 + 1), none⟩) hbe2).trans hcj; go_simp; try with_reducible rfl) ?_
                  refine onlyC 8 rfl (by kernel_rfl) (by rfl) ?_
                  intro K hK
                  go_simp
                  refine (refRead_any f[2] ⟨x.toArray⟩ _ hxs).mono ?_
                  rintro e w5 ⟨rfl, hb5⟩
                  rw [show (⟨x.toArray⟩ : ByteArray).data.toList = x from rfl, HRo.out]
                  simp only [Option.getD_some, Option.isSome_some]
                  refine hK _ _ (fun h => absurd h (by decide)) ?_
                  clear hK K
                  refine takeX 9 rfl (by kernel_rfl) (fun _ _ _ h => h) (by rfl) (by intro w'; go_simp; try with_reducible rfl) ?_
                  refine takeX 10 rfl (by kernel_rfl) (fun _ _ _ h => h) (by rfl) (by intro w'; go_simp; try with_reducible rfl) ?_
                  refine takeX 11 rfl (by kernel_rfl) (fun _ _ _ h => h) (by rfl) (by intro w'; go_simp; try with_reducible rfl) ?_
                  refine takeX 12 rfl (by kernel_rfl) (fun _ _ _ h => h) (by rfl) (by intro w'; go_simp; try with_reducible rfl) ?_
                  refine takeX 13 rfl (by kernel_rfl) (fun _ _ _ h => h) (by rfl) (by intro w'; go_simp; try with_reducible rfl) ?_
                  refine doneC (by kernel_rfl) ?_
                  go_simp
                  have hb6 := (hb2.trans (hb5.mono hb2.size)).setCell (p := ⟨gn, 2, none⟩) hgn (.int .i64 v)
                  have OV5 := OV2.below hb5 OV2.lt
                  have OR6 := (OR2.below hb5 OR2.lt).put_other (b' := gn) hrn 2 (.int .i64 v)
                  have hit5 : w5.heap[gk]? = some (.stringIter f (2 + 1)) := (hb5.block gk (lt_of_obj hit2)).trans hit2
                  have hit6 := iter_put_other hit5 hnk 2 (.int .i64 v)
                  have OV6 : Obl (w5.setCell ⟨gn, 2, none⟩ (.int .i64 v)) gn 87 #[.int .i64 va, .int .i64 vb, .int .i64 v] := OV5.put 2 (.int .i64 v)
                  have p0 := OV5.cell 2
                  have z0 := OV5.free 2
                  simp at p0
                  have hpos6 := iterPos_of hit6
                  go_wp2
                  go_roundw
                  case rel => exact ⟨3, va, vb, v, by omega, hit6, HT2, OV6, OR6, hb6⟩
                  case measure => rw [hpos, hpos6]; omega
            · have hjf : j = f.size := by omega
              subst hjf
              have HV := hide (HI.out.trans (readTo_end HT.out k))
              have hnx := fun ty => Lib.run_next_end_at (P := Tryz.prog) wr gk f f.size ty hit hlt2
              have v0 := OV.cell 0
              have v1 := OV.cell 1
              have v2 := OV.cell 2
              have p0 := OR.cell 0
              have p1 := OR.cell 1
              have p2 := OR.cell 2
              have p3 := OR.cell 3
              have z0 := OR.free 0
              have z1 := OR.free 1
              have z2 := OR.free 2
              have z3 := OR.free 3
              simp at v0 v1 v2 p0 p1 p2 p3
              have OR7 : Obl ((((wr.setCell ⟨w.heap.size, 0, none⟩ (.int .i64 (k : Int))).setCell ⟨w.heap.size, 1, none⟩ (.int .i64 va)).setCell ⟨w.heap.size, 2, none⟩ (.int .i64 vb)).setCell ⟨w.heap.size, 3, none⟩ (.int .i64 vc)) w.heap.size 32 #[.int .i64 (k : Int), .int .i64 va, .int .i64 vb, .int .i64 vc] := (((OR.put 0 (.int .i64 (k : Int))).put 1 (.int .i64 va)).put 2 (.int .i64 vb)).put 3 (.int .i64 vc)
              have hb7 := (((hb.setCell (p := ⟨w.heap.size, 0, none⟩) (Nat.le_refl _) (.int .i64 (k : Int))).setCell (p := ⟨w.heap.size, 1, none⟩) (Nat.le_refl _) (.int .i64 va)).setCell (p := ⟨w.heap.size, 2, none⟩) (Nat.le_refl _) (.int .i64 vb)).setCell (p := ⟨w.heap.size, 3, none⟩) (Nat.le_refl _) (.int .i64 vc)
              go_wp2
              refine bodyPost_ret (results_cell_2 rfl _ (b := w.heap.size) rfl OR7 Tryz.underlying32 rfl insSize) rfl ?_
              exact InsPost.yes HV.out rfl hb7
        · have HA2 : Hid (∀ j : Nat, j < k + 1 → (Cd.opn (j : Int)).name ≠ M ∨ rest.length ≠ (Cd.opn (j : Int)).form.length) := hide (fun j hj => by
            rcases Nat.lt_or_ge j k with g | g
            · exact HA.out j g
            · obtain rfl : j = k := by omega
              exact .inr (by rw [HFl.out]; exact hql))
          have eql : ¬ ((rest.length : Int) + 1 = (f.size : Int) + 1) := by omega
          clear hM ho hfl hnm
          go_wp2_with fail
          refine (form_any (k : Int) _).mono ?_
          rintro e u1 ⟨rfl, hbu⟩
          rw [hf] at hf3 ⊢
          generalize (Cd.opn (k : Int)).name = nl at *
          clear hf
          have hbw1 := hb.trans (hbu.mono hszr)
          have OR1 := OR.below hbu OR.lt
          have hcu : u1.cell? ⟨be, oe, none⟩ = some (.string ⟨M.toArray⟩) := (hbw1.cell (p := ⟨be, oe, none⟩) hbe).trans hce
          go_wp2
          go_roundw
          case rel => exact ⟨k + 1, by go_num, by omega, HA2, OR1, hbw1⟩
          case measure => simp [intOf]; omega
      · have ecmp : (M == (Cd.opn (k : Int)).name) = false := by simpa using fun e => hM e.symm
        have HA2 : Hid (∀ j : Nat, j < k + 1 → (Cd.opn (j : Int)).name ≠ M ∨ rest.length ≠ (Cd.opn (j : Int)).form.length) := hide (fun j hj => by
          rcases Nat.lt_or_ge j k with g | g
          · exact HA.out j g
          · obtain rfl : j = k := by omega
            exact .inl hM)
        clear hM ho hfl hnm
        go_wp2_with fail
        refine (form_any (k : Int) _).mono ?_
        rintro e u1 ⟨rfl, hbu⟩
        rw [hf] at hf3 ⊢
        generalize (Cd.opn (k : Int)).name = nl at *
        clear hf
        have hbw1 := hb.trans (hbu.mono hszr)
        have OR1 := OR.below hbu OR.lt
        have hcu : u1.cell? ⟨be, oe, none⟩ = some (.string ⟨M.toArray⟩) := (hbw1.cell (p := ⟨be, oe, none⟩) hbe).trans hce
        go_wp2
        go_roundw
        case rel => exact ⟨k + 1, by go_num, by omega, HA2, OR1, hbw1⟩
        case measure => simp [intOf]; omega
    · have hk13 : k = 13 := by omega
      have HV := hide (instr_never (M := M) (rest := rest) (fun j hj => HA.out j (by omega)))
      subst hk13
      have p0 := OR.cell 0
      have p1 := OR.cell 1
      have p2 := OR.cell 2
      have p3 := OR.cell 3
      have z0 := OR.free 0
      have z1 := OR.free 1
      have z2 := OR.free 2
      have z3 := OR.free 3
      simp at p0 p1 p2 p3
      have OR7 : Obl ((((wr.setCell ⟨w.heap.size, 0, none⟩ (.int .i64 0)).setCell ⟨w.heap.size, 1, none⟩ (.int .i64 0)).setCell ⟨w.heap.size, 2, none⟩ (.int .i64 0)).setCell ⟨w.heap.size, 3, none⟩ (.int .i64 0)) w.heap.size 32 #[.int .i64 0, .int .i64 0, .int .i64 0, .int .i64 0] := (((OR.put 0 (.int .i64 0)).put 1 (.int .i64 0)).put 2 (.int .i64 0)).put 3 (.int .i64 0)
      have hb7 := (((hb.setCell (p := ⟨w.heap.size, 0, none⟩) (Nat.le_refl _) (.int .i64 0)).setCell (p := ⟨w.heap.size, 1, none⟩) (Nat.le_refl _) (.int .i64 0)).setCell (p := ⟨w.heap.size, 2, none⟩) (Nat.le_refl _) (.int .i64 0)).setCell (p := ⟨w.heap.size, 3, none⟩) (Nat.le_refl _) (.int .i64 0)
      go_wp2
      refine bodyPost_ret (results_cell_2 rfl _ (b := w.heap.size) rfl OR7 Tryz.underlying32 rfl insSize) rfl ?_
      exact InsPost.no HV.out rfl hb7
end Go.Proofs.YtfjekckcpkkdiaaGreatDoor
