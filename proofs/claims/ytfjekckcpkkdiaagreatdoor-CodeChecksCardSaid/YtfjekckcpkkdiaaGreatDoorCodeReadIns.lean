/- Layer 4, the reader of a program's text: a line with an instruction. -/
import Derived.Test.YtfjekckcpkkdiaaGreatDoorCodeReader
namespace Go.Proofs.YtfjekckcpkkdiaaGreatDoor
open Go.RowKit

theorem Row.four (w : World) (x : Cd.Ins) (t : TypeId) : Row (w.alloc (.cells #[.int .i64 x.op, .int .i64 x.a, .int .i64 x.b, .int .i64 x.c] t)) (w.heap.size + 1) 4 (some ⟨w.heap.size, 0, none⟩) 1 [.int .i64 x.op, .int .i64 x.a, .int .i64 x.b, .int .i64 x.c] :=
  ⟨by simp, by simp, (Row.list w [.int .i64 x.op, .int .i64 x.a, .int .i64 x.b, .int .i64 x.c] t).rd⟩
theorem findOp_lt {N : List UInt8} {k : Nat} (h : Cd.findOp N = some k) : k < 13 := by
  unfold Cd.findOp at h
  rw [List.findIdx?_eq_some_iff_getElem] at h
  exact h.1
theorem rdIns_none {s : Cd.St} {N : List UInt8} {rest : List (List UInt8)} (h : Cd.instr N rest = none) : Cd.readIns s N rest = none := by unfold Cd.readIns; rw [h]; rfl
theorem rdIns_some {s : Cd.St} {N : List UInt8} {rest : List (List UInt8)} {x : Cd.Ins} (h : Cd.instr N rest = some x) : Cd.readIns s N rest = some ⟨s.paged, ⟨s.prog.code ++ [x], s.prog.strs, s.prog.pages⟩⟩ := by unfold Cd.readIns; rw [h]; rfl
theorem instr_no {N : List UInt8} {rest : List (List UInt8)} (h : Cd.findOp N = none) : Cd.instr N rest = none := by unfold Cd.instr; rw [h]
theorem instr_len {N : List UInt8} {rest : List (List UInt8)} {k : Nat} (h : Cd.findOp N = some k) (hl : rest.length ≠ (Cd.opn (k : Int)).form.length) : Cd.instr N rest = none := by unfold Cd.instr; rw [h]; simp only; rw [if_neg hl]
theorem instr_vals {N : List UInt8} {rest : List (List UInt8)} {k : Nat} {o : Cd.Opn} (h : Cd.findOp N = some k) (ho : Cd.opn (k : Int) = o) (hl : rest.length = o.form.length) : Cd.instr N rest = Cd.vals o rest k := by subst ho; unfold Cd.instr; rw [h]; simp only; rw [if_pos hl]
theorem vals_no {o : Cd.Opn} {rest : List (List UInt8)} {k i : Nat} (hi : i < 3) (h : Cd.valAt o rest i = none) : Cd.vals o rest k = none := by
  unfold Cd.vals
  rcases (show i = 0 ∨ i = 1 ∨ i = 2 by omega) with rfl | rfl | rfl
  · rw [h]
  · rw [h]; cases Cd.valAt o rest 0 <;> rfl
  · rw [h]; cases Cd.valAt o rest 0 <;> cases Cd.valAt o rest 1 <;> rfl
theorem vals_yes {o : Cd.Opn} {rest : List (List UInt8)} {k : Nat} {a b c : Int} (h0 : Cd.valAt o rest 0 = some a) (h1 : Cd.valAt o rest 1 = some b) (h2 : Cd.valAt o rest 2 = some c) : Cd.vals o rest k = some ⟨(k : Int), a, b, c⟩ := by unfold Cd.vals; rw [h0, h1, h2]
theorem valAt_in {nm f : ByteArray} {ls ms : Int} {rest : List (List UInt8)} {i : Nat} (hi : i < f.size) (hl : i < rest.length) : Cd.valAt ⟨nm.data.toList, f.data.toList, ls, ms⟩ rest i = Cd.readOp f[i] rest[i] := by
  unfold Cd.valAt
  simp only
  rw [if_pos (by rw [← Lib.size_eq]; exact hi), getD_str hi, Cd.getD_at _ _ hl]
theorem valAt_out {nm f : ByteArray} {ls ms : Int} {rest : List (List UInt8)} {i : Nat} (hi : ¬ i < f.size) : Cd.valAt ⟨nm.data.toList, f.data.toList, ls, ms⟩ rest i = some 0 := by
  unfold Cd.valAt
  simp only
  rw [if_neg (by rw [← Lib.size_eq]; exact hi)]
/-- The operands ahead of j have been read; the others are 0. -/
def readTo (o : Cd.Opn) (rest : List (List UInt8)) (a b c : Int) (j : Nat) : Prop :=
  ((0 < j → Cd.valAt o rest 0 = some a) ∧ (¬ 0 < j → a = 0)) ∧ ((1 < j → Cd.valAt o rest 1 = some b) ∧ (¬ 1 < j → b = 0)) ∧ ((2 < j → Cd.valAt o rest 2 = some c) ∧ (¬ 2 < j → c = 0))
theorem readTo_end {nm f : ByteArray} {ls ms : Int} {rest : List (List UInt8)} {a b c : Int} (h : readTo ⟨nm.data.toList, f.data.toList, ls, ms⟩ rest a b c f.size) (k : Nat) : Cd.vals ⟨nm.data.toList, f.data.toList, ls, ms⟩ rest k = some ⟨(k : Int), a, b, c⟩ := by
  obtain ⟨⟨h0, h0'⟩, ⟨h1, h1'⟩, ⟨h2, h2'⟩⟩ := h
  apply vals_yes
  · by_cases g : 0 < f.size
    · exact h0 g
    · rw [valAt_out g, h0' g]
  · by_cases g : 1 < f.size
    · exact h1 g
    · rw [valAt_out g, h1' g]
  · by_cases g : 2 < f.size
    · exact h2 g
    · rw [valAt_out g, h2' g]

set_option maxRecDepth 100000 in
set_option maxHeartbeats 4000000 in
theorem readInstruction_any (b base : Nat) (s : Cd.St) (N : List UInt8) (E : Option Addr) (q c0 : Nat) (rest : List (List UInt8)) (w : World) (hr : RdC w base b s) (hs : Strs w w.heap.size E q rest) (hq : q ≤ 9223372036854775807) (hw : ∀ x ∈ rest, x.length ≤ 4096) (hcl : s.prog.code.length ≤ 1000000) (hL : Laid w) (hO : LaidO w) :
    Calls Tryz.prog 75 #[.pointer (some ⟨b, 0, none⟩), .string ⟨N.toArray⟩, .slice E q c0] w (ReadPost' (Cd.readIns s N rest) base b w) := by
  obtain ⟨A, n, c, D, m, d, h⟩ := hr
  have hbase := h.base_le
  have hlen := hs.len
  have HOw := hide hO
  cases hf : Cd.findOp N with
  | none =>
    have HN : Hid (Cd.readIns s N rest = none) := hide (rdIns_none (instr_no hf))
    have HF := hide hf
    clear hf h hs hw hL hO
    go_enter Tryz.func75, Tryz.ntmps75
    go_wp2_with fail
    refine (findOperation_any N _ HOw.out).mono ?_
    rintro e w1 ⟨rfl, hb1⟩
    rw [HF.out]
    simp only [Option.getD_none, Option.isSome_none]
    have hfin := Bel.of (b := b) (hb1.mono hbase)
    go_wp2
    go_ret
    exact ReadPost'.no HN.out rfl hfin
  | some k =>
    have hk := findOp_lt hf
    obtain ⟨nm, f, ls, ms, ho, hf3, hnm5, hall⟩ := opn_open hk
    have HF := hide hf
    have HA := hide hall
    have hk13 : (k : Int) < 13 := by omega
    by_cases hql : q = f.size
    · have HI : Hid (Cd.instr N rest = Cd.vals ⟨nm.data.toList, f.data.toList, ls, ms⟩ rest k) := hide (instr_vals hf ho (by rw [hlen, hql, Lib.size_eq]))
      have HH := hide h
      have HL := hide hL
      have HW : Hid (∀ i (hi : i < rest.length), rest[i].length ≤ 4096) := hide (fun i hi => hw _ (List.getElem_mem hi))
      have eqf : ¬ ¬ ((q : Int) = (f.size : Int)) := by omega
      clear hf hall ho h hw hL hO
      subst hql
      go_enter Tryz.func75, Tryz.ntmps75
      go_wp2_with fail
      refine (findOperation_any N _ HOw.out).mono ?_
      rintro e w1 ⟨rfl, hb1⟩
      rw [HF.out]
      simp only [Option.getD_some, Option.isSome_some]
      obtain ⟨c0', c1, c2, c3⟩ := HA.out _ (HOw.out.below hb1)
      have OV := Obl.make w1 88 #[.int .i64 0, .int .i64 0, .int .i64 0]
      have hbv := hb1.alloc hb1.size (.cells #[.int .i64 0, .int .i64 0, .int .i64 0] 88)
      have hgv := hb1.size
      have HT0 : Hid (readTo ⟨nm.data.toList, f.data.toList, ls, ms⟩ rest 0 0 0 0) := hide ⟨⟨by omega, fun _ => rfl⟩, ⟨by omega, fun _ => rfl⟩, ⟨by omega, fun _ => rfl⟩⟩
      go_wp2_with fail
      generalize w1.heap.size = gv at *
      generalize w1.alloc (.cells #[.int .i64 0, .int .i64 0, .int .i64 0] 88) = w2 at *
      clear c0' c1 c2 c3 hb1
      go_loopw [31] (fun s31 wr => ∃ (j : Nat) (va vb vc : Int), s31 = .int .i64 (j : Int) ∧ j ≤ f.size ∧ Hid (readTo ⟨nm.data.toList, f.data.toList, ls, ms⟩ rest va vb vc j) ∧ Obl wr gv 88 #[.int .i64 va, .int .i64 vb, .int .i64 vc] ∧ Below w.heap.size w wr) (fun s31 _ => f.size - (intOf s31).toNat)
      case atStart => exact ⟨0, 0, 0, 0, rfl, by omega, HT0, OV, hbv⟩
      case round =>
        clear HT0 OV hbv
        obtain ⟨j, va, vb, vc, rfl, hj, HT, OV, hb⟩ := hrel
        have hsz := hb.size
        by_cases hlt : j < f.size
        · obtain ⟨be, oe, hjl, rfl, hbe, hce⟩ := (hs.below hb).at_ hlt
          have HVA := hide (valAt_in (nm := nm) (ls := ls) (ms := ms) hlt hjl)
          have hxs : (⟨rest[j].toArray⟩ : ByteArray).size ≤ 1048576 := by rw [ba_size]; have := HW.out j hjl; omega
          have HLr := hide (HL.out.below hb)
          obtain ⟨c0', c1, c2, c3⟩ := HA.out _ (HOw.out.below hb)
          generalize rest[j] = x at *
          rcases (show j = 0 ∨ j = 1 ∨ j = 2 by omega) with rfl | rfl | rfl
          · rw [Nat.add_zero] at hce
            cases hro : Cd.readOp f[0] x with
            | none =>
              have HN : Hid (Cd.readIns s N rest = none) := hide (rdIns_none (by rw [HI.out]; exact vals_no (i := 0) (by omega) (by rw [HVA.out]; exact hro)))
              have HO := hide hro
              clear hro
              go_wp2_with fail
              refine (readOperand_any f[0] ⟨x.toArray⟩ _ hxs HLr.out).mono ?_
              rintro e w5 ⟨rfl, hb5⟩
              rw [show (⟨x.toArray⟩ : ByteArray).data.toList = x from rfl, HO.out]
              simp only [Option.getD_none, Option.isSome_none]
              have O5 := OV.below hb5 OV.lt
              have p0 := O5.cell 0
              have z0 := O5.free 0
              simp at p0
              have hfin := Bel.of (b := b) (((hb.trans (hb5.mono hsz)).setCell (p := ⟨gv, 0, none⟩) hgv (.int .i64 0)).mono hbase)
              go_wp2
              go_ret
              exact ReadPost'.no HN.out rfl hfin
            | some v =>
              have HO := hide hro
              clear hro
              have HT2 : Hid (readTo ⟨nm.data.toList, f.data.toList, ls, ms⟩ rest v vb vc 1) := hide ⟨⟨fun _ => HVA.out.trans HO.out, by omega⟩, ⟨by omega, fun _ => HT.out.2.1.2 (by omega)⟩, ⟨by omega, fun _ => HT.out.2.2.2 (by omega)⟩⟩
              go_wp2_with fail
              refine (readOperand_any f[0] ⟨x.toArray⟩ _ hxs HLr.out).mono ?_
              rintro e w5 ⟨rfl, hb5⟩
              rw [show (⟨x.toArray⟩ : ByteArray).data.toList = x from rfl, HO.out]
              simp only [Option.getD_some, Option.isSome_some]
              have O5 := OV.below hb5 OV.lt
              have p0 := O5.cell 0
              have z0 := O5.free 0
              simp at p0
              have hb6 := (hb.trans (hb5.mono hsz)).setCell (p := ⟨gv, 0, none⟩) hgv (.int .i64 v)
              have O6 : Obl (w5.setCell ⟨gv, 0, none⟩ (.int .i64 v)) gv 88 #[.int .i64 v, .int .i64 vb, .int .i64 vc] := O5.put 0 (.int .i64 v)
              go_wp2
              go_roundw
              case rel => exact ⟨1, v, vb, vc, rfl, by omega, HT2, O6, hb6⟩
              case measure => simp [intOf]; omega
          · skip
            cases hro : Cd.readOp f[1] x with
            | none =>
              have HN : Hid (Cd.readIns s N rest = none) := hide (rdIns_none (by rw [HI.out]; exact vals_no (i := 1) (by omega) (by rw [HVA.out]; exact hro)))
              have HO := hide hro
              clear hro
              go_wp2_with fail
              refine (readOperand_any f[1] ⟨x.toArray⟩ _ hxs HLr.out).mono ?_
              rintro e w5 ⟨rfl, hb5⟩
              rw [show (⟨x.toArray⟩ : ByteArray).data.toList = x from rfl, HO.out]
              simp only [Option.getD_none, Option.isSome_none]
              have O5 := OV.below hb5 OV.lt
              have p0 := O5.cell 1
              have z0 := O5.free 1
              simp at p0
              have hfin := Bel.of (b := b) (((hb.trans (hb5.mono hsz)).setCell (p := ⟨gv, 1, none⟩) hgv (.int .i64 0)).mono hbase)
              go_wp2
              go_ret
              exact ReadPost'.no HN.out rfl hfin
            | some v =>
              have HO := hide hro
              clear hro
              have HT2 : Hid (readTo ⟨nm.data.toList, f.data.toList, ls, ms⟩ rest va v vc 2) := hide ⟨⟨fun _ => HT.out.1.1 (by omega), by omega⟩, ⟨fun _ => HVA.out.trans HO.out, by omega⟩, ⟨by omega, fun _ => HT.out.2.2.2 (by omega)⟩⟩
              go_wp2_with fail
              refine (readOperand_any f[1] ⟨x.toArray⟩ _ hxs HLr.out).mono ?_
              rintro e w5 ⟨rfl, hb5⟩
              rw [show (⟨x.toArray⟩ : ByteArray).data.toList = x from rfl, HO.out]
              simp only [Option.getD_some, Option.isSome_some]
              have O5 := OV.below hb5 OV.lt
              have p0 := O5.cell 1
              have z0 := O5.free 1
              simp at p0
              have hb6 := (hb.trans (hb5.mono hsz)).setCell (p := ⟨gv, 1, none⟩) hgv (.int .i64 v)
              have O6 : Obl (w5.setCell ⟨gv, 1, none⟩ (.int .i64 v)) gv 88 #[.int .i64 va, .int .i64 v, .int .i64 vc] := O5.put 1 (.int .i64 v)
              go_wp2
              go_roundw
              case rel => exact ⟨2, va, v, vc, rfl, by omega, HT2, O6, hb6⟩
              case measure => simp [intOf]; omega
          · skip
            cases hro : Cd.readOp f[2] x with
            | none =>
              have HN : Hid (Cd.readIns s N rest = none) := hide (rdIns_none (by rw [HI.out]; exact vals_no (i := 2) (by omega) (by rw [HVA.out]; exact hro)))
              have HO := hide hro
              clear hro
              go_wp2_with fail
              refine (readOperand_any f[2] ⟨x.toArray⟩ _ hxs HLr.out).mono ?_
              rintro e w5 ⟨rfl, hb5⟩
              rw [show (⟨x.toArray⟩ : ByteArray).data.toList = x from rfl, HO.out]
              simp only [Option.getD_none, Option.isSome_none]
              have O5 := OV.below hb5 OV.lt
              have p0 := O5.cell 2
              have z0 := O5.free 2
              simp at p0
              have hfin := Bel.of (b := b) (((hb.trans (hb5.mono hsz)).setCell (p := ⟨gv, 2, none⟩) hgv (.int .i64 0)).mono hbase)
              go_wp2
              go_ret
              exact ReadPost'.no HN.out rfl hfin
            | some v =>
              have HO := hide hro
              clear hro
              have HT2 : Hid (readTo ⟨nm.data.toList, f.data.toList, ls, ms⟩ rest va vb v 3) := hide ⟨⟨fun _ => HT.out.1.1 (by omega), by omega⟩, ⟨fun _ => HT.out.2.1.1 (by omega), by omega⟩, ⟨fun _ => HVA.out.trans HO.out, by omega⟩⟩
              go_wp2_with fail
              refine (readOperand_any f[2] ⟨x.toArray⟩ _ hxs HLr.out).mono ?_
              rintro e w5 ⟨rfl, hb5⟩
              rw [show (⟨x.toArray⟩ : ByteArray).data.toList = x from rfl, HO.out]
              simp only [Option.getD_some, Option.isSome_some]
              have O5 := OV.below hb5 OV.lt
              have p0 := O5.cell 2
              have z0 := O5.free 2
              simp at p0
              have hb6 := (hb.trans (hb5.mono hsz)).setCell (p := ⟨gv, 2, none⟩) hgv (.int .i64 v)
              have O6 : Obl (w5.setCell ⟨gv, 2, none⟩ (.int .i64 v)) gv 88 #[.int .i64 va, .int .i64 vb, .int .i64 v] := O5.put 2 (.int .i64 v)
              go_wp2
              go_roundw
              case rel => exact ⟨3, va, vb, v, rfl, by omega, HT2, O6, hb6⟩
              case measure => simp [intOf]; omega
        · have hjf : j = f.size := by omega
          subst hjf
          have HV : Hid (Cd.readIns s N rest = some ⟨s.paged, ⟨s.prog.code ++ [⟨(k : Int), va, vb, vc⟩], s.prog.strs, s.prog.pages⟩⟩) := hide (rdIns_some (by rw [HI.out]; exact readTo_end HT.out k))
          have HP := hide (part_ins s ⟨(k : Int), va, vb, vc⟩)
          have h := HH.out.below hb
          have hnl := own_inss h.2.2.1
          have k0 := h.1.cell 0
          have v0 := OV.cell 0
          have v1 := OV.cell 1
          have v2 := OV.cell 2
          simp at k0 v0 v1 v2
          have hbx := hb.mono hbase
          clear HT hs hb HH
          generalize hpt : (Cd.part s : Int) = pt at *
          go_wp2_with fail
          refine region_C (by kernel_rfl) wr.drew.heap.size [11, 14, 18] ?_
          have hb0 : Below base w wr.drew := hbx.drew
          replace h : RdP wr.drew base b #[.slice A n c, .slice D m d, .int .i64 s.prog.pages, .int .i64 pt] A n c D m d s.prog.code s.prog.strs := h
          have hlt0 : b < wr.drew.heap.size := h.1.lt
          have hgl : gv < wr.drew.heap.size := OV.lt
          have hbase0 : base ≤ wr.drew.heap.size := h.base_le
          replace k0 : wr.drew.cell? ⟨b, 0, none⟩ = some (.slice A n c) := k0
          replace v0 : wr.drew.cell? ⟨gv, 0, none⟩ = some (.int .i64 va) := v0
          replace v1 : wr.drew.cell? ⟨gv, 1, none⟩ = some (.int .i64 vb) := v1
          replace v2 : wr.drew.cell? ⟨gv, 2, none⟩ = some (.int .i64 vc) := v2
          clear OV hbx
          generalize wr.drew = w0 at *
          refine takeX 0 rfl (by kernel_rfl) (fun _ _ _ h => h) (by rfl) (by intro w'; go_simp; try with_reducible rfl) ?_
          refine takeX 1 rfl (by kernel_rfl) (fun _ _ _ h => h) (by rfl) (by intro w'; go_simp; try with_reducible rfl) ?_
          refine takeX 2 rfl (by kernel_rfl) (fun _ _ _ h => h) (by rfl) (by intro w'; go_simp; try with_reducible rfl) ?_
          refine takeX 3 rfl (by kernel_rfl) (fun _ _ _ h => h) (by rfl) (by intro w'; go_simp; try with_reducible rfl) ?_
          refine takeX 4 rfl (by kernel_rfl) (fun _ _ _ h => h) (by rfl) (by intro w'; go_simp; try with_reducible rfl) ?_
          refine takeX 5 rfl (by kernel_rfl) (fun _ _ _ h => h) (by rfl) (by intro w'; go_simp; try with_reducible rfl) ?_
          refine takeC 6 [6, 11, 12, 13, 14, 15, 16, 17, 18] rfl (by kernel_rfl) (fun _ _ _ h => h) (by rfl) (by intro w' hg; have g0 := (hg.cell (p := ⟨b, 0, none⟩) hlt0).trans k0; go_simp; try with_reducible rfl) ?_
          refine takeX 7 rfl (by kernel_rfl) (fun _ _ _ h => h) (by rfl) (by intro w'; go_simp; try with_reducible rfl) ?_
          refine takeC 8 [8, 9, 10, 11, 12, 13, 14, 15, 16, 17, 18] rfl (by kernel_rfl) (fun _ _ _ h => h) (by rfl) (by intro w' hg; have g0 := (hg.cell (p := ⟨gv, 0, none⟩) hgl).trans v0; have g1 := (hg.cell (p := ⟨gv, 1, none⟩) hgl).trans v1; have g2 := (hg.cell (p := ⟨gv, 2, none⟩) hgl).trans v2; go_simp; try with_reducible rfl) ?_
          refine onlyC 9 rfl (by kernel_rfl) (by rfl) ?_
          intro K hK
          go_simp
          refine (makeInstr_any (k : Int) va vb vc _).mono ?_
          rintro e w1 ⟨rfl, hb1⟩
          unfold ia
          simp only
          refine hK _ _ (fun _ => hb1) ?_
          clear hK K
          have h1 := h.below hb1
          have hbb1 := hb0.trans (hb1.mono hbase0)
          have hs01 : w0.heap.size ≤ w1.heap.size := hb1.size
          refine onlyC 10 rfl (by kernel_rfl) (by rfl) ?_
          intro K hK
          go_simp
          refine hK _ _ (fun _ => (Below.refl _ _).alloc hs01 _) ?_
          clear hK K
          have h2 := h1.alloc (.cells #[.int .i64 (k : Int), .int .i64 va, .int .i64 vb, .int .i64 vc] 32)
          have hb2 := hbb1.alloc h1.base_le (.cells #[.int .i64 (k : Int), .int .i64 va, .int .i64 vb, .int .i64 vc] 32)
          refine onlyC 11 rfl (by kernel_rfl) (by rfl) ?_
          intro K hK
          refine wp_append_rd (.tmp 58) (.tmp 62) _ rfl insTy (A := A) (n := n) (c := c) rfl h2.2.2.1 (B := w1.heap.size + 1) (S := some ⟨w1.heap.size, 0, none⟩) (m := 1) (d := 1) (news := [.int .i64 (k : Int), .int .i64 va, .int .i64 vb, .int .i64 vc]) rfl (Row.four w1 ⟨(k : Int), va, vb, vc⟩ _) (by simp [Value.oneCell']) (by unfold maxLen; omega) (by omega) h2.base_le ?_
          intro A3 c3 w3 hown3 hgrow3 hat3
          rw [iv_snoc s.prog.code ⟨(k : Int), va, vb, vc⟩] at hown3
          have hb3 := below_own hb2 h2.2.2.1 hgrow3 h2.base_le
          have h3 := h2.withCode hgrow3 hown3
          refine hK _ _ (fun h => absurd h (by decide)) ?_
          clear hK K
          have p3 := h3.1.cell 3
          have z3 := h3.1.free 3
          simp at p3
          refine takeX 12 rfl (by kernel_rfl) (fun _ _ _ h => h) (by rfl) (by intro w'; go_simp; try with_reducible rfl) ?_
          refine takeX 13 rfl (by kernel_rfl) (fun _ _ _ h => h) (by rfl) (by intro w'; go_simp; try with_reducible rfl) ?_
          refine onlyC 14 rfl (by kernel_rfl) (by rfl) ?_
          intro K hK
          go_simp
          refine hK _ _ (fun h => absurd h (by decide)) ?_
          clear hK K
          have h4 := h3.put 3 (.int .i64 2)
          have hb4 := (Bel.of (b := b) hb3).put 3 (.int .i64 2)
          generalize w3.setCell ⟨b, 3, none⟩ (.int .i64 2) = w4 at *
          have p1 := h4.1.cell 0
          have z1 := h4.1.free 0
          simp at p1
          refine takeX 15 rfl (by kernel_rfl) (fun _ _ _ h => h) (by rfl) (by intro w'; go_simp; try with_reducible rfl) ?_
          refine takeX 16 rfl (by kernel_rfl) (fun _ _ _ h => h) (by rfl) (by intro w'; go_simp; try with_reducible rfl) ?_
          refine takeX 17 rfl (by kernel_rfl) (fun _ _ _ h => h) (by rfl) (by intro w'; go_simp; try with_reducible rfl) ?_
          refine onlyC 18 rfl (by kernel_rfl) (by rfl) ?_
          intro K hK
          go_simp
          refine hK _ _ (fun h => absurd h (by decide)) ?_
          clear hK K
          have h5 := h4.put 0 (.slice A3 (n + 1) c3)
          have hb5 := hb4.put 0 (.slice A3 (n + 1) c3)
          generalize w4.setCell ⟨b, 0, none⟩ (.slice A3 (n + 1) c3) = w5 at *
          refine doneC (by kernel_rfl) ?_
          go_simp
          have HR : Hid (RdC w5 base b ⟨s.paged, ⟨s.prog.code ++ [⟨(k : Int), va, vb, vc⟩], s.prog.strs, s.prog.pages⟩⟩) := hide ⟨A3, n + 1, c3, D, m, d, by rw [HP.out]; exact h5⟩
          clear h5 h4 h3 h2 h1 h
          go_wp2
          go_ret
          exact ReadPost'.yes HV.out rfl hb5 HR.out
    · have HN : Hid (Cd.readIns s N rest = none) := hide (rdIns_none (instr_len hf (by rw [hlen, ho]; simp only; rw [← Lib.size_eq]; exact hql)))
      have eqf : ¬ (q : Int) = (f.size : Int) := by omega
      have eqf' : ((q : Int) == (f.size : Int)) = false := by simp; omega
      clear hf hall ho h hs hw hL hO
      go_enter Tryz.func75, Tryz.ntmps75
      go_wp2_with fail
      refine (findOperation_any N _ HOw.out).mono ?_
      rintro e w1 ⟨rfl, hb1⟩
      rw [HF.out]
      simp only [Option.getD_some, Option.isSome_some]
      obtain ⟨c0', c1, c2, c3⟩ := HA.out _ (HOw.out.below hb1)
      have hfin := Bel.of (b := b) (hb1.mono hbase)
      go_wp2
      go_ret
      exact ReadPost'.no HN.out rfl hfin
end Go.Proofs.YtfjekckcpkkdiaaGreatDoor
