/- Layer 4, the document's own answer to Parse: a contract. -/
import Derived.Test.YtfjekckcpkkdiaaGreatDoorCodeParse
import Derived.Test.YtfjekckcpkkdiaaGreatDoorCodeRefIns
import Derived.Test.YtfjekckcpkkdiaaGreatDoorCodeRefCheck2
namespace Go.Proofs.YtfjekckcpkkdiaaGreatDoor
open Go.RowKit

/-- The program's block holds 'cells'; the rows of instructions and strings are its own. -/
def RqP (w : World) (base b : Nat) (cells : Array Value) (A : Option Addr) (n c : Nat) (D : Option Addr) (m d : Nat) (code : List Cd.Ins) (strs : List (List UInt8)) : Prop :=
  Obl w b 25 cells ∧ base ≤ w.heap.size ∧ w.ownsRow base 32 4 (.slice A n c) n (iv code) ∧ w.ownsRow base 9 1 (.slice D m d) m (sv strs)
section
variable {w w' : World} {base b n c m d : Nat} {cells : Array Value} {A D : Option Addr} {code : List Cd.Ins} {strs : List (List UInt8)}
theorem RqP.below (h : RqP w base b cells A n c D m d code strs) (hb : Below w.heap.size w w') : RqP w' base b cells A n c D m d code strs := ⟨h.1.below hb h.1.lt, Nat.le_trans h.2.1 hb.size, own_below h.2.2.1 hb, own_below h.2.2.2 hb⟩
theorem RqP.alloc (h : RqP w base b cells A n c D m d code strs) (o : Obj) : RqP (w.alloc o) base b cells A n c D m d code strs := h.below ((Below.refl _ _).alloc (Nat.le_refl _) _)
theorem RqP.put (h : RqP w base b cells A n c D m d code strs) (i : Nat) (u : Value) : RqP (w.setCell ⟨b, i, none⟩ u) base b (cells.setIfInBounds i u) A n c D m d code strs := by
  refine ⟨h.1.put i u, by simpa [World.setCell] using h.2.1, ownsRow_setCell_other h.2.2.1 ?_ u, ownsRow_setCell_other h.2.2.2 ?_ u⟩
  · rw [ownBlock_slice]; exact fun e => h.1.apart h.2.2.1 (by decide) e.symm
  · rw [ownBlock_slice]; exact fun e => h.1.apart h.2.2.2 (by decide) e.symm
theorem RqP.withStrs (h : RqP w base b cells A n c D m d code strs) (hg : w.grownBy w' (blk D)) {D' : Option Addr} {m' d' : Nat} {strs' : List (List UInt8)} (hown : w'.ownsRow base 9 1 (.slice D' m' d') m' (sv strs')) : RqP w' base b cells A n c D' m' d' code strs' :=
  ⟨h.1.grown hg (h.1.apart h.2.2.2 (by decide)), Nat.le_trans h.2.1 hg.size, h.2.2.1.kept hg (own_apart h.2.2.1 h.2.2.2 (by decide)), hown⟩
theorem RqP.withCode (h : RqP w base b cells A n c D m d code strs) (hg : w.grownBy w' (blk A)) {A' : Option Addr} {n' c' : Nat} {code' : List Cd.Ins} (hown : w'.ownsRow base 32 4 (.slice A' n' c') n' (iv code')) : RqP w' base b cells A' n' c' D m d code' strs :=
  ⟨h.1.grown hg (h.1.apart h.2.2.1 (by decide)), Nat.le_trans h.2.1 hg.size, hown, h.2.2.2.kept hg (own_apart h.2.2.2 h.2.2.1 (by decide))⟩
end
def RqC (w : World) (base b : Nat) (p : Cd.Pr) : Prop := ∃ A n c D m d, RqP w base b #[.slice A n c, .slice D m d, .int .i64 p.pages] A n c D m d p.code p.strs

theorem part_zero_iff {s : Cd.St} : Cd.part s = 0 ↔ s.prog.code = [] ∧ s.paged = false ∧ s.prog.strs = [] := by
  constructor
  · exact part_zero
  · rintro ⟨h1, h2, h3⟩
    unfold Cd.part
    rw [if_neg (by simp [h1]), if_neg (by simp [h2, h3])]
theorem part_two_iff {s : Cd.St} : Cd.part s ≠ 2 ↔ s.prog.code = [] := by
  constructor
  · exact part_two
  · intro h
    unfold Cd.part
    rw [if_neg (by simp [h])]
    split <;> omega
theorem instr_pages (rest : List (List UInt8)) : Cd.instr Cd.pagesW rest = none := instr_no (by decide)
theorem instr_string (rest : List (List UInt8)) : Cd.instr Cd.stringW rest = none := instr_no (by decide)
theorem getD_last {M : List UInt8} {rest : List (List UInt8)} (h : rest.length = 1) : (M :: rest)[rest.length]'(by simp) = rest.getD 0 [] := by
  rcases rest with _ | ⟨y, _ | ⟨z, r⟩⟩
  · simp at h
  · rfl
  · simp at h
theorem Strs.last {w : World} {B b o : Nat} {M : List UInt8} {rest : List (List UInt8)} (h : Strs w B (some ⟨b, o, none⟩) (rest.length + 1) (M :: rest)) : w.cell? ⟨b, o + rest.length, none⟩ = some (.string ⟨((M :: rest)[rest.length]'(by simp)).toArray⟩) := by
  obtain ⟨b', o', hl', e, hb, hc⟩ := h.at_ (k := rest.length) (by omega)
  simp only [Option.some.injEq, Addr.mk.injEq, and_true] at e
  obtain ⟨rfl, rfl⟩ := e
  exact hc

set_option maxRecDepth 100000 in
set_option maxHeartbeats 8000000 in
theorem ref4Parse_any (s : ByteArray) (w : World) (hs : s.size ≤ 9223372036854775807) :
    Calls Tryz.prog 18 #[.string s] w (ParsePost (Cd.parse s.data.toList) w) := by
  have hsz := Lib.size_eq s
  by_cases h1 : 65536 < s.size
  · have HN : Hid (Cd.parse s.data.toList = (Cd.zero, 0, 3)) := hide (Cd.parse_long (by omega))
    have OR := Obl.make w 25 #[.slice none 0 0, .slice none 0 0, .int .i64 0]
    have hb := (Below.refl w.heap.size w).alloc (Nat.le_refl _) (.cells #[.slice none 0 0, .slice none 0 0, .int .i64 0] 25)
    clear hsz
    go_enter Tryz.func18, Tryz.ntmps18
    go_wp2
    refine bodyPost_ret (results_cell_tt rfl _ (b := w.heap.size) rfl OR Tryz.underlying25 rfl prSize) rfl ?_
    exact ParsePost.zero HN.out rfl hb
  · have HN : Hid (Cd.parse s.data.toList = Cd.parseG Cd.start 0 (Wd.lines s.data.toList)) := hide (Cd.parse_lines (by omega))
    have OR := (Obl.make w 25 #[.slice none 0 0, .slice none 0 0, .int .i64 0]).alloc (.cells #[.slice none 0 0, .slice none 0 0, .int .i64 0] 25)
    have hb0 := ((Below.refl w.heap.size w).alloc (Nat.le_refl _) (.cells #[.slice none 0 0, .slice none 0 0, .int .i64 0] 25)).alloc (by simp) (.cells #[.slice none 0 0, .slice none 0 0, .int .i64 0] 25)
    have OB : Obl ((w.alloc (.cells #[.slice none 0 0, .slice none 0 0, .int .i64 0] 25)).alloc (.cells #[.slice none 0 0, .slice none 0 0, .int .i64 0] 25)) (w.heap.size + 1) 25 #[.slice none 0 0, .slice none 0 0, .int .i64 0] := by
      simpa using Obl.make (w.alloc (.cells #[.slice none 0 0, .slice none 0 0, .int .i64 0] 25)) 25 #[.slice none 0 0, .slice none 0 0, .int .i64 0]
    have HLe := hide (Cd.lines_le s.data.toList)
    have HLn := hide (Wd.lines_len [] s.data.toList)
    have HSz := hide hsz
    clear hsz
    go_enter Tryz.func18, Tryz.ntmps18
    go_wp2_with fail
    refine (refLines_any s _ (by omega)).mono ?_
    rintro e w1 ⟨A1, c1, rfl, hc1, hc63, hS, hb1⟩
    have hln : (Wd.lines s.data.toList).length ≤ 65537 := by have := HLn.out; rw [← HSz.out] at this; unfold Wd.lines; omega
    have HLe2 : Hid (∀ i (h : i < (Wd.lines s.data.toList).length), (Wd.lines s.data.toList)[i].length ≤ 1048576) := hide (fun i h => by have := HLe.out _ (List.getElem_mem h); rw [← HSz.out] at this; omega)
    generalize Wd.lines s.data.toList = ls at *
    have hsz1 := hb1.size
    simp at hsz1
    have OR1 := OR.below hb1 OR.lt
    have OB1 := OB.below hb1 OB.lt
    have hbw1 := hb0.trans (hb1.mono (by simp; omega))
    have hA1 : ∀ bb o, A1 = some ⟨bb, o, none⟩ → ls ≠ [] → bb ≠ w.heap.size + 1 := by
      rintro bb o rfl hne rfl
      have h0 : 0 < ls.length := List.length_pos_iff.2 hne
      obtain ⟨b', o', hl0, e', _, hc0⟩ := hS.at_ (k := 0) h0
      simp only [Option.some.injEq, Addr.mk.injEq, and_true] at e'
      obtain ⟨rfl, rfl⟩ := e'
      rw [OB1.cell] at hc0
      rcases o with _ | _ | _ | o
      · simp at hc0
      · simp at hc0
      · simp at hc0
      · simp at hc0
    clear OR OB hb0 hb1
    have hR0 : RqC w1 w1.heap.size (w.heap.size + 1) Cd.start.prog := ⟨none, 0, 0, none, 0, 0, OB1, Nat.le_refl _, World.ownsRow_nil _ _ _ _, World.ownsRow_nil _ _ _ _⟩
    have HG0 : Hid (Cd.parse s.data.toList = Cd.parseG Cd.start 0 (ls.drop 0)) := hide HN.out
    have HS0 : Hid (Cd.Small Cd.start 0) := hide ⟨by simp [Cd.start, Cd.zero], by simp [Cd.start, Cd.zero], by simp [Cd.start, Cd.zero]⟩
    go_wp2_with fail
    clear OB1 HN
    go_loopw [6, 24] (fun s6 s24 wr => ∃ (i : Nat) (st : Cd.St), s6 = .bool st.paged ∧ s24 = .int .i64 (i : Int) ∧ i ≤ ls.length ∧ RqC wr w1.heap.size (w.heap.size + 1) st.prog ∧ Bel w1.heap.size (w.heap.size + 1) w1 wr ∧ Hid (Cd.parse s.data.toList = Cd.parseG st i (ls.drop i)) ∧ Hid (Cd.Small st i)) (fun _ s24 _ => ls.length - (intOf s24).toNat)
    case atStart => exact ⟨0, Cd.start, rfl, rfl, by omega, hR0, Bel.of (Below.refl _ _), HG0, HS0⟩
    case round =>
      clear hR0 HG0 HS0
      obtain ⟨i, st, rfl, rfl, hi, hR, hb, HG, HS⟩ := hrel
      have hbw : Below w.heap.size w wr := hbw1.trans (hb.below (by omega) (by omega))
      have hszr := hbw.size
      have hszb := hb.size
      have ORr := hb.obl OR1 (by omega) (by omega)
      by_cases hlt : i < ls.length
      · obtain ⟨bl0, ol0, hil, rfl, hbl0, hcl0⟩ := (hb.strs hS (Nat.le_refl _) hA1).at_ hlt
        have HDr := hide (List.drop_eq_getElem_cons hil)
        have hLl := HLe2.out i hil
        generalize ls[i] = L at *
        rcases L with _ | ⟨ch, L'⟩
        · have HG2 : Hid (Cd.parse s.data.toList = Cd.parseG st (i + 1) (ls.drop (i + 1))) := hide (by rw [HG.out, HDr.out, Cd.parseG_ok (line_passed rfl)])
          have HS2 : Hid (Cd.Small st (i + 1)) := hide (Cd.small_line HS.out (line_passed (L := []) rfl))
          go_wp2
          go_roundw
          case rel => exact ⟨i + 1, st, rfl, by go_num, by omega, hR, hb, HG2, HS2⟩
          case measure => simp [intOf]; omega
        · have hLn : ch :: L' ≠ [] := by simp
          have e0 : ((⟨(ch :: L').toArray⟩ : ByteArray).toList.isEmpty) = false := by rw [ba_list]; rfl
          have e0' : ((ch :: L') == []) = false := rfl
          have hsz0 : 0 < (⟨(ch :: L').toArray⟩ : ByteArray).size := by rw [ba_size]; simp
          have hby : (⟨(ch :: L').toArray⟩ : ByteArray)[0]'hsz0 = ch := rfl
          have hne0 : ¬ (⟨(ch :: L').toArray⟩ : ByteArray) = ByteArray.empty := by rintro h; rw [h] at hsz0; simp at hsz0
          have hps : Cd.passed (ch :: L') = decide (ch = 35) := by unfold Cd.passed; simp
          by_cases h35 : ch = 35
          · have HG2 : Hid (Cd.parse s.data.toList = Cd.parseG st (i + 1) (ls.drop (i + 1))) := hide (by rw [HG.out, HDr.out, Cd.parseG_ok (line_passed (by rw [hps]; simpa using h35))])
            have HS2 : Hid (Cd.Small st (i + 1)) := hide (Cd.small_line HS.out (line_passed (L := ch :: L') (by rw [hps]; simpa using h35)))
            have e35 : (((⟨(ch :: L').toArray⟩ : ByteArray)[0]'hsz0).toNat : Int) = 35 := by rw [hby, h35]; rfl
            clear hby hps h35
            generalize (⟨(ch :: L').toArray⟩ : ByteArray) = LB at *
            go_wp2
            go_roundw
            case rel => exact ⟨i + 1, st, rfl, by go_num, by omega, hR, hb, HG2, HS2⟩
            case measure => simp [intOf]; omega
          · have HPs : Hid (Cd.passed (ch :: L') = false) := hide (by rw [hps]; simpa using h35)
            have e35 : ¬ (((⟨(ch :: L').toArray⟩ : ByteArray)[0]'hsz0).toNat : Int) = 35 := by rw [hby]; have := ne_nat h35; rw [show (35 : UInt8).toNat = 35 from rfl] at this; omega
            have hbs : (⟨(ch :: L').toArray⟩ : ByteArray).size ≤ 1048576 := by rw [ba_size]; exact hLl
            have HBl : Hid ((⟨(ch :: L').toArray⟩ : ByteArray).data.toList = ch :: L' ∧ True) := hide ⟨rfl, trivial⟩
            have HWd := hide (Wd.split_words (ch :: L'))
            clear hby hps h35
            generalize (⟨(ch :: L').toArray⟩ : ByteArray) = LB at *
            generalize hL0 : (ch :: L') = L at *
            clear hL0
            cases he : (Wd.split L).2 with
            | succ er =>
              have HE2 : Hid (Cd.parse s.data.toList = (Cd.zero, i + 1, er + 1)) := hide (by rw [HG.out, HDr.out, Cd.parseG_err (line_bad HPs.out (by omega)), he])
              have HE := hide he
              have ene : ¬ (((er + 1 : Nat)) : Int) = 0 := by omega
              clear he
              go_wp2_with fail
              refine (refSplit_any LB _ (by omega)).mono ?_
              rintro e w2 ⟨A2, c2, rfl, hc2, hc263, hS2, hb2⟩
              rw [HBl.out.1, HE.out]
              have hbw2 := hbw.trans (hb2.mono hszr)
              have OR2 := ORr.below hb2 ORr.lt
              have p0 := OR2.cell 0
              have z0 := OR2.free 0
              have p1 := OR2.cell 1
              have z1 := OR2.free 1
              have p2 := OR2.cell 2
              have z2 := OR2.free 2
              simp at p0 p1 p2
              have OR7 : Obl (((w2.setCell ⟨w.heap.size, 0, none⟩ (.slice none 0 0)).setCell ⟨w.heap.size, 1, none⟩ (.slice none 0 0)).setCell ⟨w.heap.size, 2, none⟩ (.int .i64 0)) w.heap.size 25 #[.slice none 0 0, .slice none 0 0, .int .i64 0] := (((OR2.put 0 (.slice none 0 0)).put 1 (.slice none 0 0)).put 2 (.int .i64 0))
              have hb7 := (((hbw2.setCell (p := ⟨w.heap.size, 0, none⟩) (Nat.le_refl _) (.slice none 0 0)).setCell (p := ⟨w.heap.size, 1, none⟩) (Nat.le_refl _) (.slice none 0 0)).setCell (p := ⟨w.heap.size, 2, none⟩) (Nat.le_refl _) (.int .i64 0))
              go_wp2
              refine bodyPost_ret (results_cell_tt rfl _ (b := w.heap.size) rfl OR7 Tryz.underlying25 rfl prSize) rfl ?_
              exact ParsePost.zero HE2.out (by go_num) hb7
            | zero =>
              have hsome := Wd.split_some hLn he
              obtain ⟨M, rest, hNr⟩ : ∃ M rest, (Wd.split L).1 = M :: rest := by
                cases hx : (Wd.split L).1 with
                | nil => exact absurd hx hsome
                | cons M rest => exact ⟨M, rest, rfl⟩
              have hsp : Wd.split L = (M :: rest, 0) := Prod.ext hNr he
              have HSp := hide hsp
              have HWs : Hid (∀ x ∈ rest, x.length ≤ 4096) := hide (fun x hx => HWd.out x (by rw [hNr]; simp [hx]))
              have HW0 : Hid (∀ j (hj : j < (M :: rest).length), (M :: rest)[j].length ≤ 4096) := hide (fun j hj => HWd.out _ (by rw [hNr]; exact List.getElem_mem hj))
              have hrl : rest.length ≤ 64 := by
                have := hsp
                unfold Wd.split at this
                split at this
                · cases this
                · unfold Wd.outcome at this
                  split at this
                  · cases this
                  · split at this
                    · cases this
                    · rename_i h64
                      simp only [Prod.mk.injEq, and_true] at this
                      rw [this] at h64
                      simp only [List.length_cons] at h64
                      omega
              clear he hsome hNr hsp HWd
              go_wp2_with fail
              refine (refSplit_any LB _ (by omega)).mono ?_
              rintro e w2 ⟨A2, cA, rfl, hc2, hc263, hS2, hb2⟩
              rw [HBl.out.1] at hc2 hS2 ⊢
              rw [HSp.out] at hc2 hS2 ⊢
              simp only [List.length_cons] at hc2 hS2 ⊢
              obtain ⟨bl, ol, hl0, rfl, hbl, hcf⟩ := hS2.at_ (k := 0) (by omega)
              simp only [Nat.add_zero, List.getElem_cons_zero] at hcf
              have hcl := hS2.last
              have hlx : (⟨((M :: rest)[rest.length]'(by simp)).toArray⟩ : ByteArray).size ≤ 1048576 := by rw [ba_size]; have := HW0.out rest.length (by simp); omega
              have HLast : Hid (rest.length = 1 → (M :: rest)[rest.length]'(by simp) = rest.getD 0 []) := hide getD_last
              generalize (M :: rest)[rest.length]'(by simp) = lw at *
              have hidx : (rest.length : Int) < (rest.length : Int) + 1 := by omega
              go_wp2_with fail
              refine (refRead_any 110 ⟨lw.toArray⟩ _ hlx).mono ?_
              rintro e w3 ⟨rfl, hb3⟩
              rw [show (⟨lw.toArray⟩ : ByteArray).data.toList = lw from rfl]
              have hb23 := hb2.trans (hb3.mono hb2.size)
              have hbw3 := hbw.trans (hb23.mono hszr)
              have OR3 := ORr.below hb23 ORr.lt
              have hS3 := hS2.below hb3
              replace hS3 : Strs w3 w3.heap.size (some ⟨bl, ol, none⟩) (rest.length + 1) (M :: rest) := hS3.mono hb3.size
              have hblw3 := Nat.lt_of_lt_of_le hbl hb3.size
              have hcf3 := (hb3.cell (p := ⟨bl, ol, none⟩) hbl).trans hcf
              have hBl3 := hb.trans (Bel.of (b := w.heap.size + 1) (hb23.mono hszb))
              obtain ⟨A, n, c, D, m, d, hP⟩ := hR
              replace hP := hP.below hb23
              have k0 := hP.1.cell 0
              have k1 := hP.1.cell 1
              have k2 := hP.1.cell 2
              simp at k0 k1 k2
              have hnl := own_inss hP.2.2.1
              have hml := own_strs hP.2.2.2
              have hcs := HS.out.1
              have hss := HS.out.2.1
              clear hS2 hcl hcf hl0 hb2 hb3 ORr
              generalize hro : Cd.readOp 110 lw = ro at *
              by_cases hMp : M = Cd.pagesW
              · have HIn : Hid (Cd.instr M rest = none) := hide (by rw [hMp]; exact instr_pages rest)
                have m1 : ((⟨M.toArray⟩ : ByteArray).toList == [112, 97, 103, 101, 115]) = true := by rw [hMp, ba_list]; rfl
                have m1' : (M == [112, 97, 103, 101, 115]) = true := by rw [hMp]; rfl
                have m2 : ((⟨M.toArray⟩ : ByteArray).toList == [115, 116, 114, 105, 110, 103]) = false := by rw [hMp, ba_list]; rfl
                have m2' : (M == [115, 116, 114, 105, 110, 103]) = false := by rw [hMp]; rfl
                have HWp : Hid (Cd.readWords st M rest = Cd.readPages st rest) := hide (words_pages rest hMp)
                clear hMp
                by_cases hr1 : rest.length = 1
                · cases ro with
                  | none =>
                    have HRW : Cd.readWords st M rest = none := by rw [HWp.out]; exact rdPages_bad (by rw [← HLast.out hr1]; exact hro)
                    have HE5 : Hid (Cd.parse s.data.toList = (Cd.zero, i + 1, 5)) := hide (by rw [HG.out, HDr.out, Cd.parseG_err (line_no HPs.out HSp.out HRW)])
                    clear HRW
                    have hr2 : ((rest.length : Int) + 1 == 2) = true := by rw [hr1]; rfl
                    have hr2' : (rest.length : Int) + 1 = 2 := by omega
                    clear hro hr1
                    go_wp2_with fail
                    refine (refInstr_any M rest (some ⟨bl, ol, none⟩) cA _ hS3 (by omega) HWs.out).mono ?_
                    rintro e w7 ⟨x, rfl, hx, hb7⟩
                    rw [HIn.out]
                    simp only [Option.isSome_none, ia]
                    clear hx
                    have hbw7 := (hbw3.trans (hb7.mono hbw3.size)).alloc (hbw3.trans (hb7.mono hbw3.size)).size (.cells #[.int .i64 x.op, .int .i64 x.a, .int .i64 x.b, .int .i64 x.c] 32)
                    have OR6 := (OR3.below hb7 OR3.lt).alloc (.cells #[.int .i64 x.op, .int .i64 x.a, .int .i64 x.b, .int .i64 x.c] 32)
                    have p0 := OR6.cell 0
                    have z0 := OR6.free 0
                    have p1 := OR6.cell 1
                    have z1 := OR6.free 1
                    have p2 := OR6.cell 2
                    have z2 := OR6.free 2
                    simp at p0 p1 p2
                    have OR7 : Obl ((((w7.alloc (.cells #[.int .i64 x.op, .int .i64 x.a, .int .i64 x.b, .int .i64 x.c] 32)).setCell ⟨w.heap.size, 0, none⟩ (.slice none 0 0)).setCell ⟨w.heap.size, 1, none⟩ (.slice none 0 0)).setCell ⟨w.heap.size, 2, none⟩ (.int .i64 0)) w.heap.size 25 #[.slice none 0 0, .slice none 0 0, .int .i64 0] := (((OR6.put 0 (.slice none 0 0)).put 1 (.slice none 0 0)).put 2 (.int .i64 0))
                    have hb7 := (((hbw7.setCell (p := ⟨w.heap.size, 0, none⟩) (Nat.le_refl _) (.slice none 0 0)).setCell (p := ⟨w.heap.size, 1, none⟩) (Nat.le_refl _) (.slice none 0 0)).setCell (p := ⟨w.heap.size, 2, none⟩) (Nat.le_refl _) (.int .i64 0))
                    go_wp2
                    refine bodyPost_ret (results_cell_tt rfl _ (b := w.heap.size) rfl OR7 Tryz.underlying25 rfl prSize) rfl ?_
                    exact ParsePost.zero HE5.out (by go_num) hb7
                  | some v =>
                    have hr2 : ((rest.length : Int) + 1 == 2) = true := by rw [hr1]; rfl
                    have hr2' : (rest.length : Int) + 1 = 2 := by omega
                    cases hpg : st.paged with
                    | true =>
                      have HRW : Cd.readWords st M rest = none := by rw [HWp.out]; exact rdPages_no (fun h => by have := (part_zero h.1).2.1; rw [hpg] at this; cases this)
                      have HE5 : Hid (Cd.parse s.data.toList = (Cd.zero, i + 1, 5)) := hide (by rw [HG.out, HDr.out, Cd.parseG_err (line_no HPs.out HSp.out HRW)])
                      clear HRW
                      clear hro hr1 hpg
                      go_wp2_with fail
                      refine (refInstr_any M rest (some ⟨bl, ol, none⟩) cA _ hS3 (by omega) HWs.out).mono ?_
                      rintro e w7 ⟨x, rfl, hx, hb7⟩
                      rw [HIn.out]
                      simp only [Option.isSome_none, ia]
                      clear hx
                      have hbw7 := (hbw3.trans (hb7.mono hbw3.size)).alloc (hbw3.trans (hb7.mono hbw3.size)).size (.cells #[.int .i64 x.op, .int .i64 x.a, .int .i64 x.b, .int .i64 x.c] 32)
                      have OR6 := (OR3.below hb7 OR3.lt).alloc (.cells #[.int .i64 x.op, .int .i64 x.a, .int .i64 x.b, .int .i64 x.c] 32)
                      have p0 := OR6.cell 0
                      have z0 := OR6.free 0
                      have p1 := OR6.cell 1
                      have z1 := OR6.free 1
                      have p2 := OR6.cell 2
                      have z2 := OR6.free 2
                      simp at p0 p1 p2
                      have OR7 : Obl ((((w7.alloc (.cells #[.int .i64 x.op, .int .i64 x.a, .int .i64 x.b, .int .i64 x.c] 32)).setCell ⟨w.heap.size, 0, none⟩ (.slice none 0 0)).setCell ⟨w.heap.size, 1, none⟩ (.slice none 0 0)).setCell ⟨w.heap.size, 2, none⟩ (.int .i64 0)) w.heap.size 25 #[.slice none 0 0, .slice none 0 0, .int .i64 0] := (((OR6.put 0 (.slice none 0 0)).put 1 (.slice none 0 0)).put 2 (.int .i64 0))
                      have hb7 := (((hbw7.setCell (p := ⟨w.heap.size, 0, none⟩) (Nat.le_refl _) (.slice none 0 0)).setCell (p := ⟨w.heap.size, 1, none⟩) (Nat.le_refl _) (.slice none 0 0)).setCell (p := ⟨w.heap.size, 2, none⟩) (Nat.le_refl _) (.int .i64 0))
                      go_wp2
                      refine bodyPost_ret (results_cell_tt rfl _ (b := w.heap.size) rfl OR7 Tryz.underlying25 rfl prSize) rfl ?_
                      exact ParsePost.zero HE5.out (by go_num) hb7
                    | false =>
                      by_cases hz : (m : Int) + (n : Int) = 0
                      · have hc0 : st.prog.code = [] := List.eq_nil_of_length_eq_zero (by omega)
                        have hs0 : st.prog.strs = [] := List.eq_nil_of_length_eq_zero (by omega)
                        have HRW : Cd.readWords st M rest = some ⟨true, ⟨st.prog.code, st.prog.strs, v⟩⟩ := by rw [HWp.out]; exact rdPages_ok ⟨part_zero_iff.2 ⟨hc0, hpg, hs0⟩, hr1⟩ (by rw [← HLast.out hr1]; exact hro)
                        have HG2 : Hid (Cd.parse s.data.toList = Cd.parseG ⟨true, ⟨st.prog.code, st.prog.strs, v⟩⟩ (i + 1) (ls.drop (i + 1))) := hide (by rw [HG.out, HDr.out, Cd.parseG_ok (line_ok HPs.out HSp.out HRW)])
                        have HS2 : Hid (Cd.Small ⟨true, ⟨st.prog.code, st.prog.strs, v⟩⟩ (i + 1)) := hide (Cd.small_words HS.out HWs.out HRW)
                        clear HRW
                        clear hro hr1 hpg hc0 hs0
                        have z2 := hP.1.free 2
                        have hP2 := hP.put 2 (.int .i64 v)
                        have hB2 := hBl3.put 2 (.int .i64 v)
                        have HR2 : Hid (RqC (w3.setCell ⟨w.heap.size + 1, 2, none⟩ (.int .i64 v)) w1.heap.size (w.heap.size + 1) ⟨st.prog.code, st.prog.strs, v⟩) := hide ⟨A, n, c, D, m, d, hP2⟩
                        clear hP2 hP
                        go_wp2
                        go_roundw
                        case rel => exact ⟨i + 1, ⟨true, ⟨st.prog.code, st.prog.strs, v⟩⟩, rfl, by go_num, by omega, HR2.out, hB2, HG2, HS2⟩
                        case measure => simp [intOf]; omega
                      · skip
                        have HRW : Cd.readWords st M rest = none := by rw [HWp.out]; exact rdPages_no (fun h => hz (by obtain ⟨g1, _, g3⟩ := part_zero h.1; rw [g1] at hnl; rw [g3] at hml; simp at hnl hml; omega))
                        have HE5 : Hid (Cd.parse s.data.toList = (Cd.zero, i + 1, 5)) := hide (by rw [HG.out, HDr.out, Cd.parseG_err (line_no HPs.out HSp.out HRW)])
                        clear HRW
                        clear hro hr1 hpg
                        go_wp2_with fail
                        refine (refInstr_any M rest (some ⟨bl, ol, none⟩) cA _ hS3 (by omega) HWs.out).mono ?_
                        rintro e w7 ⟨x, rfl, hx, hb7⟩
                        rw [HIn.out]
                        simp only [Option.isSome_none, ia]
                        clear hx
                        have hbw7 := (hbw3.trans (hb7.mono hbw3.size)).alloc (hbw3.trans (hb7.mono hbw3.size)).size (.cells #[.int .i64 x.op, .int .i64 x.a, .int .i64 x.b, .int .i64 x.c] 32)
                        have OR6 := (OR3.below hb7 OR3.lt).alloc (.cells #[.int .i64 x.op, .int .i64 x.a, .int .i64 x.b, .int .i64 x.c] 32)
                        have p0 := OR6.cell 0
                        have z0 := OR6.free 0
                        have p1 := OR6.cell 1
                        have z1 := OR6.free 1
                        have p2 := OR6.cell 2
                        have z2 := OR6.free 2
                        simp at p0 p1 p2
                        have OR7 : Obl ((((w7.alloc (.cells #[.int .i64 x.op, .int .i64 x.a, .int .i64 x.b, .int .i64 x.c] 32)).setCell ⟨w.heap.size, 0, none⟩ (.slice none 0 0)).setCell ⟨w.heap.size, 1, none⟩ (.slice none 0 0)).setCell ⟨w.heap.size, 2, none⟩ (.int .i64 0)) w.heap.size 25 #[.slice none 0 0, .slice none 0 0, .int .i64 0] := (((OR6.put 0 (.slice none 0 0)).put 1 (.slice none 0 0)).put 2 (.int .i64 0))
                        have hb7 := (((hbw7.setCell (p := ⟨w.heap.size, 0, none⟩) (Nat.le_refl _) (.slice none 0 0)).setCell (p := ⟨w.heap.size, 1, none⟩) (Nat.le_refl _) (.slice none 0 0)).setCell (p := ⟨w.heap.size, 2, none⟩) (Nat.le_refl _) (.int .i64 0))
                        go_wp2
                        refine bodyPost_ret (results_cell_tt rfl _ (b := w.heap.size) rfl OR7 Tryz.underlying25 rfl prSize) rfl ?_
                        exact ParsePost.zero HE5.out (by go_num) hb7
                · skip
                  have HRW : Cd.readWords st M rest = none := by rw [HWp.out]; exact rdPages_no (fun h => hr1 h.2)
                  have HE5 : Hid (Cd.parse s.data.toList = (Cd.zero, i + 1, 5)) := hide (by rw [HG.out, HDr.out, Cd.parseG_err (line_no HPs.out HSp.out HRW)])
                  clear HRW
                  have hr2 : ((rest.length : Int) + 1 == 2) = false := by simp; omega
                  have hr2' : ¬ (rest.length : Int) + 1 = 2 := by omega
                  clear hro
                  go_wp2_with fail
                  refine (refInstr_any M rest (some ⟨bl, ol, none⟩) cA _ hS3 (by omega) HWs.out).mono ?_
                  rintro e w7 ⟨x, rfl, hx, hb7⟩
                  rw [HIn.out]
                  simp only [Option.isSome_none, ia]
                  clear hx
                  have hbw7 := (hbw3.trans (hb7.mono hbw3.size)).alloc (hbw3.trans (hb7.mono hbw3.size)).size (.cells #[.int .i64 x.op, .int .i64 x.a, .int .i64 x.b, .int .i64 x.c] 32)
                  have OR6 := (OR3.below hb7 OR3.lt).alloc (.cells #[.int .i64 x.op, .int .i64 x.a, .int .i64 x.b, .int .i64 x.c] 32)
                  have p0 := OR6.cell 0
                  have z0 := OR6.free 0
                  have p1 := OR6.cell 1
                  have z1 := OR6.free 1
                  have p2 := OR6.cell 2
                  have z2 := OR6.free 2
                  simp at p0 p1 p2
                  have OR7 : Obl ((((w7.alloc (.cells #[.int .i64 x.op, .int .i64 x.a, .int .i64 x.b, .int .i64 x.c] 32)).setCell ⟨w.heap.size, 0, none⟩ (.slice none 0 0)).setCell ⟨w.heap.size, 1, none⟩ (.slice none 0 0)).setCell ⟨w.heap.size, 2, none⟩ (.int .i64 0)) w.heap.size 25 #[.slice none 0 0, .slice none 0 0, .int .i64 0] := (((OR6.put 0 (.slice none 0 0)).put 1 (.slice none 0 0)).put 2 (.int .i64 0))
                  have hb7 := (((hbw7.setCell (p := ⟨w.heap.size, 0, none⟩) (Nat.le_refl _) (.slice none 0 0)).setCell (p := ⟨w.heap.size, 1, none⟩) (Nat.le_refl _) (.slice none 0 0)).setCell (p := ⟨w.heap.size, 2, none⟩) (Nat.le_refl _) (.int .i64 0))
                  go_wp2
                  refine bodyPost_ret (results_cell_tt rfl _ (b := w.heap.size) rfl OR7 Tryz.underlying25 rfl prSize) rfl ?_
                  exact ParsePost.zero HE5.out (by go_num) hb7
              · have m1 : ((⟨M.toArray⟩ : ByteArray).toList == [112, 97, 103, 101, 115]) = false := by rw [ba_list]; simpa [Cd.pagesW] using hMp
                have m1' : (M == [112, 97, 103, 101, 115]) = false := by simpa [Cd.pagesW] using hMp
                clear hro
                by_cases hMs : M = Cd.stringW
                · have HIn : Hid (Cd.instr M rest = none) := hide (by rw [hMs]; exact instr_string rest)
                  have m2 : ((⟨M.toArray⟩ : ByteArray).toList == [115, 116, 114, 105, 110, 103]) = true := by rw [hMs, ba_list]; rfl
                  have m2' : (M == [115, 116, 114, 105, 110, 103]) = true := by rw [hMs]; rfl
                  have HWp : Hid (Cd.readWords st M rest = Cd.readStr st rest) := hide (words_str rest hMp hMs)
                  clear hMp hMs
                  by_cases hr1 : rest.length = 1
                  · have hr2 : ((rest.length : Int) + 1 == 2) = true := by rw [hr1]; rfl
                    have hr2' : (rest.length : Int) + 1 = 2 := by omega
                    by_cases hn0 : n = 0
                    · have hc0 : st.prog.code = [] := List.eq_nil_of_length_eq_zero (by omega)
                      have hn0' : (n : Int) = 0 := by omega
                      have hx0 : rest.getD 0 [] = rest[0]'(by omega) := Cd.getD_at _ _ (by omega)
                      have hcx := hS3.next (i := 0) (by omega)
                      have HRW : Cd.readWords st M rest = some ⟨st.paged, ⟨st.prog.code, st.prog.strs ++ [rest.getD 0 []], st.prog.pages⟩⟩ := by rw [HWp.out]; exact rdStr_ok ⟨part_two_iff.2 hc0, hr1⟩
                      have HG2 : Hid (Cd.parse s.data.toList = Cd.parseG ⟨st.paged, ⟨st.prog.code, st.prog.strs ++ [rest.getD 0 []], st.prog.pages⟩⟩ (i + 1) (ls.drop (i + 1))) := hide (by rw [HG.out, HDr.out, Cd.parseG_ok (line_ok HPs.out HSp.out HRW)])
                      have HS2 : Hid (Cd.Small ⟨st.paged, ⟨st.prog.code, st.prog.strs ++ [rest.getD 0 []], st.prog.pages⟩⟩ (i + 1)) := hide (Cd.small_words HS.out HWs.out HRW)
                      clear HRW
                      rw [← hx0] at hcx
                      obtain ⟨hcx1, _⟩ := hcx
                      replace hcx1 : w3.cell? ⟨bl, ol + 1, none⟩ = some (.string ⟨(rest.getD 0 []).toArray⟩) := hcx1
                      generalize rest.getD 0 [] = x at *
                      have hbl3 : bl < w3.heap.size := hblw3
                      have hi1 : (1 : Int) < (rest.length : Int) + 1 := by omega
                      clear hx0 hc0 hr1 hn0
                      go_wp2_with fail
                      refine region_C (by kernel_rfl) w3.drew.heap.size [6, 8] ?_
                      replace hBl3 : Bel w1.heap.size (w.heap.size + 1) w1 w3.drew := ⟨hBl3.os, hBl3.tape, hBl3.output, hBl3.size, hBl3.block⟩
                      replace hP : RqP w3.drew w1.heap.size (w.heap.size + 1) #[.slice A n c, .slice D m d, .int .i64 st.prog.pages] A n c D m d st.prog.code st.prog.strs := hP
                      have hlt1 : w.heap.size + 1 < w3.drew.heap.size := hP.1.lt
                      replace hbl3 : bl < w3.drew.heap.size := hbl3
                      replace k1 : w3.drew.cell? ⟨w.heap.size + 1, 1, none⟩ = some (.slice D m d) := k1
                      replace hcx1 : w3.drew.cell? ⟨bl, ol + 1, none⟩ = some (.string ⟨x.toArray⟩) := hcx1
                      clear k0 k2 hcf3 hS3 OR3 hb23 hbw3
                      generalize w3.drew = w0 at *
                      refine takeX 0 rfl (by kernel_rfl) (fun _ _ _ h => h) (by rfl) (by intro w'; go_simp; try with_reducible rfl) ?_
                      refine takeC 1 [1, 6, 7, 8] rfl (by kernel_rfl) (fun _ _ _ h => h) (by rfl) (by intro w' hg; have g0 := (hg.cell (p := ⟨w.heap.size + 1, 1, none⟩) hlt1).trans k1; go_simp; try with_reducible rfl) ?_
                      refine takeX 2 rfl (by kernel_rfl) (fun _ _ _ h => h) (by rfl) (by intro w'; go_simp; try with_reducible rfl) ?_
                      refine takeX 3 rfl (by kernel_rfl) (fun _ _ _ h => h) (by rfl) (by intro w'; go_simp; try with_reducible rfl) ?_
                      refine takeC 4 [4, 5, 6, 7, 8] rfl (by kernel_rfl) (fun _ _ _ h => h) (by rfl) (by intro w' hg; have g0 := (hg.cell (p := ⟨bl, ol + 1, none⟩) hbl3).trans hcx1; go_simp; try with_reducible rfl) ?_
                      refine onlyC 5 rfl (by kernel_rfl) (by rfl) ?_
                      intro K hK
                      go_simp
                      refine hK _ _ (fun _ => (Below.refl _ _).alloc (Nat.le_refl _) _) ?_
                      clear hK K
                      have h2 := hP.alloc (.cells #[.string ⟨x.toArray⟩] 9)
                      have hb2 : Below w0.heap.size w0 (w0.alloc (.cells #[.string ⟨x.toArray⟩] 9)) := (Below.refl _ _).alloc (Nat.le_refl _) _
                      have hB4 := hBl3.trans (Bel.of (b := w.heap.size + 1) (hb2.mono hP.2.1))
                      refine onlyC 6 rfl (by kernel_rfl) (by rfl) ?_
                      intro K hK
                      refine wp_append_rd (.tmp 119) (.tmp 123) _ rfl strTy (A := D) (n := m) (c := d) rfl h2.2.2.2 (B := w0.heap.size + 1) (S := some ⟨w0.heap.size, 0, none⟩) (m := 1) (d := 1) (news := [.string ⟨x.toArray⟩]) rfl (Row.new _ _ _) (by simp [Value.oneCell']) (by unfold maxLen; omega) (by omega) h2.2.1 ?_
                      intro A3 c3 w4 hown3 hgrow3 hat3
                      rw [sv_snoc] at hown3
                      have hB5 := hB4.trans (Bel.of (b := w.heap.size + 1) (below_own (Below.refl _ _) h2.2.2.2 hgrow3 h2.2.1))
                      have h3 := h2.withStrs hgrow3 hown3
                      refine hK _ _ (fun h => absurd h (by decide)) ?_
                      clear hK K
                      have p1 := h3.1.cell 1
                      have z1 := h3.1.free 1
                      simp at p1
                      refine takeX 7 rfl (by kernel_rfl) (fun _ _ _ h => h) (by rfl) (by intro w'; go_simp; try with_reducible rfl) ?_
                      refine onlyC 8 rfl (by kernel_rfl) (by rfl) ?_
                      intro K hK
                      go_simp
                      refine hK _ _ (fun h => absurd h (by decide)) ?_
                      clear hK K
                      have h4 := h3.put 1 (.slice A3 (m + 1) c3)
                      have hB6 := hB5.put 1 (.slice A3 (m + 1) c3)
                      generalize w4.setCell ⟨w.heap.size + 1, 1, none⟩ (.slice A3 (m + 1) c3) = w5 at *
                      refine doneC (by kernel_rfl) ?_
                      go_simp
                      have HR2 : Hid (RqC w5 w1.heap.size (w.heap.size + 1) ⟨st.prog.code, st.prog.strs ++ [x], st.prog.pages⟩) := hide ⟨A, n, c, A3, m + 1, c3, h4⟩
                      clear h4 h3 h2 hP
                      go_wp2
                      go_roundw
                      case rel => exact ⟨i + 1, ⟨st.paged, ⟨st.prog.code, st.prog.strs ++ [x], st.prog.pages⟩⟩, rfl, by go_num, by omega, HR2.out, hB6, HG2, HS2⟩
                      case measure => simp [intOf]; omega
                    · skip
                      have HRW : Cd.readWords st M rest = none := by rw [HWp.out]; exact rdStr_no (fun h => hn0 (by have := part_two_iff.1 h.1; rw [this] at hnl; simpa using hnl.symm))
                      have HE5 : Hid (Cd.parse s.data.toList = (Cd.zero, i + 1, 5)) := hide (by rw [HG.out, HDr.out, Cd.parseG_err (line_no HPs.out HSp.out HRW)])
                      clear HRW
                      have hn0' : ¬ (n : Int) = 0 := by omega
                      clear hr1
                      go_wp2_with fail
                      refine (refInstr_any M rest (some ⟨bl, ol, none⟩) cA _ hS3 (by omega) HWs.out).mono ?_
                      rintro e w7 ⟨x, rfl, hx, hb7⟩
                      rw [HIn.out]
                      simp only [Option.isSome_none, ia]
                      clear hx
                      have hbw7 := (hbw3.trans (hb7.mono hbw3.size)).alloc (hbw3.trans (hb7.mono hbw3.size)).size (.cells #[.int .i64 x.op, .int .i64 x.a, .int .i64 x.b, .int .i64 x.c] 32)
                      have OR6 := (OR3.below hb7 OR3.lt).alloc (.cells #[.int .i64 x.op, .int .i64 x.a, .int .i64 x.b, .int .i64 x.c] 32)
                      have p0 := OR6.cell 0
                      have z0 := OR6.free 0
                      have p1 := OR6.cell 1
                      have z1 := OR6.free 1
                      have p2 := OR6.cell 2
                      have z2 := OR6.free 2
                      simp at p0 p1 p2
                      have OR7 : Obl ((((w7.alloc (.cells #[.int .i64 x.op, .int .i64 x.a, .int .i64 x.b, .int .i64 x.c] 32)).setCell ⟨w.heap.size, 0, none⟩ (.slice none 0 0)).setCell ⟨w.heap.size, 1, none⟩ (.slice none 0 0)).setCell ⟨w.heap.size, 2, none⟩ (.int .i64 0)) w.heap.size 25 #[.slice none 0 0, .slice none 0 0, .int .i64 0] := (((OR6.put 0 (.slice none 0 0)).put 1 (.slice none 0 0)).put 2 (.int .i64 0))
                      have hb7 := (((hbw7.setCell (p := ⟨w.heap.size, 0, none⟩) (Nat.le_refl _) (.slice none 0 0)).setCell (p := ⟨w.heap.size, 1, none⟩) (Nat.le_refl _) (.slice none 0 0)).setCell (p := ⟨w.heap.size, 2, none⟩) (Nat.le_refl _) (.int .i64 0))
                      go_wp2
                      refine bodyPost_ret (results_cell_tt rfl _ (b := w.heap.size) rfl OR7 Tryz.underlying25 rfl prSize) rfl ?_
                      exact ParsePost.zero HE5.out (by go_num) hb7
                  · skip
                    have HRW : Cd.readWords st M rest = none := by rw [HWp.out]; exact rdStr_no (fun h => hr1 h.2)
                    have HE5 : Hid (Cd.parse s.data.toList = (Cd.zero, i + 1, 5)) := hide (by rw [HG.out, HDr.out, Cd.parseG_err (line_no HPs.out HSp.out HRW)])
                    clear HRW
                    have hr2 : ((rest.length : Int) + 1 == 2) = false := by simp; omega
                    have hr2' : ¬ (rest.length : Int) + 1 = 2 := by omega
                    go_wp2_with fail
                    refine (refInstr_any M rest (some ⟨bl, ol, none⟩) cA _ hS3 (by omega) HWs.out).mono ?_
                    rintro e w7 ⟨x, rfl, hx, hb7⟩
                    rw [HIn.out]
                    simp only [Option.isSome_none, ia]
                    clear hx
                    have hbw7 := (hbw3.trans (hb7.mono hbw3.size)).alloc (hbw3.trans (hb7.mono hbw3.size)).size (.cells #[.int .i64 x.op, .int .i64 x.a, .int .i64 x.b, .int .i64 x.c] 32)
                    have OR6 := (OR3.below hb7 OR3.lt).alloc (.cells #[.int .i64 x.op, .int .i64 x.a, .int .i64 x.b, .int .i64 x.c] 32)
                    have p0 := OR6.cell 0
                    have z0 := OR6.free 0
                    have p1 := OR6.cell 1
                    have z1 := OR6.free 1
                    have p2 := OR6.cell 2
                    have z2 := OR6.free 2
                    simp at p0 p1 p2
                    have OR7 : Obl ((((w7.alloc (.cells #[.int .i64 x.op, .int .i64 x.a, .int .i64 x.b, .int .i64 x.c] 32)).setCell ⟨w.heap.size, 0, none⟩ (.slice none 0 0)).setCell ⟨w.heap.size, 1, none⟩ (.slice none 0 0)).setCell ⟨w.heap.size, 2, none⟩ (.int .i64 0)) w.heap.size 25 #[.slice none 0 0, .slice none 0 0, .int .i64 0] := (((OR6.put 0 (.slice none 0 0)).put 1 (.slice none 0 0)).put 2 (.int .i64 0))
                    have hb7 := (((hbw7.setCell (p := ⟨w.heap.size, 0, none⟩) (Nat.le_refl _) (.slice none 0 0)).setCell (p := ⟨w.heap.size, 1, none⟩) (Nat.le_refl _) (.slice none 0 0)).setCell (p := ⟨w.heap.size, 2, none⟩) (Nat.le_refl _) (.int .i64 0))
                    go_wp2
                    refine bodyPost_ret (results_cell_tt rfl _ (b := w.heap.size) rfl OR7 Tryz.underlying25 rfl prSize) rfl ?_
                    exact ParsePost.zero HE5.out (by go_num) hb7
                · have m2 : ((⟨M.toArray⟩ : ByteArray).toList == [115, 116, 114, 105, 110, 103]) = false := by rw [ba_list]; simpa [Cd.stringW] using hMs
                  have m2' : (M == [115, 116, 114, 105, 110, 103]) = false := by simpa [Cd.stringW] using hMs
                  have HWp : Hid (Cd.readWords st M rest = Cd.readIns st M rest) := hide (words_ins rest hMp hMs)
                  clear hMp hMs
                  cases hin : Cd.instr M rest with
                  | none =>
                    have HIn := hide hin
                    have HRW : Cd.readWords st M rest = none := by rw [HWp.out]; exact rdIns_none hin
                    have HE5 : Hid (Cd.parse s.data.toList = (Cd.zero, i + 1, 5)) := hide (by rw [HG.out, HDr.out, Cd.parseG_err (line_no HPs.out HSp.out HRW)])
                    clear HRW
                    clear hin
                    go_wp2_with fail
                    refine (refInstr_any M rest (some ⟨bl, ol, none⟩) cA _ hS3 (by omega) HWs.out).mono ?_
                    rintro e w7 ⟨x, rfl, hx, hb7⟩
                    rw [HIn.out]
                    simp only [Option.isSome_none, ia]
                    clear hx
                    have hbw7 := (hbw3.trans (hb7.mono hbw3.size)).alloc (hbw3.trans (hb7.mono hbw3.size)).size (.cells #[.int .i64 x.op, .int .i64 x.a, .int .i64 x.b, .int .i64 x.c] 32)
                    have OR6 := (OR3.below hb7 OR3.lt).alloc (.cells #[.int .i64 x.op, .int .i64 x.a, .int .i64 x.b, .int .i64 x.c] 32)
                    have p0 := OR6.cell 0
                    have z0 := OR6.free 0
                    have p1 := OR6.cell 1
                    have z1 := OR6.free 1
                    have p2 := OR6.cell 2
                    have z2 := OR6.free 2
                    simp at p0 p1 p2
                    have OR7 : Obl ((((w7.alloc (.cells #[.int .i64 x.op, .int .i64 x.a, .int .i64 x.b, .int .i64 x.c] 32)).setCell ⟨w.heap.size, 0, none⟩ (.slice none 0 0)).setCell ⟨w.heap.size, 1, none⟩ (.slice none 0 0)).setCell ⟨w.heap.size, 2, none⟩ (.int .i64 0)) w.heap.size 25 #[.slice none 0 0, .slice none 0 0, .int .i64 0] := (((OR6.put 0 (.slice none 0 0)).put 1 (.slice none 0 0)).put 2 (.int .i64 0))
                    have hb7 := (((hbw7.setCell (p := ⟨w.heap.size, 0, none⟩) (Nat.le_refl _) (.slice none 0 0)).setCell (p := ⟨w.heap.size, 1, none⟩) (Nat.le_refl _) (.slice none 0 0)).setCell (p := ⟨w.heap.size, 2, none⟩) (Nat.le_refl _) (.int .i64 0))
                    go_wp2
                    refine bodyPost_ret (results_cell_tt rfl _ (b := w.heap.size) rfl OR7 Tryz.underlying25 rfl prSize) rfl ?_
                    exact ParsePost.zero HE5.out (by go_num) hb7
                  | some y =>
                    have HIn := hide hin
                    have HRW : Cd.readWords st M rest = some ⟨st.paged, ⟨st.prog.code ++ [y], st.prog.strs, st.prog.pages⟩⟩ := by rw [HWp.out]; exact rdIns_some hin
                    have HG2 : Hid (Cd.parse s.data.toList = Cd.parseG ⟨st.paged, ⟨st.prog.code ++ [y], st.prog.strs, st.prog.pages⟩⟩ (i + 1) (ls.drop (i + 1))) := hide (by rw [HG.out, HDr.out, Cd.parseG_ok (line_ok HPs.out HSp.out HRW)])
                    have HS2 : Hid (Cd.Small ⟨st.paged, ⟨st.prog.code ++ [y], st.prog.strs, st.prog.pages⟩⟩ (i + 1)) := hide (Cd.small_words HS.out HWs.out HRW)
                    clear HRW
                    clear hin
                    go_wp2_with fail
                    refine (refInstr_any M rest (some ⟨bl, ol, none⟩) cA _ hS3 (by omega) HWs.out).mono ?_
                    rintro e w7 ⟨x, rfl, hx, hb7⟩
                    obtain rfl := hx y HIn.out
                    rw [HIn.out]
                    simp only [Option.isSome_some, ia]
                    clear hx
                    have h1 := hP.below hb7
                    have hB7 := hBl3.trans (Bel.of (b := w.heap.size + 1) (hb7.mono hP.2.1))
                    obtain ⟨xo, xa, xb, xc⟩ := x
                    simp only
                    have h2 := (h1.alloc (.cells #[.int .i64 xo, .int .i64 xa, .int .i64 xb, .int .i64 xc] 32)).alloc (.cells #[.int .i64 xo, .int .i64 xa, .int .i64 xb, .int .i64 xc] 32)
                    have hb8 : Below w7.heap.size w7 ((w7.alloc (.cells #[.int .i64 xo, .int .i64 xa, .int .i64 xb, .int .i64 xc] 32)).alloc (.cells #[.int .i64 xo, .int .i64 xa, .int .i64 xb, .int .i64 xc] 32)) := ((Below.refl _ _).alloc (Nat.le_refl _) _).alloc (by simp) _
                    have hB8 := hB7.trans (Bel.of (b := w.heap.size + 1) (hb8.mono h1.2.1))
                    have j0 := (h1.alloc (.cells #[.int .i64 xo, .int .i64 xa, .int .i64 xb, .int .i64 xc] 32)).1.cell 0
                    simp at j0
                    have hRow : Row ((w7.alloc (.cells #[.int .i64 xo, .int .i64 xa, .int .i64 xb, .int .i64 xc] 32)).alloc (.cells #[.int .i64 xo, .int .i64 xa, .int .i64 xb, .int .i64 xc] 32)) (w7.heap.size + 2) 4 (some ⟨w7.heap.size + 1, 0, none⟩) 1 [.int .i64 xo, .int .i64 xa, .int .i64 xb, .int .i64 xc] := by
                      have := Row.four (w7.alloc (.cells #[.int .i64 xo, .int .i64 xa, .int .i64 xb, .int .i64 xc] 32)) ⟨xo, xa, xb, xc⟩ 32
                      simpa using this
                    go_wp2_with (at_builtin; refine wpList_append_rd rfl (.tmp 68) (.tmp 70) _ rfl insTy rfl h2.2.2.1 rfl hRow (by simp [Value.oneCell']) (by unfold maxLen; omega) (by omega) h2.2.1 ?_; intro A3 c3 w9 hown3 hgrow3 hat3; rw [iv_snoc st.prog.code ⟨xo, xa, xb, xc⟩] at hown3; have h3 := h2.withCode hgrow3 hown3; have q0 := h3.1.cell 0; have z0 := h3.1.free 0; simp at q0)
                    have hB9 := hB8.trans (Bel.of (b := w.heap.size + 1) (below_own (Below.refl _ _) h2.2.2.1 hgrow3 h2.2.1))
                    have h4 := h3.put 0 (.slice A3 (n + 1) c3)
                    have hB10 := hB9.put 0 (.slice A3 (n + 1) c3)
                    have HR2 : Hid (RqC (w9.setCell ⟨w.heap.size + 1, 0, none⟩ (.slice A3 (n + 1) c3)) w1.heap.size (w.heap.size + 1) ⟨st.prog.code ++ [⟨xo, xa, xb, xc⟩], st.prog.strs, st.prog.pages⟩) := hide ⟨A3, n + 1, c3, D, m, d, h4⟩
                    clear h4 h3 h2 h1 hP
                    go_roundw
                    case rel => exact ⟨i + 1, ⟨st.paged, ⟨st.prog.code ++ [⟨xo, xa, xb, xc⟩], st.prog.strs, st.prog.pages⟩⟩, rfl, by go_num, by omega, HR2.out, hB10, HG2, HS2⟩
                    case measure => simp [intOf]; omega
      · obtain rfl : i = ls.length := by omega
        have HG1 : Hid (Cd.parse s.data.toList = Cd.parseG st ls.length []) := hide (by rw [HG.out, List.drop_length])
        obtain ⟨A, n, c, D, m, d, hP⟩ := hR
        have k0 := hP.1.cell 0
        have k1 := hP.1.cell 1
        have k2 := hP.1.cell 2
        simp at k0 k1 k2
        have hI := Inss.of_own hP.2.2.1
        have hT := Strs.of_own hP.2.2.2
        have hnl := own_inss hP.2.2.1
        have hml := own_strs hP.2.2.2
        have hn63 : n ≤ 9223372036854775807 := by have := HS.out.1; omega
        have hm63 : m ≤ 9223372036854775807 := by have := HS.out.2.1; omega
        have HSt : Hid (∀ x ∈ st.prog.strs, x.length ≤ 9223372036854775807) := hide (fun x hx => by have := HS.out.2.2 x hx; omega)
        cases hce : (Cd.check st.prog).2 with
        | succ er =>
          have HG2 : Hid (Cd.parse s.data.toList = (Cd.zero, 0, er + 1)) := hide (by rw [HG1.out, Cd.parseG_bad (by omega), hce])
          have HE := hide hce
          clear hce hS
          go_wp2_with fail
          refine (refCheck_any st.prog A D n c m d wr.heap.size _ hI hT (Nat.le_refl _) hn63 hm63 HSt.out).mono ?_
          rintro e w5 ⟨rfl, hb5⟩
          rw [HE.out]
          have hbw6 := hbw.trans (hb5.mono hszr)
          have OR6 := ORr.below hb5 ORr.lt
          have ene' : ¬ (((er + 1 : Nat)) : Int) = 0 := by omega
          have p0 := OR6.cell 0
          have z0 := OR6.free 0
          have p1 := OR6.cell 1
          have z1 := OR6.free 1
          have p2 := OR6.cell 2
          have z2 := OR6.free 2
          simp at p0 p1 p2
          have OR7 : Obl (((w5.setCell ⟨w.heap.size, 0, none⟩ (.slice none 0 0)).setCell ⟨w.heap.size, 1, none⟩ (.slice none 0 0)).setCell ⟨w.heap.size, 2, none⟩ (.int .i64 0)) w.heap.size 25 #[.slice none 0 0, .slice none 0 0, .int .i64 0] := (((OR6.put 0 (.slice none 0 0)).put 1 (.slice none 0 0)).put 2 (.int .i64 0))
          have hb7 := (((hbw6.setCell (p := ⟨w.heap.size, 0, none⟩) (Nat.le_refl _) (.slice none 0 0)).setCell (p := ⟨w.heap.size, 1, none⟩) (Nat.le_refl _) (.slice none 0 0)).setCell (p := ⟨w.heap.size, 2, none⟩) (Nat.le_refl _) (.int .i64 0))
          go_wp2
          refine bodyPost_ret (results_cell_tt rfl _ (b := w.heap.size) rfl OR7 Tryz.underlying25 rfl prSize) rfl ?_
          exact ParsePost.zero HG2.out rfl hb7
        | zero =>
          have HG2 : Hid (Cd.parse s.data.toList = (st.prog, 0, 0)) := hide (by rw [HG1.out, Cd.parseG_end hce])
          have HE := hide hce
          clear hce hS
          go_wp2_with fail
          refine (refCheck_any st.prog A D n c m d wr.heap.size _ hI hT (Nat.le_refl _) hn63 hm63 HSt.out).mono ?_
          rintro e w5 ⟨rfl, hb5⟩
          rw [HE.out]
          have hbw6 := hbw.trans (hb5.mono hszr)
          have OR6 := ORr.below hb5 ORr.lt
          have hP5 := hP.below hb5
          have j0 := hP5.1.cell 0
          have j1 := hP5.1.cell 1
          have j2 := hP5.1.cell 2
          simp at j0 j1 j2
          have p0 := OR6.cell 0
          have p1 := OR6.cell 1
          have p2 := OR6.cell 2
          have z0 := OR6.free 0
          have z1 := OR6.free 1
          have z2 := OR6.free 2
          simp at p0 p1 p2
          have OR7 : Obl (((w5.setCell ⟨w.heap.size, 0, none⟩ (.slice A n c)).setCell ⟨w.heap.size, 1, none⟩ (.slice D m d)).setCell ⟨w.heap.size, 2, none⟩ (.int .i64 st.prog.pages)) w.heap.size 25 #[.slice A n c, .slice D m d, .int .i64 st.prog.pages] := ((OR6.put 0 (.slice A n c)).put 1 (.slice D m d)).put 2 (.int .i64 st.prog.pages)
          have hbw7 := ((hbw6.setCell (p := ⟨w.heap.size, 0, none⟩) (Nat.le_refl _) (.slice A n c)).setCell (p := ⟨w.heap.size, 1, none⟩) (Nat.le_refl _) (.slice D m d)).setCell (p := ⟨w.heap.size, 2, none⟩) (Nat.le_refl _) (.int .i64 st.prog.pages)
          have hA5 : w5.ownsRow w1.heap.size 32 4 (.slice A n c) n (iv st.prog.code) := hP5.2.2.1
          have hD5 : w5.ownsRow w1.heap.size 9 1 (.slice D m d) m (sv st.prog.strs) := hP5.2.2.2
          have HF : Hid (Inss (((w5.setCell ⟨w.heap.size, 0, none⟩ (.slice A n c)).setCell ⟨w.heap.size, 1, none⟩ (.slice D m d)).setCell ⟨w.heap.size, 2, none⟩ (.int .i64 st.prog.pages)) _ A n st.prog.code ∧ Strs (((w5.setCell ⟨w.heap.size, 0, none⟩ (.slice A n c)).setCell ⟨w.heap.size, 1, none⟩ (.slice D m d)).setCell ⟨w.heap.size, 2, none⟩ (.int .i64 st.prog.pages)) _ D m st.prog.strs) := hide (by
            have hne1 : (Value.slice A n c).ownBlock ≠ some w.heap.size := by rw [ownBlock_slice]; exact fun e => OR6.apart hA5 (by decide) e.symm
            have hne2 : (Value.slice D m d).ownBlock ≠ some w.heap.size := by rw [ownBlock_slice]; exact fun e => OR6.apart hD5 (by decide) e.symm
            exact ⟨Inss.of_own (ownsRow_setCell_other (ownsRow_setCell_other (ownsRow_setCell_other hA5 hne1 _) hne1 _) hne1 _), Strs.of_own (ownsRow_setCell_other (ownsRow_setCell_other (ownsRow_setCell_other hD5 hne2 _) hne2 _) hne2 _)⟩)
          clear hA5 hD5 hP5
          go_wp2
          refine bodyPost_ret (results_cell_tt rfl _ (b := w.heap.size) rfl OR7 Tryz.underlying25 rfl prSize) rfl ?_
          unfold ParsePost
          rw [HG2.out]
          exact ⟨A, n, c, D, m, d, rfl, HF.out, ⟨hn63, hm63⟩, hbw7⟩
end Go.Proofs.YtfjekckcpkkdiaaGreatDoor
