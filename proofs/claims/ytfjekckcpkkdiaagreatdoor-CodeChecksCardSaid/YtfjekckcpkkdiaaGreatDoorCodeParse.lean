/- Layer 4, code.Parse: a contract. -/
import Derived.Test.YtfjekckcpkkdiaaGreatDoorCodeLine
import Derived.Test.YtfjekckcpkkdiaaGreatDoorCodeCheck
import Derived.Test.YtfjekckcpkkdiaaGreatDoorCodeSame
namespace Go.Proofs.YtfjekckcpkkdiaaGreatDoor
open Go.RowKit

theorem results_cell_tt {P : Program} {w : World} {fn : Func} {p u v : Tmp} {ty : TypeId} (hr : fn.results = #[.cell p ty, .tmp u, .tmp v]) (tmps : Array Value) {b : Nat} {t : TypeId} {cs : Array Value} {d : TypeDesc}
    (hp : tmps.getD p undef = .pointer (some ⟨b, 0, none⟩)) (h : Obl w b t cs) (hu : P.underlying ty = some d) (hd : (match d with | .struct _ | .array _ _ => true | _ => false) = true) (hi : (P.info? ty).map (·.size) = some cs.size) :
    (results fn tmps).run P w = .ok (.tuple #[.agg cs, tmps.getD u undef, tmps.getD v undef]) w := by
  have hp' : tmps[p]?.getD undef = .pointer (some ⟨b, 0, none⟩) := by simpa using hp
  simp [results, hr, hp', asAddr, h.load hu hd hi]
theorem prSize : (Tryz.prog.info? 25).map (·.size) = some 3 := by kernel_rfl

/-- A program, a line and an error. -/
def ParsePost (r : Cd.Pr × Nat × Nat) (w : World) (e : Ending) (w' : World) : Prop :=
  ∃ A n c D m d, e = .returned (.tuple #[pa A n c D m d r.1.pages, .int .i64 (r.2.1 : Int), .int .i64 (r.2.2 : Int)]) ∧ (Inss w' w'.heap.size A n r.1.code ∧ Strs w' w'.heap.size D m r.1.strs) ∧ (n ≤ 9223372036854775807 ∧ m ≤ 9223372036854775807) ∧ Below w.heap.size w w'
theorem ParsePost.zero {r : Cd.Pr × Nat × Nat} {l er : Nat} {w w' : World} {e : Ending} (hr : r = (Cd.zero, l, er)) (he : e = .returned (.tuple #[.agg #[.slice none 0 0, .slice none 0 0, .int .i64 0], .int .i64 (l : Int), .int .i64 (er : Int)])) (hb : Below w.heap.size w w') : ParsePost r w e w' := by
  subst hr
  exact ⟨none, 0, 0, none, 0, 0, he, ⟨Inss.nil, Strs.nil⟩, ⟨by omega, by omega⟩, hb⟩
theorem Bel.obl {w w' : World} {base b g : Nat} {t : TypeId} {cs : Array Value} (h : Bel base b w w') (ho : Obl w g t cs) (hg : g < base) (hne : g ≠ b) : Obl w' g t cs := (h.block g hg hne).trans ho
theorem Bel.below {w w' : World} {base b C : Nat} (h : Bel base b w w') (h1 : C ≤ base) (h2 : C ≤ b) : Below C w w' := ⟨h.os, h.tape, h.output, h.size, fun k hk => h.block k (by omega) (by omega)⟩
theorem Bel.strs {w w' : World} {base b C n : Nat} {A : Option Addr} {l : List (List UInt8)} (h : Bel base b w w') (hs : Strs w C A n l) (hC : C ≤ base) (hA : ∀ bb o, A = some ⟨bb, o, none⟩ → l ≠ [] → bb ≠ b) : Strs w' C A n l := by
  refine ⟨hs.1, hs.2.1, hs.2.2.1, fun hx => ?_⟩
  obtain ⟨bb, o, e, hb, hc⟩ := hs.2.2.2 hx
  exact ⟨bb, o, e, hb, fun j u hu => (h.cell (p := ⟨bb, o + j, none⟩) (by show bb < base; omega) (hA bb o e (by rintro rfl; exact hx rfl))).trans (hc j u hu)⟩

namespace Cd
theorem linesG_le (cur l : List UInt8) : ∀ x ∈ Wd.linesG cur l, x.length ≤ cur.length + l.length := by
  induction l generalizing cur with
  | nil =>
    unfold Wd.linesG
    split
    · simp
    · intro x hx
      simp only [List.mem_singleton] at hx
      subst hx; simp
  | cons c l ih =>
    unfold Wd.linesG
    split
    · intro x hx
      rcases List.mem_cons.1 hx with rfl | hx
      · simp
      · have := ih [] x hx
        simp only [List.length_nil, List.length_cons] at this ⊢
        omega
    · intro x hx
      have := ih (cur ++ [c]) x hx
      simp only [List.length_append, List.length_cons, List.length_nil] at this ⊢
      omega
theorem lines_le (l : List UInt8) : ∀ x ∈ Wd.lines l, x.length ≤ l.length := by
  intro x hx
  have := linesG_le [] l x hx
  simpa using this
/-- What is kept while a text is read: a state is not greater than its lines. -/
def Small (s : St) (i : Nat) : Prop := s.prog.code.length ≤ i ∧ s.prog.strs.length ≤ i ∧ ∀ x ∈ s.prog.strs, x.length ≤ 4096
theorem small_words {s s' : St} {i : Nat} {N : List UInt8} {rest : List (List UInt8)} (h : Small s i) (hw : ∀ x ∈ rest, x.length ≤ 4096) (hr : readWords s N rest = some s') : Small s' (i + 1) := by
  obtain ⟨h1, h2, h3⟩ := h
  unfold readWords at hr
  split at hr
  · unfold readPages at hr
    split at hr
    · rw [Option.map_eq_some_iff] at hr
      obtain ⟨v, _, rfl⟩ := hr
      exact ⟨by simp only; omega, by simp only; omega, h3⟩
    · cases hr
  · split at hr
    · unfold readStr at hr
      split at hr
      · rename_i hc
        simp only [Option.some.injEq] at hr
        subst hr
        refine ⟨by simp only; omega, by simp only [List.length_append, List.length_cons, List.length_nil]; omega, fun x hx => ?_⟩
        rcases List.mem_append.1 hx with hx | hx
        · exact h3 x hx
        · simp only [List.mem_singleton] at hx
          subst hx
          rcases rest with _ | ⟨y, r⟩
          · simp
          · exact hw y (by simp)
      · cases hr
    · unfold readIns at hr
      rw [Option.map_eq_some_iff] at hr
      obtain ⟨v, _, rfl⟩ := hr
      exact ⟨by simp only [List.length_append, List.length_cons, List.length_nil]; omega, by simp only; omega, h3⟩
theorem small_line {s s' : St} {i : Nat} {L : List UInt8} (h : Small s i) (hr : readLine s L = .ok s') : Small s' (i + 1) := by
  unfold readLine at hr
  split at hr
  · simp only [Except.ok.injEq] at hr
    subst hr
    exact ⟨by have := h.1; omega, by have := h.2.1; omega, h.2.2⟩
  · split at hr
    · have hws := Wd.split_words L
      cases hsp : (Wd.split L).1 with
      | nil => rw [hsp] at hr; cases hr
      | cons N rest =>
        rw [hsp] at hr hws
        simp only at hr
        cases hrw : readWords s N rest with
        | none => rw [hrw] at hr; cases hr
        | some s1 =>
          rw [hrw] at hr
          simp only [Except.ok.injEq] at hr
          subst hr
          exact small_words h (fun x hx => hws x (by simp [hx])) hrw
    · cases hr
theorem parseG_ok {s s' : St} {k : Nat} {l : List UInt8} {r : List (List UInt8)} (h : readLine s l = .ok s') : parseG s k (l :: r) = parseG s' (k + 1) r := by rw [parseG, h]
theorem parseG_err {s : St} {k er : Nat} {l : List UInt8} {r : List (List UInt8)} (h : readLine s l = .error er) : parseG s k (l :: r) = (zero, k + 1, er) := by rw [parseG, h]
theorem parseG_end {s : St} {k : Nat} (h : (check s.prog).2 = 0) : parseG s k [] = (s.prog, 0, 0) := by rw [parseG, if_pos h]
theorem parseG_bad {s : St} {k : Nat} (h : (check s.prog).2 ≠ 0) : parseG s k [] = (zero, 0, (check s.prog).2) := by rw [parseG, if_neg h]
theorem parse_long {t : List UInt8} (h : 65536 < t.length) : parse t = (zero, 0, 3) := by unfold parse; rw [if_pos h]
theorem parse_lines {t : List UInt8} (h : ¬ 65536 < t.length) : parse t = parseG start 0 (Wd.lines t) := by unfold parse; rw [if_neg h]
end Cd

set_option maxRecDepth 100000 in
set_option maxHeartbeats 4000000 in
theorem parse4_any (s : ByteArray) (w : World) (hs : s.size ≤ 9223372036854775807) (hL : Laid w) (hO : LaidO w) :
    Calls Tryz.prog 17 #[.string s] w (ParsePost (Cd.parse s.data.toList) w) := by
  have hsz := Lib.size_eq s
  by_cases h1 : 65536 < s.size
  · have HN : Hid (Cd.parse s.data.toList = (Cd.zero, 0, 3)) := hide (Cd.parse_long (by omega))
    have OR := Obl.make w 25 #[.slice none 0 0, .slice none 0 0, .int .i64 0]
    have hb := (Below.refl w.heap.size w).alloc (Nat.le_refl _) (.cells #[.slice none 0 0, .slice none 0 0, .int .i64 0] 25)
    clear hL hO hsz
    go_enter Tryz.func17, Tryz.ntmps17
    go_wp2
    refine bodyPost_ret (results_cell_tt rfl _ (b := w.heap.size) rfl OR Tryz.underlying25 rfl prSize) rfl ?_
    exact ParsePost.zero HN.out rfl hb
  · have HN : Hid (Cd.parse s.data.toList = Cd.parseG Cd.start 0 (Wd.lines s.data.toList)) := hide (Cd.parse_lines (by omega))
    have OR := (Obl.make w 25 #[.slice none 0 0, .slice none 0 0, .int .i64 0]).alloc (.cells #[.slice none 0 0, .slice none 0 0, .int .i64 0, .int .i64 0] 72)
    have hb0 := ((Below.refl w.heap.size w).alloc (Nat.le_refl _) (.cells #[.slice none 0 0, .slice none 0 0, .int .i64 0] 25)).alloc (by simp) (.cells #[.slice none 0 0, .slice none 0 0, .int .i64 0, .int .i64 0] 72)
    have OB : Obl ((w.alloc (.cells #[.slice none 0 0, .slice none 0 0, .int .i64 0] 25)).alloc (.cells #[.slice none 0 0, .slice none 0 0, .int .i64 0, .int .i64 0] 72)) (w.heap.size + 1) 72 #[.slice none 0 0, .slice none 0 0, .int .i64 0, .int .i64 0] := by
      simpa using Obl.make (w.alloc (.cells #[.slice none 0 0, .slice none 0 0, .int .i64 0] 25)) 72 #[.slice none 0 0, .slice none 0 0, .int .i64 0, .int .i64 0]
    have HL := hide hL
    have HO := hide hO
    have HLe := hide (Cd.lines_le s.data.toList)
    have HLn := hide (Wd.lines_len [] s.data.toList)
    have HSz := hide hsz
    clear hL hO hsz
    go_enter Tryz.func17, Tryz.ntmps17
    go_wp2_with fail
    refine (lines_any s _ (by omega)).mono ?_
    rintro e w1 ⟨A1, c1, rfl, hc1, hc63, hS, hb1⟩
    have hln : (Wd.lines s.data.toList).length ≤ 65537 := by have := HLn.out; rw [← HSz.out] at this; unfold Wd.lines; omega
    have HLe2 : Hid (∀ i (h : i < (Wd.lines s.data.toList).length), (Wd.lines s.data.toList)[i].length ≤ 1048576) := hide (fun i h => by have := HLe.out _ (List.getElem_mem h); rw [← HSz.out] at this; omega)
    generalize Wd.lines s.data.toList = ls at *
    have hsz1 := hb1.size
    simp at hsz1
    have OR1 := OR.below hb1 OR.lt
    have OB1 := OB.below hb1 OB.lt
    have hbw1 := hb0.trans (hb1.mono (by simp; omega))
    have hA1 : ∀ bb o, A1 = some ⟨bb, o, none⟩ → ls ≠ [] → bb ≠ w.heap.size + 1 := by
      rintro bb o rfl hne rfl
      have h0 : 0 < ls.length := List.length_pos_iff.2 hne
      obtain ⟨b', o', hl0, e', _, hc0⟩ := hS.at_ (k := 0) h0
      simp only [Option.some.injEq, Addr.mk.injEq, and_true] at e'
      obtain ⟨rfl, rfl⟩ := e'
      rw [OB1.cell] at hc0
      rcases o with _ | _ | _ | _ | o
      · simp at hc0
      · simp at hc0
      · simp at hc0
      · simp at hc0
      · simp at hc0
    clear OR OB hb0 hb1
    have hR0 : RdC w1 w1.heap.size (w.heap.size + 1) Cd.start := ⟨none, 0, 0, none, 0, 0, OB1, Nat.le_refl _, World.ownsRow_nil _ _ _ _, World.ownsRow_nil _ _ _ _⟩
    have HG0 : Hid (Cd.parse s.data.toList = Cd.parseG Cd.start 0 (ls.drop 0)) := hide HN.out
    have HS0 : Hid (Cd.Small Cd.start 0) := hide ⟨by simp [Cd.start, Cd.zero], by simp [Cd.start, Cd.zero], by simp [Cd.start, Cd.zero]⟩
    have HL1 := hide (HL.out.below hbw1)
    have HO1 := hide (HO.out.below hbw1)
    go_wp2_with fail
    clear OB1 HN
    go_loopw [18] (fun s18 wr => ∃ (i : Nat) (st : Cd.St), s18 = .int .i64 (i : Int) ∧ i ≤ ls.length ∧ RdC wr w1.heap.size (w.heap.size + 1) st ∧ Bel w1.heap.size (w.heap.size + 1) w1 wr ∧ Hid (Cd.parse s.data.toList = Cd.parseG st i (ls.drop i)) ∧ Hid (Cd.Small st i)) (fun s18 _ => ls.length - (intOf s18).toNat)
    case atStart => exact ⟨0, Cd.start, rfl, by omega, hR0, Bel.of (Below.refl _ _), HG0, HS0⟩
    case round =>
      clear hR0 HG0 HS0
      obtain ⟨i, st, rfl, hi, hR, hb, HG, HS⟩ := hrel
      have hbw : Below w.heap.size w wr := hbw1.trans (hb.below (by omega) (by omega))
      have hszr := hbw.size
      have hszb := hb.size
      have ORr := hb.obl OR1 (by omega) (by omega)
      have HLr := hide (HL.out.below hbw)
      have HOr := hide (HO.out.below hbw)
      by_cases hlt : i < ls.length
      · obtain ⟨bl, ol, hil, rfl, hbl, hcl⟩ := (hb.strs hS (Nat.le_refl _) hA1).at_ hlt
        have HD := hide (List.drop_eq_getElem_cons hil)
        have hLl := HLe2.out i hil
        generalize ls[i] = L at *
        cases hrl : Cd.readLine st L with
        | ok st' =>
          have HG2 : Hid (Cd.parse s.data.toList = Cd.parseG st' (i + 1) (ls.drop (i + 1))) := hide (by rw [HG.out, HD.out, Cd.parseG_ok hrl])
          have HS2 := hide (Cd.small_line HS.out hrl)
          have HRL := hide hrl
          clear hrl
          go_wp2_with fail
          refine (readLine_any (w.heap.size + 1) w1.heap.size st L _ hR hLl (by have := HS.out.1; omega) (by have := HS.out.2.1; omega) HLr.out HOr.out).mono ?_
          rintro e w5 ⟨hb5, hm5⟩
          rw [HRL.out] at hm5
          obtain ⟨rfl, hR5⟩ := hm5
          have hb6 := hb.trans hb5
          go_wp2
          go_roundw
          case rel => exact ⟨i + 1, st', by go_num, by omega, hR5, hb6, HG2, HS2⟩
          case measure => simp [intOf]; omega
        | error er =>
          have HG2 : Hid (Cd.parse s.data.toList = (Cd.zero, i + 1, er)) := hide (by rw [HG.out, HD.out, Cd.parseG_err hrl])
          have HRL := hide hrl
          clear hrl
          go_wp2_with fail
          refine (readLine_any (w.heap.size + 1) w1.heap.size st L _ hR hLl (by have := HS.out.1; omega) (by have := HS.out.2.1; omega) HLr.out HOr.out).mono ?_
          rintro e w5 ⟨hb5, hm5⟩
          rw [HRL.out] at hm5
          obtain ⟨her, rfl⟩ := hm5
          have hb6 := hb.trans hb5
          have hbw6 : Below w.heap.size w w5 := hbw1.trans (hb6.below (by omega) (by omega))
          have OR6 := hb6.obl OR1 (by omega) (by omega)
          have ene : ((er : Int) == 0) = false := by simp; omega
          have ene' : ¬ (er : Int) = 0 := by omega
          have p0 := OR6.cell 0
          have p1 := OR6.cell 1
          have p2 := OR6.cell 2
          have z0 := OR6.free 0
          have z1 := OR6.free 1
          have z2 := OR6.free 2
          simp at p0 p1 p2
          have OR7 : Obl (((w5.setCell ⟨w.heap.size, 0, none⟩ (.slice none 0 0)).setCell ⟨w.heap.size, 1, none⟩ (.slice none 0 0)).setCell ⟨w.heap.size, 2, none⟩ (.int .i64 0)) w.heap.size 25 #[.slice none 0 0, .slice none 0 0, .int .i64 0] := ((OR6.put 0 (.slice none 0 0)).put 1 (.slice none 0 0)).put 2 (.int .i64 0)
          have hbw7 := ((hbw6.setCell (p := ⟨w.heap.size, 0, none⟩) (Nat.le_refl _) (.slice none 0 0)).setCell (p := ⟨w.heap.size, 1, none⟩) (Nat.le_refl _) (.slice none 0 0)).setCell (p := ⟨w.heap.size, 2, none⟩) (Nat.le_refl _) (.int .i64 0)
          go_wp2
          refine bodyPost_ret (results_cell_tt rfl _ (b := w.heap.size) rfl OR7 Tryz.underlying25 rfl prSize) rfl ?_
          exact ParsePost.zero HG2.out (by go_num) hbw7
      · obtain rfl : i = ls.length := by omega
        have HG1 : Hid (Cd.parse s.data.toList = Cd.parseG st ls.length []) := hide (by rw [HG.out, List.drop_length])
        obtain ⟨A, n, c, D, m, d, hP⟩ := hR
        have k0 := hP.1.cell 0
        have k1 := hP.1.cell 1
        have k2 := hP.1.cell 2
        simp at k0 k1 k2
        have hI := Inss.of_own hP.2.2.1
        have hT := Strs.of_own hP.2.2.2
        have hnl := own_inss hP.2.2.1
        have hml := own_strs hP.2.2.2
        have hn63 : n ≤ 9223372036854775807 := by have := HS.out.1; omega
        have hm63 : m ≤ 9223372036854775807 := by have := HS.out.2.1; omega
        have HSt : Hid (∀ x ∈ st.prog.strs, x.length ≤ 9223372036854775807) := hide (fun x hx => by have := HS.out.2.2 x hx; omega)
        cases hce : (Cd.check st.prog).2 with
        | succ er =>
          have HG2 : Hid (Cd.parse s.data.toList = (Cd.zero, 0, er + 1)) := hide (by rw [HG1.out, Cd.parseG_bad (by omega), hce])
          have HE := hide hce
          clear hce hS
          go_wp2_with fail
          refine (check_any st.prog A D n c m d wr.heap.size _ hI hT (Nat.le_refl _) hn63 hm63 HSt.out HOr.out).mono ?_
          rintro e w5 ⟨rfl, hb5⟩
          rw [HE.out]
          have hbw6 := hbw.trans (hb5.mono hszr)
          have OR6 := ORr.below hb5 ORr.lt
          have ene : ((((er + 1 : Nat)) : Int) == 0) = false := by simp; omega
          have ene' : ¬ (((er + 1 : Nat)) : Int) = 0 := by omega
          have p0 := OR6.cell 0
          have p1 := OR6.cell 1
          have p2 := OR6.cell 2
          have z0 := OR6.free 0
          have z1 := OR6.free 1
          have z2 := OR6.free 2
          simp at p0 p1 p2
          have OR7 : Obl (((w5.setCell ⟨w.heap.size, 0, none⟩ (.slice none 0 0)).setCell ⟨w.heap.size, 1, none⟩ (.slice none 0 0)).setCell ⟨w.heap.size, 2, none⟩ (.int .i64 0)) w.heap.size 25 #[.slice none 0 0, .slice none 0 0, .int .i64 0] := ((OR6.put 0 (.slice none 0 0)).put 1 (.slice none 0 0)).put 2 (.int .i64 0)
          have hbw7 := ((hbw6.setCell (p := ⟨w.heap.size, 0, none⟩) (Nat.le_refl _) (.slice none 0 0)).setCell (p := ⟨w.heap.size, 1, none⟩) (Nat.le_refl _) (.slice none 0 0)).setCell (p := ⟨w.heap.size, 2, none⟩) (Nat.le_refl _) (.int .i64 0)
          go_wp2
          refine bodyPost_ret (results_cell_tt rfl _ (b := w.heap.size) rfl OR7 Tryz.underlying25 rfl prSize) rfl ?_
          exact ParsePost.zero HG2.out rfl hbw7
        | zero =>
          have HG2 : Hid (Cd.parse s.data.toList = (st.prog, 0, 0)) := hide (by rw [HG1.out, Cd.parseG_end hce])
          have HE := hide hce
          clear hce hS
          go_wp2_with fail
          refine (check_any st.prog A D n c m d wr.heap.size _ hI hT (Nat.le_refl _) hn63 hm63 HSt.out HOr.out).mono ?_
          rintro e w5 ⟨rfl, hb5⟩
          rw [HE.out]
          have hbw6 := hbw.trans (hb5.mono hszr)
          have OR6 := ORr.below hb5 ORr.lt
          have hP5 := hP.below hb5
          have j0 := hP5.1.cell 0
          have j1 := hP5.1.cell 1
          have j2 := hP5.1.cell 2
          simp at j0 j1 j2
          have p0 := OR6.cell 0
          have p1 := OR6.cell 1
          have p2 := OR6.cell 2
          have z0 := OR6.free 0
          have z1 := OR6.free 1
          have z2 := OR6.free 2
          simp at p0 p1 p2
          have OR7 : Obl (((w5.setCell ⟨w.heap.size, 0, none⟩ (.slice A n c)).setCell ⟨w.heap.size, 1, none⟩ (.slice D m d)).setCell ⟨w.heap.size, 2, none⟩ (.int .i64 st.prog.pages)) w.heap.size 25 #[.slice A n c, .slice D m d, .int .i64 st.prog.pages] := ((OR6.put 0 (.slice A n c)).put 1 (.slice D m d)).put 2 (.int .i64 st.prog.pages)
          have hbw7 := ((hbw6.setCell (p := ⟨w.heap.size, 0, none⟩) (Nat.le_refl _) (.slice A n c)).setCell (p := ⟨w.heap.size, 1, none⟩) (Nat.le_refl _) (.slice D m d)).setCell (p := ⟨w.heap.size, 2, none⟩) (Nat.le_refl _) (.int .i64 st.prog.pages)
          have hA5 : w5.ownsRow w1.heap.size 32 4 (.slice A n c) n (iv st.prog.code) := hP5.2.2.1
          have hD5 : w5.ownsRow w1.heap.size 9 1 (.slice D m d) m (sv st.prog.strs) := hP5.2.2.2
          have HF : Hid (Inss (((w5.setCell ⟨w.heap.size, 0, none⟩ (.slice A n c)).setCell ⟨w.heap.size, 1, none⟩ (.slice D m d)).setCell ⟨w.heap.size, 2, none⟩ (.int .i64 st.prog.pages)) _ A n st.prog.code ∧ Strs (((w5.setCell ⟨w.heap.size, 0, none⟩ (.slice A n c)).setCell ⟨w.heap.size, 1, none⟩ (.slice D m d)).setCell ⟨w.heap.size, 2, none⟩ (.int .i64 st.prog.pages)) _ D m st.prog.strs) := hide (by
            have hne1 : (Value.slice A n c).ownBlock ≠ some w.heap.size := by rw [ownBlock_slice]; exact fun e => OR6.apart hA5 (by decide) e.symm
            have hne2 : (Value.slice D m d).ownBlock ≠ some w.heap.size := by rw [ownBlock_slice]; exact fun e => OR6.apart hD5 (by decide) e.symm
            exact ⟨Inss.of_own (ownsRow_setCell_other (ownsRow_setCell_other (ownsRow_setCell_other hA5 hne1 _) hne1 _) hne1 _), Strs.of_own (ownsRow_setCell_other (ownsRow_setCell_other (ownsRow_setCell_other hD5 hne2 _) hne2 _) hne2 _)⟩)
          clear hA5 hD5 hP5
          go_wp2
          refine bodyPost_ret (results_cell_tt rfl _ (b := w.heap.size) rfl OR7 Tryz.underlying25 rfl prSize) rfl ?_
          unfold ParsePost
          rw [HG2.out]
          exact ⟨A, n, c, D, m, d, rfl, HF.out, ⟨hn63, hm63⟩, hbw7⟩
end Go.Proofs.YtfjekckcpkkdiaaGreatDoor
