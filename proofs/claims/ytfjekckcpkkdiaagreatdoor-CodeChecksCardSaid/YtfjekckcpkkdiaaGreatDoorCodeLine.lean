/- Layer 4, the reader of a program's text: a line. -/
import Derived.Test.YtfjekckcpkkdiaaGreatDoorCodeReadIns
import Derived.Test.YtfjekckcpkkdiaaGreatDoorWordsLines
namespace Go.Proofs.YtfjekckcpkkdiaaGreatDoor
open Go.RowKit

namespace Wd
theorem next_words (K : Nat) (s : Nat × List UInt8 × List (List UInt8)) (c : UInt8) (n : Nat) (h1 : s.2.1.length + (n + 1) ≤ K) (h2 : ∀ x ∈ s.2.2, x.length ≤ K) : (next s c).2.1.length + n ≤ K ∧ ∀ x ∈ (next s c).2.2, x.length ≤ K := by
  have hpush : ∀ x ∈ s.2.2 ++ [s.2.1], x.length ≤ K := by
    intro x hx
    rcases List.mem_append.1 hx with hx | hx
    · exact h2 x hx
    · simp only [List.mem_singleton] at hx
      subst hx; omega
  unfold next
  repeat' split
  all_goals first
    | exact ⟨by simp only [List.length_append, List.length_cons, List.length_nil]; omega, h2⟩
    | exact ⟨by simp only [List.length_nil]; omega, hpush⟩
    | exact ⟨by omega, h2⟩
theorem run_words (K : Nat) (l : List UInt8) (s : Nat × List UInt8 × List (List UInt8)) (h1 : s.2.1.length + l.length ≤ K) (h2 : ∀ x ∈ s.2.2, x.length ≤ K) : (run s l).2.1.length ≤ K ∧ ∀ x ∈ (run s l).2.2, x.length ≤ K := by
  induction l generalizing s with
  | nil => exact ⟨by show s.2.1.length ≤ K; simpa using h1, h2⟩
  | cons c l ih =>
    rw [run_cons]
    obtain ⟨g1, g2⟩ := next_words K s c l.length (by simpa using h1) h2
    exact ih _ g1 g2
theorem split_words (l : List UInt8) : ∀ x ∈ (split l).1, x.length ≤ 4096 := by
  unfold split
  split
  · simp
  · rename_i h
    obtain ⟨g1, g2⟩ := run_words 4096 l (0, [], []) (by simpa using Nat.le_of_not_lt h) (by simp)
    unfold from_ fin
    split
    · unfold outcome
      simp only
      split
      · simp
      · exact g2
    · split
      · unfold outcome
        simp only
        split
        · simp
        · intro x hx
          rcases List.mem_append.1 hx with hx | hx
          · exact g2 x hx
          · simp only [List.mem_singleton] at hx
            subst hx; exact g1
      · simp [outcome]
theorem next_pos (s : Nat × List UInt8 × List (List UInt8)) (c : UInt8) : (next s c).1 ≠ 0 := by
  unfold next
  repeat' split
  all_goals simp
theorem run_pos (l : List UInt8) (s : Nat × List UInt8 × List (List UInt8)) (h : l ≠ [] ∨ s.1 ≠ 0) : (run s l).1 ≠ 0 := by
  induction l generalizing s with
  | nil => rcases h with h | h; exact absurd rfl h; exact h
  | cons c l ih => rw [run_cons]; exact ih _ (.inr (next_pos s c))
theorem split_some {l : List UInt8} (h : l ≠ []) (he : (split l).2 = 0) : (split l).1 ≠ [] := by
  unfold split at he ⊢
  split at he
  · simp at he
  · rename_i hl
    rw [if_neg hl]
    unfold from_ fin at he ⊢
    rw [if_neg (run_pos l _ (.inl h))] at he ⊢
    split at he
    · rename_i h5
      rw [if_pos h5]
      unfold outcome at he ⊢
      simp only at he ⊢
      split at he
      · simp at he
      · rename_i h6
        rw [if_neg h6]; simp
    · simp [outcome] at he
end Wd

theorem Strs.tail {w : World} {B b o n : Nat} {x : List UInt8} {l : List (List UInt8)} (h : Strs w B (some ⟨b, o, none⟩) (n + 1) (x :: l)) : Strs w B (some ⟨b, o + 1, none⟩) n l :=
  ⟨by have := h.1; simpa using this, by
    refine ⟨by have := h.1; rw [sv_length]; simp at this; omega, by simp, ?_⟩
    exact h.2.rd.drop_ 1⟩

theorem words_pages {s : Cd.St} {N : List UInt8} (rest : List (List UInt8)) (h : N = Cd.pagesW) : Cd.readWords s N rest = Cd.readPages s rest := by unfold Cd.readWords; rw [if_pos h]
theorem words_str {s : Cd.St} {N : List UInt8} (rest : List (List UInt8)) (h1 : N ≠ Cd.pagesW) (h : N = Cd.stringW) : Cd.readWords s N rest = Cd.readStr s rest := by unfold Cd.readWords; rw [if_neg h1, if_pos h]
theorem words_ins {s : Cd.St} {N : List UInt8} (rest : List (List UInt8)) (h1 : N ≠ Cd.pagesW) (h : N ≠ Cd.stringW) : Cd.readWords s N rest = Cd.readIns s N rest := by unfold Cd.readWords; rw [if_neg h1, if_neg h]

set_option maxHeartbeats 1000000 in
theorem read4_any (b base : Nat) (s : Cd.St) (N : List UInt8) (E : Option Addr) (q c0 : Nat) (rest : List (List UInt8)) (w : World) (hr : RdC w base b s) (hs : Strs w w.heap.size E q rest) (hq : q ≤ 9223372036854775807) (hw : ∀ x ∈ rest, x.length ≤ 4096) (hcl : s.prog.code.length ≤ 1000000) (hsl : s.prog.strs.length ≤ 1000000) (hL : Laid w) (hO : LaidO w) :
    Calls Tryz.prog 61 #[.pointer (some ⟨b, 0, none⟩), .string ⟨N.toArray⟩, .slice E q c0] w (ReadPost' (Cd.readWords s N rest) base b w) := by
  have HR := hide hr
  have HS := hide hs
  have HW := hide hw
  have HL := hide hL
  have HO := hide hO
  clear hr hs hw hL hO
  by_cases h1 : N = Cd.pagesW
  · rw [words_pages rest h1]
    have e1 : ((⟨N.toArray⟩ : ByteArray).toList == [112, 97, 103, 101, 115]) = true := by rw [h1, ba_list]; rfl
    have e1' : (N == [112, 97, 103, 101, 115]) = true := by rw [h1]; rfl
    clear h1
    go_enter Tryz.func61, Tryz.ntmps61
    go_wp2_with fail
    refine (readPages_any b base s E q c0 rest _ HR.out HS.out hq HW.out HL.out).mono ?_
    rintro e w1 ⟨rfl, hb, hst⟩
    have HX := hide hst
    clear hst
    go_wp2
    go_ret
    exact ⟨rfl, hb, HX.out⟩
  · have e1 : ((⟨N.toArray⟩ : ByteArray).toList == [112, 97, 103, 101, 115]) = false := by rw [ba_list]; simpa [Cd.pagesW] using h1
    have e1' : (N == [112, 97, 103, 101, 115]) = false := by simpa [Cd.pagesW] using h1
    by_cases h2 : N = Cd.stringW
    · rw [words_str rest h1 h2]
      have e2 : ((⟨N.toArray⟩ : ByteArray).toList == [115, 116, 114, 105, 110, 103]) = true := by rw [h2, ba_list]; rfl
      have e2' : (N == [115, 116, 114, 105, 110, 103]) = true := by rw [h2]; rfl
      clear h1 h2
      go_enter Tryz.func61, Tryz.ntmps61
      go_wp2_with fail
      refine (readString_any b base s E q c0 rest _ HR.out HS.out hq hsl).mono ?_
      rintro e w1 ⟨rfl, hb, hst⟩
      have HX := hide hst
      clear hst
      go_wp2
      go_ret
      exact ⟨rfl, hb, HX.out⟩
    · rw [words_ins rest h1 h2]
      have e2 : ((⟨N.toArray⟩ : ByteArray).toList == [115, 116, 114, 105, 110, 103]) = false := by rw [ba_list]; simpa [Cd.stringW] using h2
      have e2' : (N == [115, 116, 114, 105, 110, 103]) = false := by simpa [Cd.stringW] using h2
      clear h1 h2
      go_enter Tryz.func61, Tryz.ntmps61
      go_wp2_with fail
      refine (readInstruction_any b base s N E q c0 rest _ HR.out HS.out hq HW.out hcl HL.out HO.out).mono ?_
      rintro e w1 ⟨rfl, hb, hst⟩
      have HX := hide hst
      clear hst
      go_wp2
      go_ret
      exact ⟨rfl, hb, HX.out⟩

def LinePost (r : Except Nat Cd.St) (base b : Nat) (w : World) (e : Ending) (w' : World) : Prop := Bel base b w w' ∧ match r with
  | .ok s' => e = .returned (.int .i64 0) ∧ RdC w' base b s'
  | .error er => er ≠ 0 ∧ e = .returned (.int .i64 (er : Int))
theorem LinePost.ok {r : Except Nat Cd.St} {s' : Cd.St} {base b : Nat} {w w' : World} {e : Ending} (hr : r = .ok s') (he : e = .returned (.int .i64 0)) (hb : Bel base b w w') (hs : RdC w' base b s') : LinePost r base b w e w' := by subst hr; exact ⟨hb, he, hs⟩
theorem LinePost.err {r : Except Nat Cd.St} {er : Nat} {base b : Nat} {w w' : World} {e : Ending} (hr : r = .error er) (h0 : er ≠ 0) (he : e = .returned (.int .i64 (er : Int))) (hb : Bel base b w w') : LinePost r base b w e w' := by subst hr; exact ⟨hb, h0, he⟩
theorem prefix35 (c : UInt8) (l : List UInt8) : Lib.hasPrefix (c :: l) [35] = decide (c = 35) := by
  show ((35 : UInt8) == c && _) = _
  by_cases h : c = 35
  · subst h; rfl
  · rw [decide_eq_false h]
    have : ((35 : UInt8) == c) = false := by simpa using fun e => h e.symm
    rw [this]; rfl
theorem line_passed {s : Cd.St} {L : List UInt8} (h : Cd.passed L = true) : Cd.readLine s L = .ok s := by unfold Cd.readLine; rw [if_pos h]
theorem line_bad {s : Cd.St} {L : List UInt8} (h : Cd.passed L = false) (he : (Wd.split L).2 ≠ 0) : Cd.readLine s L = .error (Wd.split L).2 := by unfold Cd.readLine; rw [if_neg (by simp [h]), if_neg he]
theorem line_words {s : Cd.St} {L : List UInt8} {N : List UInt8} {rest : List (List UInt8)} (h : Cd.passed L = false) (he : Wd.split L = (N :: rest, 0)) : Cd.readLine s L = match Cd.readWords s N rest with
    | some s' => .ok s'
    | none => .error 5 := by unfold Cd.readLine; rw [if_neg (by simp [h]), he]; rfl
theorem line_ok {s s' : Cd.St} {L : List UInt8} {N : List UInt8} {rest : List (List UInt8)} (h : Cd.passed L = false) (he : Wd.split L = (N :: rest, 0)) (hw : Cd.readWords s N rest = some s') : Cd.readLine s L = .ok s' := by rw [line_words h he, hw]
theorem line_no {s : Cd.St} {L : List UInt8} {N : List UInt8} {rest : List (List UInt8)} (h : Cd.passed L = false) (he : Wd.split L = (N :: rest, 0)) (hw : Cd.readWords s N rest = none) : Cd.readLine s L = .error 5 := by rw [line_words h he, hw]

set_option maxRecDepth 100000 in
set_option maxHeartbeats 2000000 in
theorem readLine_any (b base : Nat) (s : Cd.St) (L : List UInt8) (w : World) (hr : RdC w base b s) (hl : L.length ≤ 1048576) (hcl : s.prog.code.length ≤ 1000000) (hsl : s.prog.strs.length ≤ 1000000) (hL : Laid w) (hO : LaidO w) :
    Calls Tryz.prog 39 #[.pointer (some ⟨b, 0, none⟩), .string ⟨L.toArray⟩] w (LinePost (Cd.readLine s L) base b w) := by
  have hbase : base ≤ w.heap.size := by obtain ⟨_, _, _, _, _, _, h⟩ := hr; exact h.base_le
  rcases L with _ | ⟨ch, L'⟩
  · have HN : Hid (Cd.readLine s [] = .ok s) := hide (line_passed rfl)
    have HR := hide hr
    clear hr hL hO
    go_enter Tryz.func39, Tryz.ntmps39
    go_wp2
    go_ret
    exact LinePost.ok HN.out rfl (Bel.of (Below.refl _ _)) HR.out
  · have hLn : ch :: L' ≠ [] := by simp
    have e0 : ((⟨(ch :: L').toArray⟩ : ByteArray).toList.isEmpty) = false := by rw [ba_list]; rfl
    have e0' : ((ch :: L') == []) = false := rfl
    have HPf : Hid (Lib.hasPrefix (⟨(ch :: L').toArray⟩ : ByteArray).data.toList (⟨#[35]⟩ : ByteArray).data.toList = decide (ch = 35)) := hide (prefix35 ch L')
    have hps : Cd.passed (ch :: L') = decide (ch = 35) := by unfold Cd.passed; simp
    by_cases h35 : ch = 35
    · have HN : Hid (Cd.readLine s (ch :: L') = .ok s) := hide (line_passed (by rw [hps]; simpa using h35))
      have HD := hide (decide_eq_true h35)
      have HR := hide hr
      clear hr hL hO hps h35
      generalize (ch :: L') = L at *
      go_enter Tryz.func39, Tryz.ntmps39
      go_wp2_with fail
      refine (Tryz.strings_HasPrefix ⟨L.toArray⟩ ⟨#[35]⟩ _).mono ?_
      rintro e w1 ⟨rfl, hw1⟩
      have hw1' := hw1.symm
      subst hw1'
      rw [HPf.out, HD.out]
      go_wp2
      go_ret
      exact LinePost.ok HN.out rfl (Bel.of (Below.refl _ _)) HR.out
    · have hpf : Cd.passed (ch :: L') = false := by rw [hps]; simpa using h35
      have HP := hide hpf
      have HD := hide (decide_eq_false h35)
      have HR := hide hr
      have HL := hide hL
      have HO := hide hO
      have hss : (⟨(ch :: L').toArray⟩ : ByteArray).size ≤ 1048576 := by rw [ba_size]; exact hl
      have HWd := hide (Wd.split_words (ch :: L'))
      cases he : (Wd.split (ch :: L')).2 with
      | succ er =>
        have HN : Hid (Cd.readLine s (ch :: L') = .error (er + 1)) := hide (by rw [line_bad hpf (by omega), he])
        have HE := hide he
        have ene : ((((er + 1 : Nat)) : Int) != 0) = true := by simp; omega
        clear hr hL hO hps h35 hpf he
        generalize (ch :: L') = L at *
        go_enter Tryz.func39, Tryz.ntmps39
        go_wp2_with fail
        refine (Tryz.strings_HasPrefix ⟨L.toArray⟩ ⟨#[35]⟩ _).mono ?_
        rintro e w1 ⟨rfl, hw1⟩
        have hw1' := hw1.symm
        subst hw1'
        rw [HPf.out, HD.out]
        go_wp2_with fail
        refine (split_any ⟨L.toArray⟩ _ (by omega)).mono ?_
        rintro e w2 ⟨A1, c1, rfl, hc1, hc63, hS1, hb1⟩
        rw [show (⟨L.toArray⟩ : ByteArray).data.toList = L from rfl, HE.out]
        have hfin := Bel.of (b := b) (hb1.mono hbase)
        go_wp2
        go_ret
        exact LinePost.err HN.out (by omega) rfl hfin
      | zero =>
        have hsome := Wd.split_some hLn he
        obtain ⟨N, rest, hNr⟩ : ∃ N rest, (Wd.split (ch :: L')).1 = N :: rest := by
          cases hx : (Wd.split (ch :: L')).1 with
          | nil => exact absurd hx hsome
          | cons N rest => exact ⟨N, rest, rfl⟩
        have hsp : Wd.split (ch :: L') = (N :: rest, 0) := Prod.ext hNr he
        have HSp := hide hsp
        have HWs : Hid (∀ x ∈ rest, x.length ≤ 4096) := hide (fun x hx => HWd.out x (by rw [hNr]; simp [hx]))
        clear hr hL hO hps h35 he hsome hNr hsp HWd
        cases hv : Cd.readWords s N rest with
        | none =>
          have HN : Hid (Cd.readLine s (ch :: L') = .error 5) := hide (line_no hpf HSp.out hv)
          have HV := hide hv
          clear hv hpf
          generalize (ch :: L') = L at *
          go_enter Tryz.func39, Tryz.ntmps39
          go_wp2_with fail
          refine (Tryz.strings_HasPrefix ⟨L.toArray⟩ ⟨#[35]⟩ _).mono ?_
          rintro e w1 ⟨rfl, hw1⟩
          have hw1' := hw1.symm
          subst hw1'
          rw [HPf.out, HD.out]
          go_wp2_with fail
          refine (split_any ⟨L.toArray⟩ _ (by omega)).mono ?_
          rintro e w2 ⟨A1, c1, rfl, hc1, hc63, hS, hb1⟩
          rw [show (⟨L.toArray⟩ : ByteArray).data.toList = L from rfl] at hc1 hS ⊢
          rw [HSp.out] at hc1 hS ⊢
          simp only [List.length_cons] at hc1 hS ⊢
          obtain ⟨bl, ol, hl0, rfl, hbl, hcl0⟩ := hS.at_ (k := 0) (by omega)
          simp only [Nat.add_zero, List.getElem_cons_zero] at hcl0
          obtain ⟨AR, hAR⟩ : ∃ AR : Option Addr, (if c1 = 1 then some (⟨bl, ol, none⟩ : Addr) else some (⟨bl, ol + 1, none⟩ : Addr)) = AR := ⟨_, rfl⟩
          have hT : Strs w2 w2.heap.size AR rest.length rest := by
            by_cases hc : c1 = 1
            · have hr0 : rest = [] := List.eq_nil_of_length_eq_zero (by omega)
              subst hr0
              exact Strs.nil
            · rw [if_neg hc] at hAR
              subst hAR
              exact hS.tail
          have h1 := HR.out.below hb1
          have HL1 := hide (HL.out.below hb1)
          have HO1 := hide (HO.out.below hb1)
          clear hl0 hS
          go_wp2_with fail
          refine region_C (by kernel_rfl) w2.drew.heap.size [6] ?_
          replace h1 : RdC w2.drew base b s := h1
          have hS1 : Strs w2.drew w2.drew.heap.size AR rest.length rest := hT
          replace HL1 : Hid (Laid w2.drew) := HL1
          replace HO1 : Hid (LaidO w2.drew) := HO1
          replace hbl : bl < w2.drew.heap.size := hbl
          replace hcl0 : w2.drew.cell? ⟨bl, ol, none⟩ = some (.string ⟨N.toArray⟩) := hcl0
          have hbb : Bel base b w w2.drew := Bel.of (hb1.mono hbase).drew
          clear hT hb1
          generalize w2.drew = w0 at *
          refine takeX 0 rfl (by kernel_rfl) (fun _ _ _ h => h) (by rfl) (by intro w'; go_simp; try with_reducible rfl) ?_
          refine takeX 1 rfl (by kernel_rfl) (fun _ _ _ h => h) (by rfl) (by intro w'; go_simp; try with_reducible rfl) ?_
          refine takeX 2 rfl (by kernel_rfl) (fun _ _ _ h => h) (by rfl) (by intro w'; go_simp; try with_reducible rfl) ?_
          refine takeC 3 [3, 6, 7] rfl (by kernel_rfl) (fun _ _ _ h => h) (by rfl) (by intro w' hg; have g0 := (hg.cell (p := ⟨bl, ol, none⟩) hbl).trans hcl0; go_simp; try with_reducible rfl) ?_
          refine takeX 4 rfl (by kernel_rfl) (fun _ _ _ h => h) (by rfl) (by intro w'; go_simp; try with_reducible rfl) ?_
          refine takeX 5 rfl (by kernel_rfl) (fun _ _ _ h => h) (by rfl) (by intro w'; have h1n : (1 : Int) ≤ (rest.length : Int) + 1 := (by omega); go_simp; try with_reducible rfl) ?_
          refine onlyC 6 rfl (by kernel_rfl) (by rfl) ?_
          intro K hK
          go_simp
          refine (read4_any b base s N AR rest.length (c1 - 1) rest _ h1 hS1 (by omega) HWs.out hcl hsl HL1.out HO1.out).mono ?_
          rintro e w5 ⟨rfl, hb5, hst⟩
          have HX := hide hst
          clear hst
          rw [HV.out]
          refine hK _ _ (fun h => absurd h (by decide)) ?_
          clear hK K
          refine takeX 7 rfl (by kernel_rfl) (fun _ _ _ h => h) (by rfl) (by intro w'; go_simp; try with_reducible rfl) ?_
          refine doneC (by kernel_rfl) ?_
          go_simp
          have hfin := hbb.trans hb5
          · skip
            go_wp2
            go_ret
            exact LinePost.err HN.out (by omega) rfl hfin
        | some s' =>
          have HN : Hid (Cd.readLine s (ch :: L') = .ok s') := hide (line_ok hpf HSp.out hv)
          have HV := hide hv
          clear hv hpf
          generalize (ch :: L') = L at *
          go_enter Tryz.func39, Tryz.ntmps39
          go_wp2_with fail
          refine (Tryz.strings_HasPrefix ⟨L.toArray⟩ ⟨#[35]⟩ _).mono ?_
          rintro e w1 ⟨rfl, hw1⟩
          have hw1' := hw1.symm
          subst hw1'
          rw [HPf.out, HD.out]
          go_wp2_with fail
          refine (split_any ⟨L.toArray⟩ _ (by omega)).mono ?_
          rintro e w2 ⟨A1, c1, rfl, hc1, hc63, hS, hb1⟩
          rw [show (⟨L.toArray⟩ : ByteArray).data.toList = L from rfl] at hc1 hS ⊢
          rw [HSp.out] at hc1 hS ⊢
          simp only [List.length_cons] at hc1 hS ⊢
          obtain ⟨bl, ol, hl0, rfl, hbl, hcl0⟩ := hS.at_ (k := 0) (by omega)
          simp only [Nat.add_zero, List.getElem_cons_zero] at hcl0
          obtain ⟨AR, hAR⟩ : ∃ AR : Option Addr, (if c1 = 1 then some (⟨bl, ol, none⟩ : Addr) else some (⟨bl, ol + 1, none⟩ : Addr)) = AR := ⟨_, rfl⟩
          have hT : Strs w2 w2.heap.size AR rest.length rest := by
            by_cases hc : c1 = 1
            · have hr0 : rest = [] := List.eq_nil_of_length_eq_zero (by omega)
              subst hr0
              exact Strs.nil
            · rw [if_neg hc] at hAR
              subst hAR
              exact hS.tail
          have h1 := HR.out.below hb1
          have HL1 := hide (HL.out.below hb1)
          have HO1 := hide (HO.out.below hb1)
          clear hl0 hS
          go_wp2_with fail
          refine region_C (by kernel_rfl) w2.drew.heap.size [6] ?_
          replace h1 : RdC w2.drew base b s := h1
          have hS1 : Strs w2.drew w2.drew.heap.size AR rest.length rest := hT
          replace HL1 : Hid (Laid w2.drew) := HL1
          replace HO1 : Hid (LaidO w2.drew) := HO1
          replace hbl : bl < w2.drew.heap.size := hbl
          replace hcl0 : w2.drew.cell? ⟨bl, ol, none⟩ = some (.string ⟨N.toArray⟩) := hcl0
          have hbb : Bel base b w w2.drew := Bel.of (hb1.mono hbase).drew
          clear hT hb1
          generalize w2.drew = w0 at *
          refine takeX 0 rfl (by kernel_rfl) (fun _ _ _ h => h) (by rfl) (by intro w'; go_simp; try with_reducible rfl) ?_
          refine takeX 1 rfl (by kernel_rfl) (fun _ _ _ h => h) (by rfl) (by intro w'; go_simp; try with_reducible rfl) ?_
          refine takeX 2 rfl (by kernel_rfl) (fun _ _ _ h => h) (by rfl) (by intro w'; go_simp; try with_reducible rfl) ?_
          refine takeC 3 [3, 6, 7] rfl (by kernel_rfl) (fun _ _ _ h => h) (by rfl) (by intro w' hg; have g0 := (hg.cell (p := ⟨bl, ol, none⟩) hbl).trans hcl0; go_simp; try with_reducible rfl) ?_
          refine takeX 4 rfl (by kernel_rfl) (fun _ _ _ h => h) (by rfl) (by intro w'; go_simp; try with_reducible rfl) ?_
          refine takeX 5 rfl (by kernel_rfl) (fun _ _ _ h => h) (by rfl) (by intro w'; have h1n : (1 : Int) ≤ (rest.length : Int) + 1 := (by omega); go_simp; try with_reducible rfl) ?_
          refine onlyC 6 rfl (by kernel_rfl) (by rfl) ?_
          intro K hK
          go_simp
          refine (read4_any b base s N AR rest.length (c1 - 1) rest _ h1 hS1 (by omega) HWs.out hcl hsl HL1.out HO1.out).mono ?_
          rintro e w5 ⟨rfl, hb5, hst⟩
          have HX := hide hst
          clear hst
          rw [HV.out]
          refine hK _ _ (fun h => absurd h (by decide)) ?_
          clear hK K
          refine takeX 7 rfl (by kernel_rfl) (fun _ _ _ h => h) (by rfl) (by intro w'; go_simp; try with_reducible rfl) ?_
          refine doneC (by kernel_rfl) ?_
          go_simp
          have hfin := hbb.trans hb5
          · skip
            go_wp2
            go_ret
            exact LinePost.ok HN.out rfl hfin (HX.out _ HV.out)
end Go.Proofs.YtfjekckcpkkdiaaGreatDoor
