/- Layer 4, code.Check and what it calls: contracts. -/
import Derived.Test.YtfjekckcpkkdiaaGreatDoorCodeMem
import Derived.Deep.QuietTactic
import Derived.BigQuiet
import Derived.Handy
namespace Go.Proofs.YtfjekckcpkkdiaaGreatDoor
open Go.RowKit

theorem results_cell_1 {P : Program} {w : World} {fn : Func} {p : Tmp} {ty : TypeId} (hr : fn.results = #[.cell p ty]) (tmps : Array Value) {b : Nat} {t : TypeId} {cs : Array Value} {d : TypeDesc}
    (hp : tmps.getD p undef = .pointer (some ⟨b, 0, none⟩)) (h : Obl w b t cs) (hu : P.underlying ty = some d) (hd : (match d with | .struct _ | .array _ _ => true | _ => false) = true) (hi : (P.info? ty).map (·.size) = some cs.size) :
    (results fn tmps).run P w = .ok (.agg cs) w := by
  have hp' : tmps[p]?.getD undef = .pointer (some ⟨b, 0, none⟩) := by simpa using hp
  simp [results, hr, hp', asAddr, h.load hu hd hi]
theorem insSize : (Tryz.prog.info? 32).map (·.size) = some 4 := by kernel_rfl
theorem valSize : (Tryz.prog.info? 88).map (·.size) = some 3 := by kernel_rfl

theorem isLong_any (s : ByteArray) (w : World) (hs : s.size ≤ 9223372036854775807) : Calls Tryz.prog 24 #[.string s] w fun e w' => e = .returned (.bool (decide (128 < s.size))) ∧ w = w' := by
  go_enter Tryz.func24, Tryz.ntmps24
  go_wp2
  go_ret
  exact ⟨ret_bool (decide_eq_decide.2 (by omega)), rfl⟩

set_option maxHeartbeats 1000000 in
/-- The first long string, or -1. -/
theorem indexFunc_any (A : Option Addr) (n c B : Nat) (l : List (List UInt8)) (w : World) (hl : Strs w B A n l) (hn : n ≤ 9223372036854775807) (hm : ∀ x ∈ l, x.length ≤ 9223372036854775807) :
    Calls Tryz.prog 48 #[.slice A n c, .func (.func 24) #[] #[]] w fun e w' => (∃ v : Int, e = .returned (.int .i64 v) ∧ decide (0 ≤ v) = l.any fun s => decide (128 < s.length)) ∧ w = w' := by
  have hlen := hl.len
  have hm' : ∀ k (h : k < l.length), l[k].length ≤ 9223372036854775807 := fun k h => hm _ (List.getElem_mem h)
  have HM := hide hm'
  clear hm hm'
  go_enter Tryz.func48, Tryz.ntmps48
  go_wp2_with fail
  go_loop [8] (fun s8 => ∃ k : Nat, s8 = .int .i64 (k : Int) ∧ k ≤ n ∧ Hid ((l.take k).any (fun s => decide (128 < s.length)) = false)) (fun s8 => n - (intOf s8).toNat)
  case atStart => exact ⟨0, rfl, by omega, hide (by simp)⟩
  case round =>
    obtain ⟨k, rfl, hk, HA⟩ := hrel
    by_cases hlt : k < n
    · obtain ⟨b, o, hkl, rfl, hb, hcell⟩ := hl.at_ hlt
      have hx : (⟨l[k].toArray⟩ : ByteArray).size ≤ 9223372036854775807 := by rw [ba_size]; exact HM.out k hkl
      have Hs : Hid ((⟨l[k].toArray⟩ : ByteArray).size = l[k].length) := hide (ba_size _)
      have Hsn : Hid (l.take (k + 1) = l.take k ++ [l[k]]) := hide (List.take_succ_eq_append_getElem hkl)
      have Hmem : Hid (l[k] ∈ l) := hide (List.getElem_mem hkl)
      generalize l[k] = x at *
      by_cases hlong : 128 < (⟨x.toArray⟩ : ByteArray).size
      · have Hany : Hid (l.any (fun s => decide (128 < s.length)) = true) := hide (List.any_eq_true.2 ⟨x, Hmem.out, by rw [← Hs.out]; simpa using hlong⟩)
        go_wp2_with fail
        refine (isLong_any ⟨x.toArray⟩ _ hx).mono ?_
        rintro e w1 ⟨rfl, rfl⟩
        rw [decide_eq_true hlong]
        go_wp2
        go_ret
        exact ⟨⟨(k : Int), by go_num, by rw [Hany.out]; simp⟩, rfl⟩
      · have HA2 : Hid ((l.take (k + 1)).any (fun s => decide (128 < s.length)) = false) := hide (by rw [Hsn.out, List.any_append, HA.out]; simp only [List.any_cons, List.any_nil, Bool.or_false, Bool.false_or]; rw [← Hs.out]; exact decide_eq_false hlong)
        go_wp2_with fail
        refine (isLong_any ⟨x.toArray⟩ _ hx).mono ?_
        rintro e w1 ⟨rfl, rfl⟩
        rw [decide_eq_false hlong]
        go_wp2
        go_round
        case rel => exact ⟨k + 1, by go_num, by omega, HA2⟩
        case measure => simp [intOf]; omega
    · obtain rfl : k = n := by omega
      have HA2 : Hid (l.any (fun s => decide (128 < s.length)) = false) := hide (by have := HA.out; rwa [List.take_of_length_le (by omega)] at this)
      go_wp2
      go_ret
      exact ⟨⟨-1, rfl, by rw [HA2.out]; rfl⟩, rfl⟩

set_option maxHeartbeats 1000000 in
theorem containsFunc_any (A : Option Addr) (n c B : Nat) (l : List (List UInt8)) (w : World) (hl : Strs w B A n l) (hn : n ≤ 9223372036854775807) (hm : ∀ x ∈ l, x.length ≤ 9223372036854775807) :
    Calls Tryz.prog 23 #[.slice A n c, .func (.func 24) #[] #[]] w fun e w' => e = .returned (.bool (l.any fun s => decide (128 < s.length))) ∧ w = w' := by
  have HM := hide hm
  clear hm
  go_enter Tryz.func23, Tryz.ntmps23
  go_wp2_with fail
  refine (indexFunc_any A n c B l _ hl hn HM.out).mono ?_
  rintro e w1 ⟨⟨v, rfl, hv⟩, rfl⟩
  have HV := hide hv
  clear hv
  go_wp2
  go_ret
  exact ⟨ret_bool HV.out, rfl⟩

set_option maxHeartbeats 1000000 in
theorem valuesOf_any (x : Cd.Ins) (w : World) : Calls Tryz.prog 49 #[ia x] w fun e w' => e = .returned (.agg #[.int .i64 x.a, .int .i64 x.b, .int .i64 x.c]) ∧ Below w.heap.size w w' := by
  obtain ⟨op, a, b, c⟩ := x
  unfold ia
  simp only
  have O1 := Obl.make w 32 #[.int .i64 op, .int .i64 a, .int .i64 b, .int .i64 c]
  go_enter Tryz.func49, Tryz.ntmps49
  go_wp2
  have O2 : Obl ((w.alloc (.cells #[.int .i64 op, .int .i64 a, .int .i64 b, .int .i64 c] 32)).alloc (.cells #[.int .i64 a, .int .i64 b, .int .i64 c] 88)) (w.heap.size + 1) 88 #[.int .i64 a, .int .i64 b, .int .i64 c] := by
    simpa using Obl.make (w.alloc (.cells #[.int .i64 op, .int .i64 a, .int .i64 b, .int .i64 c] 32)) 88 #[.int .i64 a, .int .i64 b, .int .i64 c]
  refine bodyPost_ret (results_cell_1 rfl _ (b := w.heap.size + 1) rfl O2 Tryz.underlying88 rfl valSize) rfl ?_
  refine ⟨rfl, ?_⟩
  go_grown
set_option maxHeartbeats 1000000 in
theorem makeInstr_any (op a b c : Int) (w : World) : Calls Tryz.prog 94 #[.int .i64 op, .agg #[.int .i64 a, .int .i64 b, .int .i64 c]] w fun e w' => e = .returned (ia ⟨op, a, b, c⟩) ∧ Below w.heap.size w w' := by
  unfold ia
  simp only
  have O1 := Obl.make w 88 #[.int .i64 a, .int .i64 b, .int .i64 c]
  go_enter Tryz.func94, Tryz.ntmps94
  go_wp2
  have O2 : Obl ((w.alloc (.cells #[.int .i64 a, .int .i64 b, .int .i64 c] 88)).alloc (.cells #[.int .i64 op, .int .i64 a, .int .i64 b, .int .i64 c] 32)) (w.heap.size + 1) 32 #[.int .i64 op, .int .i64 a, .int .i64 b, .int .i64 c] := by
    simpa using Obl.make (w.alloc (.cells #[.int .i64 a, .int .i64 b, .int .i64 c] 88)) 32 #[.int .i64 op, .int .i64 a, .int .i64 b, .int .i64 c]
  refine bodyPost_ret (results_cell_1 rfl _ (b := w.heap.size + 1) rfl O2 Tryz.underlying32 rfl insSize) rfl ?_
  refine ⟨rfl, ?_⟩
  go_grown

/-- Two numbers. -/
def IntsPost (x y : Int) (w : World) (e : Ending) (w' : World) : Prop := e = .returned (.tuple #[.int .i64 x, .int .i64 y]) ∧ Below w.heap.size w w'
theorem IntsPost.of {x y x' y' : Int} {w w' : World} {e : Ending} (hx : x = x') (hy : y = y') (he : e = .returned (.tuple #[.int .i64 x', .int .i64 y'])) (hb : Below w.heap.size w w') : IntsPost x y w e w' := by subst hx hy; exact ⟨he, hb⟩

set_option maxHeartbeats 1000000 in
theorem bounds_any (nm f : ByteArray) (ls ms : Int) (i n : Nat) (j : Int) (w : World) (_hf : f.size ≤ 9223372036854775807) (_hi : i ≤ 100) (hj : j = (i : Int)) :
    Calls Tryz.prog 50 #[.agg #[.string nm, .string f, .int .i64 ls, .int .i64 ms], .int .i64 j, .int .i64 (n : Int)] w (IntsPost (Cd.bnd ⟨nm.data.toList, f.data.toList, ls, ms⟩ n i).1 (Cd.bnd ⟨nm.data.toList, f.data.toList, ls, ms⟩ n i).2 w) := by
  subst hj
  have hsz := Lib.size_eq f
  have O1 := Obl.make w 92 #[.string nm, .string f, .int .i64 ls, .int .i64 ms]
  by_cases hlt : i < f.size
  · have hat := str_at hlt
    by_cases h1 : f[i] = 114
    · have hB : Hid (Cd.bnd ⟨nm.data.toList, f.data.toList, ls, ms⟩ n i = (0, 7)) := hide (by unfold Cd.bnd; simp only [hat, h1, if_true])
      have e1 : ((f[i].toNat : Int) == 114) = true := by rw [h1]; rfl
      clear hat h1 hsz
      go_enter Tryz.func50, Tryz.ntmps50
      go_wp2
      go_ret2
      refine IntsPost.of (by rw [hB.out]) (by rw [hB.out]) rfl ?_
      go_grown
    · have n1 := ne_nat h1
      by_cases h2 : f[i] = 116
      · have hB : Hid (Cd.bnd ⟨nm.data.toList, f.data.toList, ls, ms⟩ n i = (0, (n : Int))) := hide (by unfold Cd.bnd; simp only [hat, h2]; rfl)
        have e1 : ((f[i].toNat : Int) == 114) = false := by rw [h2]; rfl
        have e2 : ((f[i].toNat : Int) == 116) = true := by rw [h2]; rfl
        clear hat h1 hsz n1 h2
        go_enter Tryz.func50, Tryz.ntmps50
        go_wp2
        go_ret2
        refine IntsPost.of (by rw [hB.out]) (by rw [hB.out]) rfl ?_
        go_grown
      · have n2 := ne_nat h2
        have hB : Hid (Cd.bnd ⟨nm.data.toList, f.data.toList, ls, ms⟩ n i = (ls, ms)) := hide (by unfold Cd.bnd; simp only [hat, if_neg h1, if_neg h2])
        have e1 : ((f[i].toNat : Int) == 114) = false := by simpa using fun h => n1 (by rw [show (114 : UInt8).toNat = 114 from rfl]; omega)
        have e2 : ((f[i].toNat : Int) == 116) = false := by simpa using fun h => n2 (by rw [show (116 : UInt8).toNat = 116 from rfl]; omega)
        clear hat h1 hsz n1 h2 n2
        go_enter Tryz.func50, Tryz.ntmps50
        go_wp2_with (go_quiet (fail))
        all_goals
          go_ret2
          refine IntsPost.of (by rw [hB.out]) (by rw [hB.out]) rfl ?_
          first | (go_grown; done) | exact below_drewN ((Below.refl _ _).alloc (Nat.le_refl _) _) _
  · have hB : Hid (Cd.bnd ⟨nm.data.toList, f.data.toList, ls, ms⟩ n i = (0, 0)) := hide (by unfold Cd.bnd; simp only; rw [List.getElem?_eq_none (by omega)])
    clear hsz
    go_enter Tryz.func50, Tryz.ntmps50
    go_wp2
    go_ret2
    refine IntsPost.of (by rw [hB.out]) (by rw [hB.out]) rfl ?_
    go_grown

/-- An operation, as its cells hold it. -/
theorem opn_open {k : Nat} (hk : k < 13) : ∃ (nm f : ByteArray) (ls ms : Int), Cd.opn (k : Int) = ⟨nm.data.toList, f.data.toList, ls, ms⟩ ∧ f.size ≤ 3 ∧ nm.size ≤ 5 ∧ ∀ w, LaidO w →
    w.cell? ⟨0, k * 4, none⟩ = some (.string nm) ∧ w.cell? ⟨0, k * 4 + 1, none⟩ = some (.string f) ∧
    w.cell? ⟨0, k * 4 + 2, none⟩ = some (.int .i64 ls) ∧ w.cell? ⟨0, k * 4 + 3, none⟩ = some (.int .i64 ms) := by
  refine ⟨⟨(Cd.opn (k : Int)).name.toArray⟩, ⟨(Cd.opn (k : Int)).form.toArray⟩, (Cd.opn (k : Int)).least, (Cd.opn (k : Int)).most, rfl, ?_, ?_, fun w h => h.at_ hk⟩
  · rw [ba_size]; exact Cd.form_le _
  · rw [ba_size]; exact (Cd.name_ok (by omega) (by omega)).2.2.1
theorem right_not {n : Nat} {x : Cd.Ins} (h : x.op < 0 ∨ 12 < x.op) : Cd.right n x = false := by
  unfold Cd.right
  rcases h with h | h
  · rw [decide_eq_false (by omega)]; rfl
  · rw [decide_eq_false (p := x.op ≤ 12) (by omega)]; simp
theorem right_op {n k : Nat} (hk : k < 13) (a b c : Int) {o : Cd.Opn} (ho : Cd.opn (k : Int) = o) : Cd.right n ⟨(k : Int), a, b, c⟩ = (Cd.fits o n 0 a && (Cd.fits o n 1 b && Cd.fits o n 2 c)) := by
  subst ho
  unfold Cd.right
  rw [decide_eq_true (show 0 ≤ ((k : Nat) : Int) by omega), decide_eq_true (show ((k : Nat) : Int) ≤ 12 by omega)]; rfl
/-- The operands ahead of j are right. -/
def fitsTo (o : Cd.Opn) (n : Nat) (a b c : Int) (j : Nat) : Prop := (0 < j → Cd.fits o n 0 a = true) ∧ (1 < j → Cd.fits o n 1 b = true) ∧ (2 < j → Cd.fits o n 2 c = true)
theorem fits_no {o : Cd.Opn} {n i : Nat} {v : Int} (h : v < (Cd.bnd o n i).1 ∨ (Cd.bnd o n i).2 < v) : Cd.fits o n i v = false := by
  unfold Cd.fits
  rcases h with h | h
  · rw [decide_eq_false (by omega)]; rfl
  · rw [decide_eq_false (p := v ≤ _) (by omega)]; simp
theorem fits_yes {o : Cd.Opn} {n i : Nat} {v : Int} (h1 : ¬ v < (Cd.bnd o n i).1) (h2 : ¬ (Cd.bnd o n i).2 < v) : Cd.fits o n i v = true := by
  unfold Cd.fits
  rw [decide_eq_true (by omega), decide_eq_true (by omega)]; rfl

end Go.Proofs.YtfjekckcpkkdiaaGreatDoor
