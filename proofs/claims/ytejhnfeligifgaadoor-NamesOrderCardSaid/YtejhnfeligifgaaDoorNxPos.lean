/- Layer 9: package names' position: a contract. -/
import Derived.Test.YtejhnfeligifgaaDoorNxMath
import Derived.Test.YtejhnfeligifgaaDoorNmValid
import Derived.Test.YtejhnfeligifgaaDoorShelf
namespace Go.Proofs.YtejhnfeligifgaaDoor
open Go.RowKit

/-- What the comparison says. -/
def CmpIs (r : Int) (w : World) (e : Ending) (w' : World) : Prop := e = .returned (.int .i64 r) ∧ Below w.heap.size w w'
set_option maxRecDepth 100000 in
set_option maxHeartbeats 4000000 in
theorem nxCmp_any (x : Nm) (p : ByteArray) (W : World) : Calls Tryd.prog 70 #[.agg (nc x), .string p] W (CmpIs (Lib.compareBytes x.path p.data.toList) W) := by
  obtain ⟨w1, hw, O, hb⟩ : ∃ w1, W.alloc (.cells (nc x) 51) = w1 ∧ Obl w1 W.heap.size 51 (nc x) ∧ Below W.heap.size W w1 := ⟨_, rfl, Obl.make W _ _, (Below.refl _ _).alloc (Nat.le_refl _) _⟩
  have HB := hide hb
  have k0 : w1.cell? ⟨W.heap.size, 0, none⟩ = some (.string ⟨x.path.toArray⟩) := O.cell 0
  obtain ⟨r, hr⟩ : ∃ r, Lib.compareBytes x.path p.data.toList = r := ⟨_, rfl⟩
  have HC : Hid (∀ w, Calls Tryd.prog 59 #[.string ⟨x.path.toArray⟩, .string p] w fun e w' => e = .returned (.int .i64 r) ∧ w' = w) := hide (fun w => by rw [← hr]; exact Tryd.strings_Compare ⟨x.path.toArray⟩ p w)
  rw [hr]
  clear hb O hr
  go_enter Tryd.func70, Tryd.ntmps70
  go_wp2_with fail
  refine (HC.out _).mono ?_
  rintro e w2 ⟨rfl, q2⟩
  rw [q2]
  clear q2 w2 HC
  go_wp2_with fail
  go_ret
  exact ⟨rfl, HB.out⟩
/-- Where the path is or would be, and whether it is there. -/
def PosIs (E : List Nx.Ent) (p : List UInt8) (w : World) (e : Ending) (w' : World) : Prop := ∃ i : Nat, Nx.Pos E p i ∧ e = .returned (.tuple #[.int .i64 (i : Int), .bool (Nx.find E p).isSome]) ∧ Below w.heap.size w w'
set_option maxRecDepth 100000 in
set_option maxHeartbeats 8000000 in
theorem nxSearch_any (A : Option Addr) (n c : Nat) (l : List Nm) (E : List Nx.Ent) (p : ByteArray) (W : World) (hl0 : Ents W W.heap.size A n l E) (hA0 : Nx.Asc E) (hn : n ≤ 1000) : Calls Tryd.prog 69 #[.slice A n c, .string p, .func (.func 70) #[] #[]] W (PosIs E p.data.toList W) := by
  have hl := hl0.nms
  have HE1 : Hid (E.length = n) := hide hl0.len
  have HEN := hide hl0
  have HAS := hide hA0
  have hb : Below W.heap.size W W := Below.refl _ _
  have HB := hide hb
  have HL := hide hl
  have hn' : (n : Int) ≤ 1000 := by omega
  have HFIN := hide (show ∀ i (h : Nx.Pos E p.data.toList i) (w : World), Below W.heap.size W w → ∀ b : Bool, (b = true ↔ ∃ hi : i < E.length, E[i].path = p.data.toList) → PosIs E p.data.toList W (.returned (.tuple #[.int .i64 (i : Int), .bool b])) w from fun i h w hw b hbb => ⟨i, h, by rw [show (Nx.find E p.data.toList).isSome = b from by
    cases b with
    | true => exact (h.isSome hA0).2 (hbb.1 rfl)
    | false =>
      cases hs : (Nx.find E p.data.toList).isSome with
      | false => rfl
      | true => exact absurd (hbb.2 ((h.isSome hA0).1 hs)) (by simp)], hw⟩)
  have hA3 : ∃ b1 f1, 0 < n → A = some ⟨b1, f1, none⟩ := by
    by_cases h0 : 0 < n
    · obtain ⟨b1, f1, _, hA, _⟩ := hl.at_ h0
      exact ⟨b1, f1, fun _ => hA⟩
    · exact ⟨0, 0, fun h => absurd h h0⟩
  obtain ⟨b1, f1, hA3⟩ := hA3
  have HA := hide hA3
  clear hb hl hl0 hA0 hA3
  go_enter Tryd.func69, Tryd.ntmps69
  go_wp2_with fail
  go_loopw [9, 10] (fun s9 s10 wr => ∃ lo hi : Nat, s9 = .int .i64 (lo : Int) ∧ s10 = .int .i64 (hi : Int) ∧ lo ≤ hi ∧ hi ≤ n ∧ Hid ((∀ a (h : a < E.length), a < lo → Nx.Lt E[a].path p.data.toList) ∧ ∀ a (h : a < E.length), hi ≤ a → ¬ Nx.Lt E[a].path p.data.toList) ∧ Hid (Below W.heap.size W wr)) (fun s9 s10 _ => (intOf s10).toNat - (intOf s9).toNat)
  case atStart => exact ⟨0, n, rfl, rfl, Nat.zero_le _, Nat.le_refl _, hide ⟨fun a _ h => by omega, fun a h h1 => by have := HE1.out; omega⟩, HB⟩
  case round =>
    clear HB
    obtain ⟨lo, hi, rfl, rfl, hlh, hin, HI, HB⟩ := hrel
    by_cases hlt : lo < hi
    · have hlt' : (lo : Int) < (hi : Int) := by omega
      have hA := HA.out (by omega)
      subst hA
      have hmid : (lo + hi) / 2 < n := by omega
      have hLr := HL.out.below HB.out
      obtain ⟨b1', f1', hkl, hA, hb1, c0, c1, c2, _⟩ := hLr.at_ hmid
      simp only [Option.some.injEq, Addr.mk.injEq, and_true] at hA
      obtain ⟨rfl, rfl⟩ := hA
      obtain ⟨_, hkE, hent, _⟩ := HEN.out.ent hmid
      have HPT := hide (show l[(lo + hi) / 2].path = E[(lo + hi) / 2].path from (HEN.out.2.2 _ hkl hkE).1)
      generalize l[(lo + hi) / 2] = y at *
      clear hLr hent
      obtain ⟨r, hr⟩ : ∃ r, Lib.compareBytes y.path p.data.toList = r := ⟨_, rfl⟩
      have HLT := hide (show r < 0 ↔ Nx.Lt E[(lo + hi) / 2].path p.data.toList by rw [← hr, HPT.out]; exact Nx.cmp_lt _ _)
      have HCM : Hid (∀ w, Calls Tryd.prog 70 #[.agg (nc y), .string p] w (CmpIs r w)) := hide (fun w => by rw [← hr]; exact nxCmp_any y p w)
      clear hr HPT
      by_cases hneg : r < 0
      · have hd : decide (r < 0) = true := decide_eq_true hneg
        have HI2 := hide (show (∀ a (h : a < E.length), a < (lo + hi) / 2 + 1 → Nx.Lt E[a].path p.data.toList) ∧ ∀ a (h : a < E.length), hi ≤ a → ¬ Nx.Lt E[a].path p.data.toList from ⟨fun a h h1 => by
          have h2 := HLT.out.1 hneg
          rcases Nat.lt_or_eq_of_le (Nat.le_of_lt_succ h1) with h3 | rfl
          · exact Nx.lt_trans (Nx.asc_at HAS.out hkE h3) h2
          · exact h2, HI.out.2⟩)
        clear HLT HI
        go_wp2_with (first | (refine wpList_val (by rfl) (exec_load_nmid rfl rfl c0 c1 c2) ?_) | (go_at_call 70; refine (HCM.out _).mono ?_; rintro e w2 ⟨rfl, g2⟩; have HB2 := hide (HB.out.trans (g2.mono HB.out.size)); clear g2) | fail)
        go_roundw
        case rel => exact ⟨(lo + hi) / 2 + 1, hi, by rw [show ((lo : Int) + (hi : Int)) / 2 + 1 = (((lo + hi) / 2 + 1 : Nat) : Int) by omega], rfl, by omega, hin, HI2, HB2⟩
        case measure => simp [intOf]; omega
      · have hd : decide (r < 0) = false := decide_eq_false hneg
        have HI2 := hide (show (∀ a (h : a < E.length), a < lo → Nx.Lt E[a].path p.data.toList) ∧ ∀ a (h : a < E.length), (lo + hi) / 2 ≤ a → ¬ Nx.Lt E[a].path p.data.toList from ⟨HI.out.1, fun a h h1 h4 => by
          have h2 : ¬ Nx.Lt E[(lo + hi) / 2].path p.data.toList := fun h => hneg (HLT.out.2 h)
          rcases Nat.lt_or_eq_of_le h1 with h3 | rfl
          · exact h2 (Nx.lt_trans (Nx.asc_at HAS.out h h3) h4)
          · exact h2 h4⟩)
        clear HLT HI
        go_wp2_with (first | (refine wpList_val (by rfl) (exec_load_nmid rfl rfl c0 c1 c2) ?_) | (go_at_call 70; refine (HCM.out _).mono ?_; rintro e w2 ⟨rfl, g2⟩; have HB2 := hide (HB.out.trans (g2.mono HB.out.size)); clear g2) | fail)
        go_roundw
        case rel => exact ⟨lo, (lo + hi) / 2, rfl, by rw [show ((lo : Int) + (hi : Int)) / 2 = (((lo + hi) / 2 : Nat) : Int) by omega], by omega, by omega, HI2, HB2⟩
        case measure => simp [intOf]; omega
    · obtain rfl : hi = lo := by omega
      have HP := hide (show Nx.Pos E p.data.toList hi from ⟨by have := HE1.out; omega, HI.out.1, HI.out.2⟩)
      clear HI
      by_cases hn2 : hi < n
      · have hn3 : (hi : Int) < (n : Int) := by omega
        have hA := HA.out (by omega)
        subst hA
        have hLr := HL.out.below HB.out
        obtain ⟨b1', f1', hkl, hA, hb1, c0, c1, c2, _⟩ := hLr.at_ hn2
        simp only [Option.some.injEq, Addr.mk.injEq, and_true] at hA
        obtain ⟨rfl, rfl⟩ := hA
        obtain ⟨_, hkE, hent, _⟩ := HEN.out.ent hn2
        have HPT := hide (show l[hi].path = E[hi].path from (HEN.out.2.2 _ hkl hkE).1)
        generalize l[hi] = y at *
        clear hLr hent
        obtain ⟨r, hr⟩ : ∃ r, Lib.compareBytes y.path p.data.toList = r := ⟨_, rfl⟩
        have HEQ := hide (show r = 0 ↔ E[hi].path = p.data.toList by rw [← hr, HPT.out]; exact Nx.cmp_eq _ _)
        have HCM : Hid (∀ w, Calls Tryd.prog 70 #[.agg (nc y), .string p] w (CmpIs r w)) := hide (fun w => by rw [← hr]; exact nxCmp_any y p w)
        clear hr HPT
        obtain ⟨bz, hbz⟩ : ∃ bz, (r == 0) = bz := ⟨_, rfl⟩
        have HR := hide (fun w hw => HFIN.out hi HP.out w hw bz (by
          rw [← hbz, beq_iff_eq, HEQ.out]
          exact ⟨fun h => ⟨hkE, h⟩, fun ⟨_, h⟩ => h⟩))
        clear HEQ HFIN
        go_wp2_with (first | (refine wpList_val (by kernel_rfl) (exec_load_nmid rfl rfl c0 c1 c2) ?_) | (go_at_call 70; refine (HCM.out _).mono ?_; rintro e w2 ⟨rfl, g2⟩; have HB2 := hide (HB.out.trans (g2.mono HB.out.size)); clear g2) | fail)
        go_ret2
        exact HR.out _ HB2.out
      · have hn3 : ¬ (hi : Int) < (n : Int) := by omega
        have HR := hide (fun w hw => HFIN.out hi HP.out w hw false (by
          constructor
          · intro h; cases h
          · rintro ⟨h, _⟩; have := HE1.out; omega))
        clear HFIN
        go_wp2_with fail
        go_ret2
        exact HR.out _ HB.out
set_option maxRecDepth 100000 in
set_option maxHeartbeats 4000000 in
theorem nxPos_any (A : Option Addr) (n c : Nat) (l : List Nm) (E : List Nx.Ent) (p : ByteArray) (W : World) (hl0 : Ents W W.heap.size A n l E) (hA0 : Nx.Asc E) (hn : n ≤ 1000) : Calls Tryd.prog 40 #[.slice A n c, .string p] W (PosIs E p.data.toList W) := by
  have HS := hide (nxSearch_any A n c l E p W hl0 hA0 hn)
  clear hl0
  go_enter Tryd.func40, Tryd.ntmps40
  go_wp2_with fail
  refine HS.out.mono ?_
  rintro e w2 ⟨i, hp, rfl, hb⟩
  have HP := hide hp
  have HB := hide hb
  clear hp hb HS
  generalize hv : (Nx.find E p.data.toList).isSome = v at *
  have HV := hide hv
  clear hv
  go_wp2_with fail
  go_ret2
  exact ⟨i, HP.out, by rw [HV.out]; rfl, HB.out⟩
end Go.Proofs.YtejhnfeligifgaaDoor
