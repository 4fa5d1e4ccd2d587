/- The law TableLeast: the descriptor of a new slot is the least one that is free, and there is room for exactly so many. -/
import Derived.Test.YtbbibbniphmgbaaTbSane
import Derived.Test.YtbbibbniphmgbaaTbFacts
namespace Go.Proofs.Ytbbibbniphmgbaa
open Go.RowKit

/-- Sixteen answers as cells. -/
def ubc (f : Nat → Bool) : Array Value := ((List.range 16).map fun k => Value.bool (f k)).toArray
theorem ubc_size (f : Nat → Bool) : (ubc f).size = 16 := by simp [ubc]
theorem ubc_at (f : Nat → Bool) {k : Nat} (hk : k < 16) : (ubc f)[k]? = some (.bool (f k)) := by
  simp [ubc, hk]
theorem ubc_set (f g : Nat → Bool) {k : Nat} {v : Bool} (hk : k < 16) (hv : g k = v) (hg : ∀ j, j ≠ k → g j = f j) : (ubc f).setIfInBounds k (.bool v) = ubc g := by
  apply Array.ext_getElem?
  intro j
  rw [Array.getElem?_setIfInBounds]
  by_cases e : k = j
  · subst e
    rw [if_pos rfl, if_pos (by rw [ubc_size]; exact hk), ubc_at g hk, hv]
  · rw [if_neg e]
    by_cases hj : j < 16
    · rw [ubc_at f hj, ubc_at g hj, hg j (Ne.symm e)]
    · rw [Array.getElem?_eq_none (by rw [ubc_size]; omega), Array.getElem?_eq_none (by rw [ubc_size]; omega)]
theorem boolsSize : (Try.prog.info? 72).map (·.size) = some 16 := by kernel_rfl
theorem boolSize1 : (Try.prog.info? 4).map (·.size) = some 1 := by kernel_rfl
theorem run_index_b {w : World} (f : Nat → Bool) (k : Nat) (hk : k < 16) : (Instr.index 72 (.agg (ubc f)) (.int .i64 (k : Int))).run Try.prog w = .ok (.bool (f k)) w := by
  have hsz : (sizeOf 4).run Try.prog w = .ok 1 w := by
    cases hq : Try.prog.info? 4 with
    | none => have := boolSize1; simp [hq] at this
    | some i =>
      have hs : i.size = 1 := by have := boolSize1; simpa [hq] using this
      simp [sizeOf, typeInfo, hq, hs]
  have hp : (part 4 (ubc f) (k * 1)).run Try.prog w = .ok (.bool (f k)) w := run_part_one Try.underlying4 rfl (by rw [Nat.mul_one]; exact ubc_at f hk)
  unfold Instr.index
  simp only [asIntOf, Sem.run_bind, Sem.run_pure, Result.andThen_ok, run_underlying Try.underlying72, Int.toNat_natCast]
  rw [if_pos (by omega)]
  simp only [Sem.run_bind, Result.andThen_ok, hsz, hp]
theorem exec_index_b {w : World} {a : Act} {o : Oper} {x i : Operand} (ho : o.op = .index 72 x i) {f : Nat → Bool} (hx : a.eval x = .agg (ubc f)) {k : Nat} (hi : a.eval i = .int .i64 (k : Int)) (hk : k < 16) :
    (execOp a.eval o).run Try.prog w = .ok (.value (.bool (f k))) w := by
  unfold execOp
  simp only [ho, hx, hi, Sem.run_bind, run_index_b f k hk, Sem.run_pure, Result.andThen_ok]
/-- A row of slots does not lie where answers lie. -/
theorem Slots.apart {w : World} {B n g : Nat} {A : Option Addr} {l : List Tb.Slot} {t : TypeId} {f : Nat → Bool} (h : Slots w B A n l) (hO : Obl w g t (ubc f)) (i : Nat) (v : Value) : Slots (w.setCell ⟨g, i, none⟩ v) B A n l := by
  refine ⟨h.1, h.2.1, h.2.2.1, fun hne => ?_⟩
  obtain ⟨b, o, rfl, hb, hall⟩ := h.2.2.2 hne
  have hbg : b ≠ g := by
    rintro rfl
    have hl : 0 < l.length := by
      rcases l with _ | ⟨a, r⟩
      · exact absurd rfl hne
      · simp
    have h0 := stv_get hl (show 0 < 4 by omega)
    simp only [Nat.zero_mul, Nat.zero_add, stc, List.getElem?_cons_zero] at h0
    have h1 := hall 0 _ h0
    rw [Nat.add_zero, hO.cell] at h1
    by_cases ho : o < 16
    · rw [ubc_at f ho] at h1; cases h1
    · rw [Array.getElem?_eq_none (by rw [ubc_size]; omega)] at h1; cases h1
  refine ⟨b, o, rfl, hb, fun j u hj => ?_⟩
  rw [← hall j u hj]
  exact World.cell?_setCell_other _ _ _ _ (fun e => hbg (congrArg Addr.block e).symm)
theorem Tb.sem_ok (i : Nat) : (⟨7, 0, 1 + (i : Int), 0⟩ : Tb.Slot).Ok ∧ (⟨7, 0, 1 + (i : Int), 0⟩ : Tb.Slot).kind ≠ 0 := by
  have h0 : (⟨7, 0, 1 + (i : Int), 0⟩ : Tb.Slot).kind ≠ 0 := by show (7 : Int) ≠ 0; decide
  refine ⟨(Tb.Slot.ok_of h0).2 ⟨by show (0 : Int) < 7; decide, by show (7 : Int) ≤ 8; decide, ?_, ⟨fun h => absurd rfl h, fun h => absurd (show (7 : Int) = 1 from h) (by decide)⟩, .inl rfl⟩, h0⟩
  show 1 + (i : Int) ≠ 0
  omega
set_option maxRecDepth 100000 in
set_option maxHeartbeats 32000000 in
theorem tableLeast_any (l : List UInt8) (A : Option Addr) (n cap : Nat) (W : World) (h : Bytes W W.heap.size A n l) (hn : n ≤ cap ∧ cap ≤ 9223372036854775807) :
    Calls Try.prog 6 #[.slice A n cap] W (BoolPost true W) := by
  have hl := h.len
  have HR := hide h
  have hn' : (n : Int) ≤ 9223372036854775807 := by omega
  clear h
  go_enter Try.func6, Try.ntmps6
  go_wp2_with fail
  refine (sane10_any _).mono ?_
  rintro e w1 ⟨rfl, hb1⟩
  have HB1 := hide hb1
  clear hb1
  obtain ⟨w2, hw2, OU, hb2⟩ : ∃ w2, w1.alloc (.cells #[.bool false, .bool false, .bool false, .bool false, .bool false, .bool false, .bool false, .bool false, .bool false, .bool false, .bool false, .bool false, .bool false, .bool false, .bool false, .bool false] 72) = w2 ∧ Obl w2 w1.heap.size 72 (ubc fun _ => false) ∧ Below w1.heap.size w1 w2 := ⟨_, rfl, Obl.make w1 _ _, (Below.refl _ _).alloc (Nat.le_refl _) _⟩
  have HB2 := hide (HB1.out.trans (hb2.mono HB1.out.size))
  obtain ⟨g, hg⟩ : ∃ g, w1.heap.size = g := ⟨_, rfl⟩
  have HG : Hid (W.heap.size ≤ g) := hide (by have := HB1.out.size; omega)
  rw [hg] at OU
  clear hb2 HB1
  go_wp2_with fail
  clear hg hw2
  go_loopw [3, 5] (fun s3 s5 wr => ∃ (i m c : Nat) (O : Option Addr) (t : List Tb.Slot), s5 = .int .i64 (i : Int) ∧ s3 = .slice O m c ∧ i ≤ n ∧ i ≤ 60 ∧ Hid (Slots wr wr.heap.size O m t) ∧ Hid (m ≤ c ∧ c ≤ 9223372036854775807) ∧ Hid (Tb.Valid t) ∧ Hid (Obl wr g 72 (ubc (Tb.used t))) ∧ Hid (Below W.heap.size W wr)) (fun _ s5 _ => n - (intOf s5).toNat)
  case atStart => exact ⟨0, 0, 0, none, [], rfl, rfl, by omega, by omega, hide Slots.nil, hide (by omega), hide Tb.valid_nil, hide (by rw [Tb.used_zero]; exact OU), HB2⟩
  case round =>
    obtain ⟨i, m, c, O, t, rfl, rfl, hi, hi60, HT, HC, HV, HU, HB⟩ := hrel
    by_cases hlt : i < n ∧ i < 60
    · have hlt' : (i : Int) < (n : Int) := by omega
      have hlt60 : (i : Int) < 60 := by omega
      obtain ⟨bb, oo, hkl, rfl, hbb, c0⟩ := (HR.out.below HB.out).at_ hlt.1
      obtain ⟨x, hx⟩ : ∃ x : Nat, (l[i]).toNat = x := ⟨_, rfl⟩
      have hx256 : x < 256 := by have := (l[i]).toNat_lt; omega
      rw [hx] at c0
      obtain ⟨k, hk⟩ : ∃ k, x % 16 = k := ⟨_, rfl⟩
      have d1 : (x : Int) % 16 = (k : Int) := by omega
      have hk16 : k < 16 := by omega
      have hk16' : (k : Int) < 16 := by omega
      clear hx hk
      by_cases h3 : x % 3 = 0
      · have d3 : (x : Int) % 3 = 0 := by omega
        clear h3
        go_wp2_with fail
        refine (tbClear_any t O m c _ (k : Int) _ HT.out (Nat.le_refl _) HC.out).mono ?_
        intro e w3 hp
        cases hu : Tb.used t k with
        | true =>
          obtain ⟨s, hs⟩ := Tb.get_used hu
          obtain ⟨X, nx, cx, rfl, hX, hnx, hb3⟩ := hp.got (Tb.clear_at HV.out hs)
          have HX := hide hX
          have HNX := hide hnx
          have OU3 := HU.out.below hb3 HU.out.lt
          have HB3 := hide (HB.out.trans (hb3.mono HB.out.size))
          have HUK := hide hu
          have m0 : w3.cell? ⟨g, k, none⟩ = some (.bool true) := by rw [OU3.cell, ubc_at _ hk16, hu]
          have z0 := OU3.free k
          have O4 : Obl (w3.setCell ⟨g, k, none⟩ (.bool false)) g 72 (ubc (Tb.used (Tb.trim (t.set k Tb.Slot.zero)))) := by
            have := OU3.put k (.bool false)
            rwa [ubc_set (Tb.used t) (Tb.used (Tb.trim (t.set k Tb.Slot.zero))) hk16 (by rw [Tb.trim_used, Tb.set_used, if_pos rfl]) (fun j hj => by rw [Tb.trim_used, Tb.set_used, if_neg hj])] at this
          have hb4 : Below w3.heap.size w3 w3 := Below.refl _ _
          clear hp hX hnx hb3 hu hs
          obtain ⟨w4, hw4⟩ : ∃ w, w3.setCell ⟨g, k, none⟩ (.bool false) = w := ⟨_, rfl⟩
          rw [hw4] at O4
          have HX4 : Hid (Slots w4 w4.heap.size X nx (Tb.trim (t.set k Tb.Slot.zero))) := hide (by rw [← hw4]; exact (HX.out.apart OU3 k _).mono (by simp [World.setCell]))
          have HB4 : Hid (Below W.heap.size W w4) := hide (by rw [← hw4]; exact HB3.out.setCell (p := ⟨g, k, none⟩) (by have := HG.out; simp only; omega) _)
          have HO4 := hide O4
          have HV4 := hide (Tb.clear_valid HV.out k)
          clear O4 OU3 hb4
          go_wp2_with fail
          go_roundw
          case rel => exact ⟨i + 1, nx, cx, X, _, by go_num, rfl, by omega, by omega, HX4, HNX, HV4, HO4, HB4⟩
          case measure => simp [intOf]; omega
        | false =>
          have hs := Tb.get_unused hu
          obtain ⟨X, nx, cx, rfl, hX, hnx, hb3⟩ := hp.got (Tb.clear_miss HV.out hs)
          have OU3 := HU.out.below hb3 HU.out.lt
          have HB3 := hide (HB.out.trans (hb3.mono HB.out.size))
          have HT3 := hide (HT.out.later hb3)
          have m0 : w3.cell? ⟨g, k, none⟩ = some (.bool false) := by rw [OU3.cell, ubc_at _ hk16, hu]
          clear hp hX hnx hb3 hu hs
          go_wp2_with fail
          go_roundw
          case rel => exact ⟨i + 1, m, c, O, t, by go_num, rfl, by omega, by omega, HT3, HC, HV, hide OU3, HB3⟩
          case measure => simp [intOf]; omega
      · have d3 : ((x : Int) % 3 == 0) = false := by simp; omega
        clear h3
        go_wp2_with fail
        generalize wr = wo at *
        go_loopw [9] (fun s9 wr => ∃ j : Nat, s9 = .int .i64 (j : Int) ∧ j ≤ 16 ∧ wr = wo ∧ Hid (∀ q, q < j → Tb.used t q = true)) (fun s9 _ => 16 - (intOf s9).toNat)
        case atStart => exact ⟨0, rfl, by omega, by first | rfl | trivial, hide (fun q hq => by omega)⟩
        case round =>
          obtain ⟨j, rfl, hj, rfl, HA⟩ := hrel
          have HSOK := hide (Tb.sem_ok i)
          by_cases hj16 : j < 16
          · have hj16' : (j : Int) < 16 := by omega
            cases hu : Tb.used t j with
            | true =>
              have m0 : wr.cell? ⟨g, j, none⟩ = some (.bool true) := by rw [HU.out.cell, ubc_at _ hj16, hu]
              have HA2 : Hid (∀ q, q < j + 1 → Tb.used t q = true) := hide (fun q hq => by
                rcases Nat.lt_or_ge q j with h' | h'
                · exact HA.out q h'
                · obtain rfl : q = j := by omega
                  exact hu)
              clear hu
              go_wp2_with fail
              go_roundw
              case rel => exact ⟨j + 1, by go_num, by omega, by first | rfl | trivial, HA2⟩
              case measure => simp [intOf]; omega
            | false =>
              have m0 : wr.cell? ⟨g, j, none⟩ = some (.bool false) := by rw [HU.out.cell, ubc_at _ hj16, hu]
              have HFR := hide (Tb.free_used hu HA.out)
              clear hu
              have hj0 : ((j : Int) == 16) = false := by simp; omega
              go_wp2_with fail
              refine (tbPut_any t ⟨7, 0, 1 + (i : Int), 0⟩ O m c _ _ HT.out (Nat.le_refl _) HC.out).mono ?_
              intro e w3 hp
              obtain ⟨X, nx, cx, rfl, hX, hnx, hb3⟩ := hp.got (Tb.put_ok HV.out HSOK.out HFR.out hj16)
              have HX := hide hX
              have HNX := hide hnx
              have OU3 := HU.out.below hb3 HU.out.lt
              have HB3 := hide (HB.out.trans (hb3.mono HB.out.size))
              have m3 : w3.cell? ⟨g, j, none⟩ = some (.bool false) := by rw [← m0]; exact hb3.cell (p := ⟨g, j, none⟩) HU.out.lt
              have z0 := OU3.free j
              have O4 : Obl (w3.setCell ⟨g, j, none⟩ (.bool true)) g 72 (ubc (Tb.used (Tb.putL t ⟨7, 0, 1 + (i : Int), 0⟩))) := by
                have := OU3.put j (.bool true)
                rwa [ubc_set (Tb.used t) (Tb.used (Tb.putL t ⟨7, 0, 1 + (i : Int), 0⟩)) hj16 (by rw [Tb.putL_used HSOK.out.2 HFR.out, if_pos rfl]) (fun q hq => by rw [Tb.putL_used HSOK.out.2 HFR.out, if_neg hq])] at this
              clear hp hX hnx hb3
              obtain ⟨w4, hw4⟩ : ∃ w, w3.setCell ⟨g, j, none⟩ (.bool true) = w := ⟨_, rfl⟩
              rw [hw4] at O4
              have HX4 : Hid (Slots w4 w4.heap.size X nx (Tb.putL t ⟨7, 0, 1 + (i : Int), 0⟩)) := hide (by rw [← hw4]; exact (HX.out.apart OU3 j _).mono (by simp [World.setCell]))
              have HB4 : Hid (Below W.heap.size W w4) := hide (by rw [← hw4]; exact HB3.out.setCell (p := ⟨g, j, none⟩) (by have := HG.out; simp only; omega) _)
              have HO4 := hide O4
              have HV4 := hide (Tb.putL_valid HV.out HSOK.out.1 HSOK.out.2 (by have := HFR.out; omega))
              clear O4 OU3 m0
              go_wp2_with fail
              go_roundw
              case rel => exact ⟨i + 1, nx, cx, X, _, by go_num, rfl, by omega, by omega, HX4, HNX, HV4, HO4, HB4⟩
              case measure => simp [intOf]; omega
          · obtain rfl : j = 16 := by omega
            have HFR : Hid (Tb.free t = 16) := hide (Tb.free_used (Tb.used_out HV.out.1) HA.out)
            go_wp2_with fail
            refine (tbPut_any t ⟨7, 0, 1 + (i : Int), 0⟩ O m c _ _ HT.out (Nat.le_refl _) HC.out).mono ?_
            intro e w3 hp
            obtain ⟨X, nx, cx, rfl, hX, hnx, hb3⟩ := hp.got (Tb.put_full ⟨HV.out, HSOK.out.1, HSOK.out.2⟩ (by rw [HFR.out]; omega))
            have OU3 := hide (HU.out.below hb3 HU.out.lt)
            have HB3 := hide (HB.out.trans (hb3.mono HB.out.size))
            have HT3 := hide (HT.out.later hb3)
            clear hp hX hnx hb3
            go_wp2_with fail
            go_roundw
            case rel => exact ⟨i + 1, m, c, O, t, by go_num, rfl, by omega, by omega, HT3, HC, HV, OU3, HB3⟩
            case measure => simp [intOf]; omega
    · have OUx := HU.out
      by_cases hin : i < n
      · have h1 : (i : Int) < (n : Int) := by omega
        have h2 : ¬ (i : Int) < 60 := by omega
        clear hlt
        go_wp2_with (first | (refine wpList_val (by rfl) (exec_load_row (ty := 72) rfl rfl OUx rfl Try.underlying72 boolsSize) ?_) | fail)
        generalize wr = wo at *
        go_loopw [100] (fun s100 wr => ∃ j : Nat, s100 = .int .i64 (j : Int) ∧ j ≤ 16 ∧ Hid (Below wo.heap.size wo wr)) (fun s100 _ => 16 - (intOf s100).toNat)
        case atStart => exact ⟨0, rfl, by omega, hide (Below.refl _ _)⟩
        case round =>
          obtain ⟨j, rfl, hj, HBx⟩ := hrel
          have HTx := hide (HT.out.later HBx.out)
          have HBB := hide (HB.out.trans (HBx.out.mono HB.out.size))
          by_cases hj16 : j < 16
          · have hj16' : (j : Int) < 16 := by omega
            obtain ⟨s, er, hge⟩ : ∃ s er, Tb.get t (j : Int) = (s, er) := ⟨_, _, rfl⟩
            have her : er = if Tb.used t j then 0 else 6 := by rw [← Tb.used_get t j, hge]
            obtain ⟨u, hu⟩ : ∃ u, Tb.used t j = u := ⟨_, rfl⟩
            rw [hu] at her
            have HE := hide her
            have HGE := hide hge
            have HUJ := hide hu
            clear her hge hu
            go_wp2_with (first | (refine wpList_val (by rfl) (exec_index_b rfl rfl rfl (by omega)) ?_; rw [HUJ.out]) | fail)
            refine (tbGet_any t O m c _ (j : Int) _ HTx.out (Nat.le_refl _) HC.out).mono ?_
            intro e w3 hp
            obtain ⟨rfl, hb3⟩ := hp.got HGE.out
            have HB3 := hide (HBx.out.trans (hb3.mono HBx.out.size))
            obtain ⟨w4, hw4, g4, hg4, w5, hw5, OZ, ON, hb5, hs5⟩ := start_zslot w3 s
            subst hg4
            have HB5 := hide (HB3.out.trans (hb5.mono HB3.out.size))
            clear hp hb3 hb5 hs5 HBx HB3
            cases u with
            | true =>
              obtain rfl : er = 0 := HE.out
              go_wp2_with (first | (refine store_slot rfl _ _ rfl rfl (c := s) rfl OZ rfl ?_; rw [hw5]) | fail)
              go_roundw
              case rel => exact ⟨j + 1, by go_num, by omega, HB5⟩
              case measure => simp [intOf]; omega
            | false =>
              obtain rfl : er = 6 := HE.out
              go_wp2_with (first | (refine store_slot rfl _ _ rfl rfl (c := s) rfl OZ rfl ?_; rw [hw5]) | fail)
              go_roundw
              case rel => exact ⟨j + 1, by go_num, by omega, HB5⟩
              case measure => simp [intOf]; omega
          · obtain rfl : j = 16 := by omega
            go_wp2_with fail
            refine (tbValid_any t O m c _ HTx.out HC.out).mono ?_
            rintro e w3 ⟨rfl, hb3⟩
            rw [decide_eq_true HV.out]
            have HB3 := hide (HBB.out.trans (hb3.mono HBB.out.size))
            clear hb3
            go_wp2_with fail
            go_ret
            exact ⟨rfl, HB3.out⟩
      · have h1 : ¬ (i : Int) < (n : Int) := by omega
        clear hlt
        go_wp2_with (first | (refine wpList_val (by rfl) (exec_load_row (ty := 72) rfl rfl OUx rfl Try.underlying72 boolsSize) ?_) | fail)
        generalize wr = wo at *
        go_loopw [100] (fun s100 wr => ∃ j : Nat, s100 = .int .i64 (j : Int) ∧ j ≤ 16 ∧ Hid (Below wo.heap.size wo wr)) (fun s100 _ => 16 - (intOf s100).toNat)
        case atStart => exact ⟨0, rfl, by omega, hide (Below.refl _ _)⟩
        case round =>
          obtain ⟨j, rfl, hj, HBx⟩ := hrel
          have HTx := hide (HT.out.later HBx.out)
          have HBB := hide (HB.out.trans (HBx.out.mono HB.out.size))
          by_cases hj16 : j < 16
          · have hj16' : (j : Int) < 16 := by omega
            obtain ⟨s, er, hge⟩ : ∃ s er, Tb.get t (j : Int) = (s, er) := ⟨_, _, rfl⟩
            have her : er = if Tb.used t j then 0 else 6 := by rw [← Tb.used_get t j, hge]
            obtain ⟨u, hu⟩ : ∃ u, Tb.used t j = u := ⟨_, rfl⟩
            rw [hu] at her
            have HE := hide her
            have HGE := hide hge
            have HUJ := hide hu
            clear her hge hu
            go_wp2_with (first | (refine wpList_val (by rfl) (exec_index_b rfl rfl rfl (by omega)) ?_; rw [HUJ.out]) | fail)
            refine (tbGet_any t O m c _ (j : Int) _ HTx.out (Nat.le_refl _) HC.out).mono ?_
            intro e w3 hp
            obtain ⟨rfl, hb3⟩ := hp.got HGE.out
            have HB3 := hide (HBx.out.trans (hb3.mono HBx.out.size))
            obtain ⟨w4, hw4, g4, hg4, w5, hw5, OZ, ON, hb5, hs5⟩ := start_zslot w3 s
            subst hg4
            have HB5 := hide (HB3.out.trans (hb5.mono HB3.out.size))
            clear hp hb3 hb5 hs5 HBx HB3
            cases u with
            | true =>
              obtain rfl : er = 0 := HE.out
              go_wp2_with (first | (refine store_slot rfl _ _ rfl rfl (c := s) rfl OZ rfl ?_; rw [hw5]) | fail)
              go_roundw
              case rel => exact ⟨j + 1, by go_num, by omega, HB5⟩
              case measure => simp [intOf]; omega
            | false =>
              obtain rfl : er = 6 := HE.out
              go_wp2_with (first | (refine store_slot rfl _ _ rfl rfl (c := s) rfl OZ rfl ?_; rw [hw5]) | fail)
              go_roundw
              case rel => exact ⟨j + 1, by go_num, by omega, HB5⟩
              case measure => simp [intOf]; omega
          · obtain rfl : j = 16 := by omega
            go_wp2_with fail
            refine (tbValid_any t O m c _ HTx.out HC.out).mono ?_
            rintro e w3 ⟨rfl, hb3⟩
            rw [decide_eq_true HV.out]
            have HB3 := hide (HBB.out.trans (hb3.mono HBB.out.size))
            clear hb3
            go_wp2_with fail
            go_ret
            exact ⟨rfl, HB3.out⟩
end Go.Proofs.Ytbbibbniphmgbaa
