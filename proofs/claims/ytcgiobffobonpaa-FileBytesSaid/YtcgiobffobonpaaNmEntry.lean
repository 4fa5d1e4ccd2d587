/- The reference of name spaces: entries: contracts (written by tools/mkentry.py). -/
import Derived.Test.YtcgiobffobonpaaNmPath
import Derived.Test.YtcgiobffobonpaaObMem
namespace Go.Proofs.Ytcgiobffobonpaa
open Go.RowKit

theorem nmSize : (Try.prog.info? 64).map (·.size) = some 3 := by kernel_rfl
/-- Some answer; what was there is there. -/
def SomeAns (w : World) (e : Ending) (w' : World) : Prop := ∃ v, e = .returned (.bool v) ∧ Below w.heap.size w w'
def AtK (n : Nat) (s : Value) : Prop := ∃ k : Nat, s = .int .i64 (k : Int) ∧ k ≤ n
set_option maxRecDepth 100000 in
set_option maxHeartbeats 8000000 in
theorem entry_any (x : Nm) (B : Nat) (I : List Int) (W : World) (hI : Nums .u64 W B x.ids.A x.ids.n I) (hB : B ≤ W.heap.size) (hn : x.ids.n ≤ 9223372036854775807) (hp : x.path.length ≤ 9223372036854775807) : Calls Try.prog 60 #[nma x] W (SomeAns W) := by
  obtain ⟨path, kd, ids⟩ := x
  obtain ⟨A, n, c⟩ := ids
  simp only at hI hn hp
  obtain ⟨s, hs⟩ : ∃ s : ByteArray, s = ⟨path.toArray⟩ := ⟨_, rfl⟩
  have hsz : s.size ≤ 9223372036854775807 := by rw [hs, ba_size]; exact hp
  show Calls Try.prog 60 #[.agg #[.string ⟨path.toArray⟩, .int .i64 kd, .slice A n c]] W (SomeAns W)
  rw [← hs]
  obtain ⟨w1, hw, O, hb⟩ : ∃ w1, W.alloc (.cells #[.string s, .int .i64 kd, .slice A n c] 64) = w1 ∧ Obl w1 W.heap.size 64 #[.string s, .int .i64 kd, .slice A n c] ∧ Below W.heap.size W w1 := ⟨_, rfl, Obl.make W _ _, (Below.refl _ _).alloc (Nat.le_refl _) _⟩
  have HB := hide hb
  have hI1 := hI.belowLe hb hB
  have k0 : w1.cell? ⟨W.heap.size, 0, none⟩ = some (.string s) := O.cell 0
  have k1 : w1.cell? ⟨W.heap.size, 1, none⟩ = some (.int .i64 kd) := O.cell 1
  have k2 : w1.cell? ⟨W.heap.size, 2, none⟩ = some (.slice A n c) := O.cell 2
  have hn' : (n : Int) ≤ 9223372036854775807 := by omega
  have hl := O.lt
  clear hb hI O hs hp
  by_cases h3 : kd = 3
  case pos =>
    subst h3
    by_cases h1 : n = 1
    · subst h1
      go_enter Try.func60, Try.ntmps60
      go_wp2_with fail
      go_loop [31] (fun s31 => AtK 1 s31) (fun s31 => 1 - (intOf s31).toNat)
      case atStart => exact ⟨0, rfl, by omega⟩
      case round =>
        obtain ⟨k, rfl, hk⟩ := hrel
        by_cases hlt : k < 1
        · have hlt' : (k : Int) < 1 := by omega
          obtain ⟨b1, f1, hl1, rfl, hb1, c1⟩ := hI1.at_ hlt
          generalize I[k] = v at *
          by_cases hv : v = 0
          · subst hv
            go_wp2_with fail
            go_ret
            exact ⟨_, rfl, HB.out⟩
          · have hv' : (v == 0) = false := by simpa using hv
            go_wp2_with fail
            go_round
            case rel => exact ⟨k + 1, by go_num, by omega⟩
            case measure => simp [intOf]; omega
        · obtain rfl : k = 1 := by omega
          go_wp2_with fail
          refine (path_any s _ hsz).mono ?_
          rintro e w2 ⟨bv, rfl, rfl⟩
          go_wp2_with fail
          go_ret
          exact ⟨_, rfl, HB.out⟩
    · have h1' : ((n : Int) == 1) = false := by simp; omega
      have h1'' : ((n : Int) != 1) = true := by simp; omega
      go_enter Try.func60, Try.ntmps60
      go_wp2_with fail
      go_ret
      exact ⟨_, rfl, HB.out⟩
  have q3 : (kd == 3) = false := by simpa using h3
  by_cases h6 : kd = 6
  case pos =>
    subst h6
    by_cases h1 : n = 1
    · subst h1
      go_enter Try.func60, Try.ntmps60
      go_wp2_with fail
      go_loop [31] (fun s31 => AtK 1 s31) (fun s31 => 1 - (intOf s31).toNat)
      case atStart => exact ⟨0, rfl, by omega⟩
      case round =>
        obtain ⟨k, rfl, hk⟩ := hrel
        by_cases hlt : k < 1
        · have hlt' : (k : Int) < 1 := by omega
          obtain ⟨b1, f1, hl1, rfl, hb1, c1⟩ := hI1.at_ hlt
          generalize I[k] = v at *
          by_cases hv : v = 0
          · subst hv
            go_wp2_with fail
            go_ret
            exact ⟨_, rfl, HB.out⟩
          · have hv' : (v == 0) = false := by simpa using hv
            go_wp2_with fail
            go_round
            case rel => exact ⟨k + 1, by go_num, by omega⟩
            case measure => simp [intOf]; omega
        · obtain rfl : k = 1 := by omega
          go_wp2_with fail
          refine (path_any s _ hsz).mono ?_
          rintro e w2 ⟨bv, rfl, rfl⟩
          go_wp2_with fail
          go_ret
          exact ⟨_, rfl, HB.out⟩
    · have h1' : ((n : Int) == 1) = false := by simp; omega
      have h1'' : ((n : Int) != 1) = true := by simp; omega
      go_enter Try.func60, Try.ntmps60
      go_wp2_with fail
      go_ret
      exact ⟨_, rfl, HB.out⟩
  have q6 : (kd == 6) = false := by simpa using h6
  by_cases h8 : kd = 8
  case pos =>
    subst h8
    by_cases h1 : n = 1
    · subst h1
      go_enter Try.func60, Try.ntmps60
      go_wp2_with fail
      go_loop [31] (fun s31 => AtK 1 s31) (fun s31 => 1 - (intOf s31).toNat)
      case atStart => exact ⟨0, rfl, by omega⟩
      case round =>
        obtain ⟨k, rfl, hk⟩ := hrel
        by_cases hlt : k < 1
        · have hlt' : (k : Int) < 1 := by omega
          obtain ⟨b1, f1, hl1, rfl, hb1, c1⟩ := hI1.at_ hlt
          generalize I[k] = v at *
          by_cases hv : v = 0
          · subst hv
            go_wp2_with fail
            go_ret
            exact ⟨_, rfl, HB.out⟩
          · have hv' : (v == 0) = false := by simpa using hv
            go_wp2_with fail
            go_round
            case rel => exact ⟨k + 1, by go_num, by omega⟩
            case measure => simp [intOf]; omega
        · obtain rfl : k = 1 := by omega
          go_wp2_with fail
          refine (path_any s _ hsz).mono ?_
          rintro e w2 ⟨bv, rfl, rfl⟩
          go_wp2_with fail
          go_ret
          exact ⟨_, rfl, HB.out⟩
    · have h1' : ((n : Int) == 1) = false := by simp; omega
      have h1'' : ((n : Int) != 1) = true := by simp; omega
      go_enter Try.func60, Try.ntmps60
      go_wp2_with fail
      go_ret
      exact ⟨_, rfl, HB.out⟩
  have q8 : (kd == 8) = false := by simpa using h8
  by_cases h9 : kd = 9
  case pos =>
    subst h9
    by_cases h1 : n = 1
    · subst h1
      go_enter Try.func60, Try.ntmps60
      go_wp2_with fail
      go_loop [31] (fun s31 => AtK 1 s31) (fun s31 => 1 - (intOf s31).toNat)
      case atStart => exact ⟨0, rfl, by omega⟩
      case round =>
        obtain ⟨k, rfl, hk⟩ := hrel
        by_cases hlt : k < 1
        · have hlt' : (k : Int) < 1 := by omega
          obtain ⟨b1, f1, hl1, rfl, hb1, c1⟩ := hI1.at_ hlt
          generalize I[k] = v at *
          by_cases hv : v = 0
          · subst hv
            go_wp2_with fail
            go_ret
            exact ⟨_, rfl, HB.out⟩
          · have hv' : (v == 0) = false := by simpa using hv
            go_wp2_with fail
            go_round
            case rel => exact ⟨k + 1, by go_num, by omega⟩
            case measure => simp [intOf]; omega
        · obtain rfl : k = 1 := by omega
          go_wp2_with fail
          refine (path_any s _ hsz).mono ?_
          rintro e w2 ⟨bv, rfl, rfl⟩
          go_wp2_with fail
          go_ret
          exact ⟨_, rfl, HB.out⟩
    · have h1' : ((n : Int) == 1) = false := by simp; omega
      have h1'' : ((n : Int) != 1) = true := by simp; omega
      go_enter Try.func60, Try.ntmps60
      go_wp2_with fail
      go_ret
      exact ⟨_, rfl, HB.out⟩
  have q9 : (kd == 9) = false := by simpa using h9
  by_cases h2 : kd = 2
  case pos =>
    subst h2
    by_cases h1 : n < 1
    · have h1' : (n : Int) < 1 := by omega
      go_enter Try.func60, Try.ntmps60
      go_wp2_with fail
      go_ret
      exact ⟨_, rfl, HB.out⟩
    · have h1' : ¬ (n : Int) < 1 := by omega
      by_cases h16 : 16 < n
      · have h16' : (16 : Int) < (n : Int) := by omega
        go_enter Try.func60, Try.ntmps60
        go_wp2_with fail
        go_ret
        exact ⟨_, rfl, HB.out⟩
      · have h16' : ¬ (16 : Int) < (n : Int) := by omega
        go_enter Try.func60, Try.ntmps60
        go_wp2_with fail
        go_loop [31] (fun s31 => AtK n s31) (fun s31 => n - (intOf s31).toNat)
        case atStart => exact ⟨0, rfl, by omega⟩
        case round =>
          obtain ⟨k, rfl, hk⟩ := hrel
          by_cases hlt : k < n
          · have hlt' : (k : Int) < (n : Int) := by omega
            obtain ⟨b1, f1, hl1, rfl, hb1, c1⟩ := hI1.at_ hlt
            generalize I[k] = v at *
            by_cases hv : v = 0
            · subst hv
              go_wp2_with fail
              go_ret
              exact ⟨_, rfl, HB.out⟩
            · have hv' : (v == 0) = false := by simpa using hv
              go_wp2_with fail
              go_round
              case rel => exact ⟨k + 1, by go_num, by omega⟩
              case measure => simp [intOf]; omega
          · obtain rfl : k = n := by omega
            go_wp2_with fail
            refine (path_any s _ hsz).mono ?_
            rintro e w2 ⟨bv, rfl, rfl⟩
            go_wp2_with fail
            go_ret
            exact ⟨_, rfl, HB.out⟩
  have q2 : (kd == 2) = false := by simpa using h2
  go_enter Try.func60, Try.ntmps60
  go_wp2_with fail
  go_ret
  exact ⟨_, rfl, HB.out⟩

/-- Entries, loaded and stored whole. -/
def nc (x : Nm) : Array Value := #[.string ⟨x.path.toArray⟩, .int .i64 x.kind, .slice x.ids.A x.ids.n x.ids.c]
theorem nc_one (x : Nm) : (nc x).all (·.oneCell') = true := by simp [nc, Value.oneCell']
section
variable {ops : Array Oper} {rest : List Oper} {o : Oper} {a : Act} {w : World} {Q : Exit → Act → World → Prop}
theorem load_nm (hgd : o.guard = none) (x : Operand) (ho : o.op = .load 64 x) {g : Nat} (hx : a.eval x = .pointer (some ⟨g, 0, none⟩)) {y : Nm} {t : TypeId} (h : Obl w g t (nc y))
    (hK : wpList Try.prog ops Q rest (a.put o.dst (.agg (nc y))) w) : wpList Try.prog ops Q (o :: rest) a w :=
  wpList_load_row hgd _ x ho g hx t (nc y) (0, 0) _ h Try.underlying64 rfl nmSize hK
theorem store_nm (hgd : o.guard = none) (x y : Operand) (ho : o.op = .store 64 x y) {g : Nat} (hx : a.eval x = .pointer (some ⟨g, 0, none⟩)) {c : Nm} (hy : a.eval y = .agg (nc c)) {old : Array Value} {t : TypeId} (h : Obl w g t old) (hold : old.size = 3)
    (hK : wpList Try.prog ops Q rest (a.put o.dst undef) (w.setRow g (nc c))) : wpList Try.prog ops Q (o :: rest) a w :=
  wpList_store_row hgd _ x y ho g (nc c) hx hy t old h nmSize hold (nc_one c) hK
theorem exec_load_nm {x : Operand} (ho : o.op = .load 64 x) {g : Nat} (hx : a.eval x = .pointer (some ⟨g, 0, none⟩)) {t : TypeId} {y : Nm} (h : Obl w g t (nc y)) :
    (execOp a.eval o).run Try.prog w = .ok (.value (.agg (nc y))) w := exec_load_row ho hx h rfl Try.underlying64 nmSize
theorem ret_nm {fn : Func} {p : Tmp} (hr : fn.results = #[.cell p 64]) (tmps : Array Value) {g : Nat} (hp : tmps.getD p undef = .pointer (some ⟨g, 0, none⟩)) {y : Nm} {t : TypeId} (h : Obl w g t (nc y)) :
    (results fn tmps).run Try.prog w = .ok (.agg (nc y)) w := results_cell_1 hr tmps hp h Try.underlying64 rfl nmSize
theorem ret_nm2 {fn : Func} {p u : Tmp} (hr : fn.results = #[.cell p 64, .tmp u]) (tmps : Array Value) {g : Nat} (hp : tmps.getD p undef = .pointer (some ⟨g, 0, none⟩)) {y : Nm} {t : TypeId} (h : Obl w g t (nc y)) :
    (results fn tmps).run Try.prog w = .ok (.tuple #[.agg (nc y), tmps.getD u undef]) w := results_cell_2 hr tmps hp h Try.underlying64 rfl nmSize
end
/-- An entry that came back, its identifiers copied. -/
def CopiedPost (x : Nm) (w : World) (e : Ending) (w' : World) : Prop := ∃ A c I, e = .returned (.agg (nc ⟨x.path, x.kind, ⟨A, x.ids.n, c⟩⟩)) ∧ w'.ownsRow w.heap.size 22 1 (.slice A x.ids.n c) x.ids.n (nv .u64 I) ∧ Below w.heap.size w w'
set_option maxRecDepth 100000 in
set_option maxHeartbeats 4000000 in
theorem copied_any (x : Nm) (B : Nat) (I : List Int) (W : World) (hI : Nums .u64 W B x.ids.A x.ids.n I) (hB : B ≤ W.heap.size) (hn : x.ids.n ≤ 1000) : Calls Try.prog 65 #[.agg (nc x)] W (CopiedPost x W) := by
  obtain ⟨path, kd, ids⟩ := x
  obtain ⟨A, n, c⟩ := ids
  simp only at hI hn
  obtain ⟨w1, hw, O, OR, hb, hs⟩ : ∃ w1, (W.alloc (.cells (nc ⟨path, kd, ⟨A, n, c⟩⟩) 64)).alloc (.cells #[.string ⟨#[]⟩, .int .i64 0, .slice none 0 0] 64) = w1 ∧ Obl w1 W.heap.size 64 (nc ⟨path, kd, ⟨A, n, c⟩⟩) ∧ Obl w1 (W.heap.size + 1) 64 #[.string ⟨#[]⟩, .int .i64 0, .slice none 0 0] ∧ Below W.heap.size W w1 ∧ w1.heap.size = W.heap.size + 2 := by
    refine ⟨_, rfl, (Obl.make W _ _).alloc _, ?_, ((Below.refl _ _).alloc (Nat.le_refl _) _).alloc (by simp) _, by simp⟩
    have := Obl.make (W.alloc (.cells (nc ⟨path, kd, ⟨A, n, c⟩⟩) 64)) 64 #[.string ⟨#[]⟩, .int .i64 0, .slice none 0 0]
    rwa [World.size_alloc] at this
  have HB := hide hb
  have hI1 := hI.belowLe hb hB
  have k2 : w1.cell? ⟨W.heap.size, 2, none⟩ = some (.slice A n c) := O.cell 2
  have hIl := hI.1
  clear hb hI
  go_enter Try.func65, Try.ntmps65
  go_wp2_with (first | (at_builtin; refine wpList_append_rd rfl _ _ _ rfl idTy (A := none) (n := 0) (c := 0) (xs := []) (base := w1.heap.size) rfl own_none (S := A) (m := n) (d := c) (news := nv .u64 I) rfl hI1.2 (nv_one _ _) (by unfold maxLen; omega) (by omega) (Nat.le_refl _) ?_; intro A3 c3 w3 hown3 hg3 _; have hb3 := below_none hg3; have O3 := O.below hb3 O.lt; have OR3 := OR.below hb3 OR.lt; have z3 := O3.free 2; have k3 : w3.cell? ⟨W.heap.size, 2, none⟩ = some (.slice A n c) := O3.cell 2; rw [Nat.zero_add, List.nil_append] at hown3; have O4 : Obl (w3.setCell ⟨W.heap.size, 2, none⟩ (.slice A3 n c3)) W.heap.size 64 (nc ⟨path, kd, ⟨A3, n, c3⟩⟩) := O3.put 2 _; have OR4 := OR3.put_other (b' := W.heap.size) (by omega) 2 (.slice A3 n c3); have HO4 := hide (own_keep hown3 (keep_put (m := W.heap.size) (by omega) 2 (.slice A3 n c3))); have HB4 := hide ((HB.out.trans (hb3.mono (by omega))).setCell (p := ⟨W.heap.size, 2, none⟩) (Nat.le_refl _) (.slice A3 n c3)); obtain ⟨w4, hw4⟩ : ∃ w4, w3.setCell ⟨W.heap.size, 2, none⟩ (.slice A3 n c3) = w4 := ⟨_, rfl⟩; rw [hw4] at O4 OR4 HO4 HB4; clear hown3 O3 OR3 hb3 hg3) | (refine load_nm rfl _ rfl rfl O4 ?_) | (refine store_nm rfl _ _ rfl rfl (c := ⟨path, kd, ⟨A3, n, c3⟩⟩) rfl OR4 rfl ?_) | fail)
  refine bodyPost_ret (ret_nm rfl _ rfl (OR4.row_same _)) rfl ?_
  exact ⟨A3, c3, I, rfl, own_weaken (own_keep HO4.out (keep_row (m := W.heap.size + 1) (by omega) _)) (by omega), below_row HB4.out (by omega) _⟩
end Go.Proofs.Ytcgiobffobonpaa
