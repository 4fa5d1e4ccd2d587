/- Which objects are short: a contract: if the answer is yes, all lists are. (Written by tools/mkkeepob.py.) -/
import Derived.Test.YtddbohnappogkaaNmValid
import Derived.Test.YtddbohnappogkaaKeep
namespace Go.Proofs.Ytddbohnappogkaa
open Go.RowKit

/-- No list is longer than a slice may be. -/
structure Fits (o : Ob) (l : List Nm) (txt : List (List UInt8)) : Prop where
  children : o.children.n ≤ 9223372036854775807
  code : o.code.n ≤ 9223372036854775807
  strs : o.strs.n ≤ 9223372036854775807
  pages : o.pages.n ≤ 9223372036854775807
  table : o.table.n ≤ 9223372036854775807
  words : o.words.n ≤ 9223372036854775807
  data : o.data.n ≤ 9223372036854775807
  backlog : o.backlog.n ≤ 9223372036854775807
  q0 : o.q0.n ≤ 9223372036854775807
  q1 : o.q1.n ≤ 9223372036854775807
  names : o.names.n ≤ 9223372036854775807
  each : ∀ x ∈ l, x.path.length ≤ 9223372036854775807 ∧ x.ids.n ≤ 9223372036854775807
  text : ∀ x ∈ txt, x.length ≤ 9223372036854775807
/-- An object of short lists. -/
structure Kept (o : Ob) (l : List Nm) (txt : List (List UInt8)) : Prop where
  each : ∀ x ∈ l, x.path.length ≤ 200 ∧ x.ids.n ≤ 20
  children : o.children.n ≤ 40
  prog : ShortProg o.code.n o.strs.n txt
  pages : o.pages.n ≤ 20
  table : o.table.n ≤ 20
  words : o.words.n ≤ 20
  data : o.data.n ≤ 5000
  backlog : o.backlog.n ≤ 12
  q0 : o.q0.n ≤ 80
  q1 : o.q1.n ≤ 80
  names : o.names.n ≤ 30
theorem pcell_zero : pcell Ob.zero = #[.int .i64 0, .int .u64 0, .slice none 0 0, .slice none 0 0, .slice none 0 0, .int .i64 0, .int .i64 0, .int .i64 0, .int .i64 0, .int .i64 0, .int .i64 0, .int .i64 0, .int .i64 0, .int .i64 0, .int .i64 0,
  .slice none 0 0, .slice none 0 0, .int .i64 0, .int .i64 0, .int .i64 0] := rfl
section
variable {ops : Array Oper} {rest : List Oper} {o : Oper} {a : Act} {w : World} {Q : Exit → Act → World → Prop}
theorem keep_store_proc (hgd : o.guard = none) (x y : Operand) (ho : o.op = .store 34 x y) {g : Nat} (hx : a.eval x = .pointer (some ⟨g, 0, none⟩)) {c : Ob} (hy : a.eval y = .agg (pcell c)) {old : Array Value} {t : TypeId} (h : Obl w g t old) (hold : old.size = 20)
    (hK : wpList Try.prog ops Q rest (a.put o.dst undef) (w.setRow g (pcell c))) : wpList Try.prog ops Q (o :: rest) a w :=
  wpList_store_row hgd _ x y ho g (pcell c) hx hy t old h procSize hold (pcell_one c) hK
end
/-- A process laid in a new block. -/
theorem laid_proc (o : Ob) (w : World) : ∃ w1, w.alloc (.cells #[.int .i64 0, .int .u64 0, .slice none 0 0, .slice none 0 0, .slice none 0 0, .int .i64 0, .int .i64 0, .int .i64 0, .int .i64 0, .int .i64 0, .int .i64 0, .int .i64 0, .int .i64 0, .int .i64 0, .int .i64 0,
    .slice none 0 0, .slice none 0 0, .int .i64 0, .int .i64 0, .int .i64 0] 34) = w1 ∧ ∃ g, w.heap.size = g ∧ ∃ w2, w1.setRow g (pcell o) = w2 ∧ Obl w1 g 34 (pcell Ob.zero) ∧ Obl w2 g 34 (pcell o) ∧ Below g w w2 ∧ w2.heap.size = g + 1 := by
  have O1 := Obl.make w 34 (pcell Ob.zero)
  exact ⟨_, rfl, _, rfl, _, rfl, O1, O1.row_same _, below_row ((Below.refl _ _).alloc (Nat.le_refl _) _) (Nat.le_refl _) _, by simp [World.setRow]⟩
set_option maxRecDepth 100000 in
set_option maxHeartbeats 16000000 in
theorem keepob_kept (o : Ob) (l : List Nm) (strs : List (List UInt8)) (W : World) (hl : Nms W W.heap.size o.names.A o.names.n l) (hS : Strs W W.heap.size o.strs.A o.strs.n strs) (hf : Fits o l strs) :
    Calls Try.prog 6 #[.agg (oc o)] W (KeptPost (Kept o l strs) W) := by
  obtain ⟨w1, hw, O, hb, hs1⟩ : ∃ w1, W.alloc (.cells (oc o) 41) = w1 ∧ Obl w1 W.heap.size 41 (oc o) ∧ Below W.heap.size W w1 ∧ w1.heap.size = W.heap.size + 1 :=
    ⟨_, rfl, Obl.make W _ _, (Below.refl _ _).alloc (Nat.le_refl _) _, by simp⟩
  have HB := hide hb
  have HL := hide hl
  have HS := hide hS
  have HF := hide hf
  clear hl hS hf hb
  obtain ⟨n, hnn⟩ : ∃ n, o.names.n = n := ⟨_, rfl⟩
  have HN := hide hnn
  have k35 : w1.cell? ⟨W.heap.size, 35, none⟩ = some (.slice o.names.A n o.names.c) := (O.cell 35).trans (by show some (Value.slice o.names.A o.names.n o.names.c) = _; rw [hnn])
  have hn64 : n ≤ 9223372036854775807 := by have := HF.out.names; omega
  clear hnn
  go_enter Try.func6, Try.ntmps6
  clear hs1
  by_cases hn0 : n = 0
  · subst hn0
    go_wp2_with fail
    go_loop [9] (fun s => s = .int .i64 0) (fun _ => 0)
    case atStart => rfl
    case round =>
      subst hrel
      have HK0 : Hid (∀ x ∈ l, x.path.length ≤ 200 ∧ x.ids.n ≤ 20) := hide (fun x hx => by
        have h1 := HL.out.1
        rw [HN.out] at h1
        rw [List.eq_nil_of_length_eq_zero h1] at hx
        cases hx)
      obtain ⟨w3, hw3, g, hg, w4, hw4, OZ, OP, hb4, hs4⟩ := laid_proc o w1
      have hgW : W.heap.size < g := by have := O.lt; omega
      have O4 := O.below hb4 (by omega)
      have HB4 := hide (HB.out.trans (hb4.mono (by omega)))
      have j2 : w4.cell? ⟨g, 2, none⟩ = some (.slice o.children.A o.children.n o.children.c) := OP.cell 2
      have b0 := HF.out.children
      clear hb4
      by_cases h0 : (o.children.n : Int) ≤ 40
      · go_wp2_with (first | (refine wpList_val (by rfl) (exec_load_proc rfl rfl O) ?_) | (refine keep_store_proc rfl _ _ rfl rfl (c := o) rfl OZ rfl ?_; rw [hw4]) | (refine wpList_val (by rfl) (exec_load_prog rfl rfl OP) ?_) | fail)
        refine (short_kept strs _ _ _ _ _ _ W.heap.size o.ppages _ (HS.out.below HB4.out) (by have := HB4.out.size; omega) HF.out.code HF.out.strs HF.out.text).mono ?_
        rintro e w5 ⟨v5, rfl, hv5, hb5⟩
        have HV5 := hide hv5
        clear hv5
        have O5 := O4.below hb5 O4.lt
        have OP5 := OP.below hb5 OP.lt
        have HB5 := hide (HB4.out.trans (hb5.mono HB4.out.size))
        clear hb5 HB4 O4 OP OZ hw3 hw4 O HB j2
        have j15 : w5.cell? ⟨g, 15, none⟩ = some (.slice o.pages.A o.pages.n o.pages.c) := OP5.cell 15
        have j16 : w5.cell? ⟨g, 16, none⟩ = some (.slice o.table.A o.table.n o.table.c) := OP5.cell 16
        have q23 : w5.cell? ⟨W.heap.size, 23, none⟩ = some (.slice o.words.A o.words.n o.words.c) := O5.cell 23
        have q24 : w5.cell? ⟨W.heap.size, 24, none⟩ = some (.slice o.data.A o.data.n o.data.c) := O5.cell 24
        have q29 : w5.cell? ⟨W.heap.size, 29, none⟩ = some (.slice o.backlog.A o.backlog.n o.backlog.c) := O5.cell 29
        have q30 : w5.cell? ⟨W.heap.size, 30, none⟩ = some (.slice o.q0.A o.q0.n o.q0.c) := O5.cell 30
        have q31 : w5.cell? ⟨W.heap.size, 31, none⟩ = some (.slice o.q1.A o.q1.n o.q1.c) := O5.cell 31
        have q35 : w5.cell? ⟨W.heap.size, 35, none⟩ = some (.slice o.names.A o.names.n o.names.c) := O5.cell 35
        have c1 := HF.out.pages
        have c2 := HF.out.table
        have c3 := HF.out.words
        have c4 := HF.out.data
        have c5 := HF.out.backlog
        have c6 := HF.out.q0
        have c7 := HF.out.q1
        have c8 := HF.out.names
        cases v5 with
        | false =>
          clear HK0
          go_wp2_with fail
          go_ret
          exact ⟨_, rfl, (fun h => by first | cases h | (simp at h; omega)), HB5.out⟩
        | true =>
          by_cases h1 : (o.pages.n : Int) ≤ 20
          · skip
            by_cases h2 : (o.table.n : Int) ≤ 20
            · skip
              by_cases h3 : (o.words.n : Int) ≤ 20
              · skip
                by_cases h4 : (o.data.n : Int) ≤ 5000
                · skip
                  by_cases h5 : (o.backlog.n : Int) ≤ 12
                  · skip
                    by_cases h6 : (o.q0.n : Int) ≤ 80
                    · skip
                      by_cases h7 : (o.q1.n : Int) ≤ 80
                      · skip
                        by_cases h8 : (o.names.n : Int) ≤ 30
                        · skip
                          go_wp2_with fail
                          go_ret
                          exact ⟨_, rfl, (fun _ => ⟨HK0.out, by omega, HV5.out (by trivial), by omega, by omega, by omega, by omega, by omega, by omega, by omega, by omega⟩), HB5.out⟩
                        · clear HK0
                          go_wp2_with fail
                          go_ret
                          exact ⟨_, rfl, (fun h => by first | cases h | (simp at h; omega)), HB5.out⟩
                      · clear HK0
                        go_wp2_with fail
                        go_ret
                        exact ⟨_, rfl, (fun h => by first | cases h | (simp at h; omega)), HB5.out⟩
                    · clear HK0
                      go_wp2_with fail
                      go_ret
                      exact ⟨_, rfl, (fun h => by first | cases h | (simp at h; omega)), HB5.out⟩
                  · clear HK0
                    go_wp2_with fail
                    go_ret
                    exact ⟨_, rfl, (fun h => by first | cases h | (simp at h; omega)), HB5.out⟩
                · clear HK0
                  go_wp2_with fail
                  go_ret
                  exact ⟨_, rfl, (fun h => by first | cases h | (simp at h; omega)), HB5.out⟩
              · clear HK0
                go_wp2_with fail
                go_ret
                exact ⟨_, rfl, (fun h => by first | cases h | (simp at h; omega)), HB5.out⟩
            · clear HK0
              go_wp2_with fail
              go_ret
              exact ⟨_, rfl, (fun h => by first | cases h | (simp at h; omega)), HB5.out⟩
          · clear HK0
            go_wp2_with fail
            go_ret
            exact ⟨_, rfl, (fun h => by first | cases h | (simp at h; omega)), HB5.out⟩
      · go_wp2_with (first | (refine wpList_val (by rfl) (exec_load_proc rfl rfl O) ?_) | (refine keep_store_proc rfl _ _ rfl rfl (c := o) rfl OZ rfl ?_; rw [hw4]) | fail)
        go_ret
        exact ⟨_, rfl, (fun h => by first | cases h | (simp at h; omega)), HB4.out⟩
  · have hL0 := HL.out
    rw [HN.out] at hL0
    obtain ⟨b1, f1, _, hA, _⟩ := hL0.at_ (i := 0) (by omega)
    rw [hA] at k35
    have HA := hide hA
    clear hL0 hA
    go_wp2_with fail
    go_loopw [9] (fun s9 wr => ∃ k : Nat, s9 = .int .i64 (k : Int) ∧ k ≤ n ∧ Obl wr W.heap.size 41 (oc o) ∧ Hid (∀ j (h : j < l.length), j < k → l[j].path.length ≤ 200 ∧ l[j].ids.n ≤ 20) ∧ Hid (Below W.heap.size W wr)) (fun s9 _ => n - (intOf s9).toNat)
    case atStart => exact ⟨0, rfl, by omega, O, hide (fun j _ h => by omega), HB⟩
    case round =>
      clear O HB k35
      obtain ⟨k, rfl, hk, O, HK, HB⟩ := hrel
      by_cases hlt : k < n
      · have hlt' : (k : Int) < (n : Int) := by omega
        have hLr := HL.out.below HB.out
        rw [HN.out, HA.out] at hLr
        obtain ⟨b1', f1', hkl, hA, hb1, c0, c1, c2, II, hII⟩ := hLr.at_ hlt
        simp only [Option.some.injEq, Addr.mk.injEq, and_true] at hA
        obtain ⟨rfl, rfl⟩ := hA
        have hx := HF.out.each _ (List.getElem_mem hkl)
        have HK1 : Hid (l[k].path.length ≤ 200 ∧ l[k].ids.n ≤ 20 → ∀ j (h : j < l.length), j < k + 1 → l[j].path.length ≤ 200 ∧ l[j].ids.n ≤ 20) := hide (fun h0 j h h1 => by
          rcases Nat.lt_or_eq_of_le (Nat.le_of_lt_succ h1) with h2 | rfl
          · exact HK.out j h h2
          · exact h0)
        clear HK
        generalize l[k] = x at *
        obtain ⟨w3, hw3, g, hg, w4, hw4, OZ, ON, hb4, hs4⟩ := start_nm wr x
        have hgW : W.heap.size < g := by have := O.lt; omega
        have O4 := O.below hb4 (by omega)
        have HB4 := hide (HB.out.trans (hb4.mono (by omega)))
        have c4 : w4.cell? ⟨g, 0, none⟩ = some (.string ⟨x.path.toArray⟩) := ON.cell 0
        have c5 : w4.cell? ⟨g, 2, none⟩ = some (.slice x.ids.A x.ids.n x.ids.c) := ON.cell 2
        obtain ⟨hx1, hx2⟩ := hx
        have hx3 : (⟨x.path.toArray⟩ : ByteArray).size ≤ 9223372036854775807 := by rw [ba_size]; exact hx1
        obtain ⟨sx, hsx⟩ : ∃ sx : ByteArray, (⟨x.path.toArray⟩ : ByteArray) = sx := ⟨_, rfl⟩
        rw [hsx] at c4 hx3
        have HSX : Hid (sx.size = x.path.length) := hide (by rw [← hsx, ba_size])
        clear hLr hb4 hII hs4 hsx hx1
        by_cases d1 : (200 : Int) < (sx.size : Int)
        · clear HK1
          go_wp2_with (first | (refine wpList_val (by rfl) (exec_load_nmid rfl rfl c0 c1 c2) ?_) | (refine store_nm rfl _ _ rfl rfl (c := x) rfl OZ rfl ?_; rw [hw4]) | fail)
          go_ret
          exact ⟨_, rfl, (fun h => by cases h), HB4.out⟩
        · by_cases d2 : (20 : Int) < (x.ids.n : Int)
          · clear HK1
            go_wp2_with (first | (refine wpList_val (by rfl) (exec_load_nmid rfl rfl c0 c1 c2) ?_) | (refine store_nm rfl _ _ rfl rfl (c := x) rfl OZ rfl ?_; rw [hw4]) | fail)
            go_ret
            exact ⟨_, rfl, (fun h => by cases h), HB4.out⟩
          · have HK2 := hide (HK1.out ⟨by have := HSX.out; omega, by omega⟩)
            clear HK1
            go_wp2_with (first | (refine wpList_val (by rfl) (exec_load_nmid rfl rfl c0 c1 c2) ?_) | (refine store_nm rfl _ _ rfl rfl (c := x) rfl OZ rfl ?_; rw [hw4]) | fail)
            go_roundw
            case rel => exact ⟨k + 1, by go_num, by omega, O4, HK2, HB4⟩
            case measure => simp [intOf]; omega
      · obtain rfl : k = n := by omega
        have HK0 : Hid (∀ x ∈ l, x.path.length ≤ 200 ∧ x.ids.n ≤ 20) := hide (fun x hx => by
          obtain ⟨j, hj, rfl⟩ := List.getElem_of_mem hx
          have h1 := HL.out.1
          rw [HN.out] at h1
          exact HK.out j hj (by omega))
        clear HK
        obtain ⟨w3, hw3, g, hg, w4, hw4, OZ, OP, hb4, hs4⟩ := laid_proc o wr
        have hgW : W.heap.size < g := by have := O.lt; omega
        have O4 := O.below hb4 (by omega)
        have HB4 := hide (HB.out.trans (hb4.mono (by omega)))
        have j2 : w4.cell? ⟨g, 2, none⟩ = some (.slice o.children.A o.children.n o.children.c) := OP.cell 2
        have b0 := HF.out.children
        clear hb4
        by_cases h0 : (o.children.n : Int) ≤ 40
        · go_wp2_with (first | (refine wpList_val (by rfl) (exec_load_proc rfl rfl O) ?_) | (refine keep_store_proc rfl _ _ rfl rfl (c := o) rfl OZ rfl ?_; rw [hw4]) | (refine wpList_val (by rfl) (exec_load_prog rfl rfl OP) ?_) | fail)
          refine (short_kept strs _ _ _ _ _ _ W.heap.size o.ppages _ (HS.out.below HB4.out) (by have := HB4.out.size; omega) HF.out.code HF.out.strs HF.out.text).mono ?_
          rintro e w5 ⟨v5, rfl, hv5, hb5⟩
          have HV5 := hide hv5
          clear hv5
          have O5 := O4.below hb5 O4.lt
          have OP5 := OP.below hb5 OP.lt
          have HB5 := hide (HB4.out.trans (hb5.mono HB4.out.size))
          clear hb5 HB4 O4 OP OZ hw3 hw4 O HB j2
          have j15 : w5.cell? ⟨g, 15, none⟩ = some (.slice o.pages.A o.pages.n o.pages.c) := OP5.cell 15
          have j16 : w5.cell? ⟨g, 16, none⟩ = some (.slice o.table.A o.table.n o.table.c) := OP5.cell 16
          have q23 : w5.cell? ⟨W.heap.size, 23, none⟩ = some (.slice o.words.A o.words.n o.words.c) := O5.cell 23
          have q24 : w5.cell? ⟨W.heap.size, 24, none⟩ = some (.slice o.data.A o.data.n o.data.c) := O5.cell 24
          have q29 : w5.cell? ⟨W.heap.size, 29, none⟩ = some (.slice o.backlog.A o.backlog.n o.backlog.c) := O5.cell 29
          have q30 : w5.cell? ⟨W.heap.size, 30, none⟩ = some (.slice o.q0.A o.q0.n o.q0.c) := O5.cell 30
          have q31 : w5.cell? ⟨W.heap.size, 31, none⟩ = some (.slice o.q1.A o.q1.n o.q1.c) := O5.cell 31
          have q35 : w5.cell? ⟨W.heap.size, 35, none⟩ = some (.slice o.names.A o.names.n o.names.c) := O5.cell 35
          have c1 := HF.out.pages
          have c2 := HF.out.table
          have c3 := HF.out.words
          have c4 := HF.out.data
          have c5 := HF.out.backlog
          have c6 := HF.out.q0
          have c7 := HF.out.q1
          have c8 := HF.out.names
          cases v5 with
          | false =>
            clear HK0
            go_wp2_with fail
            go_ret
            exact ⟨_, rfl, (fun h => by first | cases h | (simp at h; omega)), HB5.out⟩
          | true =>
            by_cases h1 : (o.pages.n : Int) ≤ 20
            · skip
              by_cases h2 : (o.table.n : Int) ≤ 20
              · skip
                by_cases h3 : (o.words.n : Int) ≤ 20
                · skip
                  by_cases h4 : (o.data.n : Int) ≤ 5000
                  · skip
                    by_cases h5 : (o.backlog.n : Int) ≤ 12
                    · skip
                      by_cases h6 : (o.q0.n : Int) ≤ 80
                      · skip
                        by_cases h7 : (o.q1.n : Int) ≤ 80
                        · skip
                          by_cases h8 : (o.names.n : Int) ≤ 30
                          · skip
                            go_wp2_with fail
                            go_ret
                            exact ⟨_, rfl, (fun _ => ⟨HK0.out, by omega, HV5.out (by trivial), by omega, by omega, by omega, by omega, by omega, by omega, by omega, by omega⟩), HB5.out⟩
                          · clear HK0
                            go_wp2_with fail
                            go_ret
                            exact ⟨_, rfl, (fun h => by first | cases h | (simp at h; omega)), HB5.out⟩
                        · clear HK0
                          go_wp2_with fail
                          go_ret
                          exact ⟨_, rfl, (fun h => by first | cases h | (simp at h; omega)), HB5.out⟩
                      · clear HK0
                        go_wp2_with fail
                        go_ret
                        exact ⟨_, rfl, (fun h => by first | cases h | (simp at h; omega)), HB5.out⟩
                    · clear HK0
                      go_wp2_with fail
                      go_ret
                      exact ⟨_, rfl, (fun h => by first | cases h | (simp at h; omega)), HB5.out⟩
                  · clear HK0
                    go_wp2_with fail
                    go_ret
                    exact ⟨_, rfl, (fun h => by first | cases h | (simp at h; omega)), HB5.out⟩
                · clear HK0
                  go_wp2_with fail
                  go_ret
                  exact ⟨_, rfl, (fun h => by first | cases h | (simp at h; omega)), HB5.out⟩
              · clear HK0
                go_wp2_with fail
                go_ret
                exact ⟨_, rfl, (fun h => by first | cases h | (simp at h; omega)), HB5.out⟩
            · clear HK0
              go_wp2_with fail
              go_ret
              exact ⟨_, rfl, (fun h => by first | cases h | (simp at h; omega)), HB5.out⟩
        · go_wp2_with (first | (refine wpList_val (by rfl) (exec_load_proc rfl rfl O) ?_) | (refine keep_store_proc rfl _ _ rfl rfl (c := o) rfl OZ rfl ?_; rw [hw4]) | fail)
          go_ret
          exact ⟨_, rfl, (fun h => by first | cases h | (simp at h; omega)), HB4.out⟩
theorem keepob_any (o : Ob) (l : List Nm) (strs : List (List UInt8)) (W : World) (hl : Nms W W.heap.size o.names.A o.names.n l) (hS : Strs W W.heap.size o.strs.A o.strs.n strs) (hf : Fits o l strs) :
    Calls Try.prog 6 #[.agg (oc o)] W (KeepPost W) := (keepob_kept o l strs W hl hS hf).mono fun _ _ h => h.open_
end Go.Proofs.Ytddbohnappogkaa
