/- Layer 3, allocators: contracts. -/
import Derived.Test.YtgdhlghklnlahaaDoorIdent
import Derived.Test.YtgdhlghklnlahaaDoorAgg
import Derived.Deep.QuietTactic
import Derived.BigQuiet
namespace Go.Proofs.YtgdhlghklnlahaaDoor
open Go.RowKit

theorem numTy : ElemTy Tryd.prog 36 22 1 8 := by
  obtain ⟨i0, hi, hz0, hz1, hz2⟩ := info_parts (show (Tryd.prog.info? 22).map (fun i => (i.zero, i.size, i.bytes)) = some (some (.int .u64 0), 1, 8) by kernel_rfl)
  exact ⟨i0, _, Tryd.underlying36, hi, hz0, hz1, hz2, rfl, by omega⟩
theorem alSize : (Tryd.prog.info? 34).map (·.size) = some 3 := by kernel_rfl
/-- An allocator. -/
def al (r : Int × Int × Int) : Array Value := #[.int .i64 r.1, .int .i64 r.2.1, .int .i64 r.2.2]

namespace Id
def new (n b : Int) : (Int × Int × Int) × Nat := if ogn n b then ((n, b, 0), 0) else ((0, 0, 0), 2)
def ids (n b s : Int) (k : Nat) : List Int := (List.range k).map fun (i : Nat) => n * 72057594037927936 + b * 1099511627776 + (s + 1 + i)
theorem ids_succ (n b s : Int) (k : Nat) : ids n b s (k + 1) = ids n b s k ++ [n * 72057594037927936 + b * 1099511627776 + (s + 1 + k)] := by simp [ids, List.range_succ]
theorem ids_length (n b s : Int) (k : Nat) : (ids n b s k).length = k := by simp [ids]
def chk (a : Int × Int × Int) (n : Int) : Nat :=
  if ogn a.1 a.2.1 && (decide (0 ≤ a.2.2) && decide (a.2.2 ≤ 1099511627775)) then (if decide (0 ≤ n) && decide (n ≤ 64) then (if 1099511627775 - a.2.2 < n then 3 else 0) else 2) else 1
theorem chk_ok {a : Int × Int × Int} {n : Int} (h : chk a n = 0) : ((0 ≤ a.1 ∧ a.1 ≤ 127) ∧ 0 ≤ a.2.1 ∧ a.2.1 ≤ 65535) ∧ (0 ≤ a.2.2 ∧ a.2.2 ≤ 1099511627775) ∧ (0 ≤ n ∧ n ≤ 64) ∧ n ≤ 1099511627775 - a.2.2 := by
  unfold chk at h
  split at h
  · rename_i h1
    split at h
    · rename_i h2
      split at h
      · omega
      · simp only [Bool.and_eq_true, decide_eq_true_eq] at h1 h2
        exact ⟨ogn_iff.1 h1.1, h1.2, h2, by omega⟩
    · omega
  · omega
theorem chk_le (a : Int × Int × Int) (n : Int) : chk a n ≤ 3 := by
  unfold chk
  repeat' split
  all_goals omega
def next (a : Int × Int × Int) (n : Int) : List Int × (Int × Int × Int) × Nat :=
  if chk a n = 0 then (ids a.1 a.2.1 a.2.2 n.toNat, (a.1, a.2.1, a.2.2 + n), 0) else ([], (0, 0, 0), chk a n)
end Id

/-- An allocator and an error code. -/
def NewPost (r : (Int × Int × Int) × Nat) (w : World) (e : Ending) (w' : World) : Prop := e = .returned (.tuple #[.agg (al r.1), .int .i64 (r.2 : Int)]) ∧ Below w.heap.size w w'
theorem NewPost.at_ {r : (Int × Int × Int) × Nat} {a : Int × Int × Int} {er : Nat} {w w' : World} {e : Ending} (h : NewPost r w e w') (hr : r = (a, er)) : e = .returned (.tuple #[.agg (al a), .int .i64 (er : Int)]) ∧ Below w.heap.size w w' := by subst hr; exact h

theorem new_any (n b : Int) (w : World) : Calls Tryd.prog 22 #[.int .i64 n, .int .i64 b] w (NewPost (Id.new n b) w) := by
  unfold Id.new
  cases h : Id.ogn n b with
  | false =>
    have H := hide h
    rw [if_neg (by simp)]
    clear h
    go_enter Tryd.func22, Tryd.ntmps22
    go_wp2_with fail
    refine (origin_any _ _ _).mono ?_
    rintro e w1 ⟨rfl, rfl⟩
    rw [H.out]
    go_wp2
    refine bodyPost_ret (results_cell_2 rfl _ (b := w.heap.size) rfl (Obl.make _ _ _) Tryd.underlying34 rfl alSize) rfl ?_
    exact ⟨rfl, (Below.refl _ _).alloc (Nat.le_refl _) _⟩
  | true =>
    have H := hide h
    rw [if_pos rfl]
    clear h
    go_enter Tryd.func22, Tryd.ntmps22
    go_wp2_with fail
    refine (origin_any _ _ _).mono ?_
    rintro e w1 ⟨rfl, rfl⟩
    rw [H.out]
    go_wp2
    refine bodyPost_ret (results_cell_2 rfl _ (b := w.heap.size) rfl (Obl.make _ _ _) Tryd.underlying34 rfl alSize) rfl ?_
    exact ⟨rfl, (Below.refl _ _).alloc (Nat.le_refl _) _⟩

theorem refNew_any (n b : Int) (w : World) : Calls Tryd.prog 23 #[.int .i64 n, .int .i64 b] w (NewPost (Id.new n b) w) := by
  unfold Id.new
  by_cases h : (0 ≤ n ∧ n ≤ 127) ∧ 0 ≤ b ∧ b ≤ 65535
  · rw [if_pos (Id.ogn_iff.2 h)]
    obtain ⟨⟨h1, h2⟩, h3, h4⟩ := h
    go_enter Tryd.func23, Tryd.ntmps23
    go_wp2
    refine bodyPost_ret (results_cell_2 rfl _ (b := w.heap.size) rfl (Obl.make _ _ _) Tryd.underlying34 rfl alSize) rfl ?_
    exact ⟨rfl, (Below.refl _ _).alloc (Nat.le_refl _) _⟩
  · rw [if_neg (fun hh => h (Id.ogn_iff.1 hh))]
    have hc : n < 0 ∨ (0 ≤ n ∧ 127 < n) ∨ (0 ≤ n ∧ n ≤ 127 ∧ b < 0) ∨ (0 ≤ n ∧ n ≤ 127 ∧ 0 ≤ b ∧ 65535 < b) := by omega
    clear h
    rcases hc with h1 | ⟨h1, h2⟩ | ⟨h1, h2, h3⟩ | ⟨h1, h2, h3, h4⟩
    all_goals
      go_enter Tryd.func23, Tryd.ntmps23
      go_wp2
      refine bodyPost_ret (results_cell_2 rfl _ (b := w.heap.size) rfl (Obl.make _ _ _) Tryd.underlying34 rfl alSize) rfl ?_
      exact ⟨rfl, (Below.refl _ _).alloc (Nat.le_refl _) _⟩

theorem checkNext_any (a : Int × Int × Int) (n : Int) (w : World) :
    Calls Tryd.prog 30 #[.agg (al a), .int .i64 n] w fun e w' => e = .returned (.int .i64 (Id.chk a n : Int)) ∧ Below w.heap.size w w' := by
  obtain ⟨nd, bt, sr⟩ := a
  unfold Id.chk al
  cases h : Id.ogn nd bt with
  | false =>
    have H := hide h
    rw [Bool.false_and, if_neg (by simp)]
    clear h
    go_enter Tryd.func30, Tryd.ntmps30
    go_wp2_with fail
    refine (origin_any _ _ _).mono ?_
    rintro e w1 ⟨rfl, rfl⟩
    rw [H.out]
    go_wp2
    go_ret
    exact ⟨rfl, (Below.refl _ _).alloc (Nat.le_refl _) _⟩
  | true =>
    cases h2 : decide (0 ≤ sr) && decide (sr ≤ 1099511627775) with
    | false =>
      have H := hide h
      have H2 := hide h2
      rw [Bool.true_and, if_neg (by simp)]
      clear h h2
      go_enter Tryd.func30, Tryd.ntmps30
      go_wp2_with fail
      refine (origin_any _ _ _).mono ?_
      rintro e w1 ⟨rfl, rfl⟩
      rw [H.out]
      go_wp2_with fail
      refine (within_any _ _ _ _).mono ?_
      rintro e w1 ⟨rfl, rfl⟩
      rw [H2.out]
      go_wp2
      go_ret
      exact ⟨rfl, (Below.refl _ _).alloc (Nat.le_refl _) _⟩
    | true =>
      have hb : 0 ≤ sr ∧ sr ≤ 1099511627775 := by simpa using h2
      obtain ⟨hb1, hb2⟩ := hb
      have H := hide h
      have H2 := hide h2
      rw [Bool.true_and, if_pos rfl]
      clear h h2
      cases h3 : decide (0 ≤ n) && decide (n ≤ 64) with
      | false =>
        have H3 := hide h3
        rw [if_neg (by simp)]
        clear h3
        go_enter Tryd.func30, Tryd.ntmps30
        go_wp2_with fail
        refine (origin_any _ _ _).mono ?_
        rintro e w1 ⟨rfl, rfl⟩
        rw [H.out]
        go_wp2_with fail
        refine (within_any _ _ _ _).mono ?_
        rintro e w1 ⟨rfl, rfl⟩
        rw [H2.out]
        go_wp2_with fail
        refine (within_any _ _ _ _).mono ?_
        rintro e w1 ⟨rfl, rfl⟩
        rw [H3.out]
        go_wp2
        go_ret
        exact ⟨rfl, (Below.refl _ _).alloc (Nat.le_refl _) _⟩
      | true =>
        have H3 := hide h3
        rw [if_pos rfl]
        clear h3
        by_cases h4 : 1099511627775 - sr < n
        · rw [if_pos h4]
          go_enter Tryd.func30, Tryd.ntmps30
          go_wp2_with fail
          refine (origin_any _ _ _).mono ?_
          rintro e w1 ⟨rfl, rfl⟩
          rw [H.out]
          go_wp2_with fail
          refine (within_any _ _ _ _).mono ?_
          rintro e w1 ⟨rfl, rfl⟩
          rw [H2.out]
          go_wp2_with fail
          refine (within_any _ _ _ _).mono ?_
          rintro e w1 ⟨rfl, rfl⟩
          rw [H3.out]
          go_wp2
          go_ret
          exact ⟨rfl, (Below.refl _ _).alloc (Nat.le_refl _) _⟩
        · rw [if_neg h4]
          go_enter Tryd.func30, Tryd.ntmps30
          go_wp2_with fail
          refine (origin_any _ _ _).mono ?_
          rintro e w1 ⟨rfl, rfl⟩
          rw [H.out]
          go_wp2_with fail
          refine (within_any _ _ _ _).mono ?_
          rintro e w1 ⟨rfl, rfl⟩
          rw [H2.out]
          go_wp2_with fail
          refine (within_any _ _ _ _).mono ?_
          rintro e w1 ⟨rfl, rfl⟩
          rw [H3.out]
          go_wp2
          go_ret
          exact ⟨rfl, (Below.refl _ _).alloc (Nat.le_refl _) _⟩

/-- Identifiers, an allocator and an error code. -/
def NextPost (r : List Int × (Int × Int × Int) × Nat) (w : World) (e : Ending) (w' : World) : Prop :=
  ∃ A c, e = .returned (.tuple #[.slice A r.1.length c, .agg (al r.2.1), .int .i64 (r.2.2 : Int)]) ∧ r.1.length ≤ c ∧ c ≤ 9223372036854775807 ∧ Nums .u64 w' w'.heap.size A r.1.length r.1 ∧ Below w.heap.size w w'
theorem NextPost.of {r : List Int × (Int × Int × Int) × Nat} {l : List Int} {a : Int × Int × Int} {er n c : Nat} {w w' : World} {e : Ending} {A : Option Addr} (hr : r = (l, a, er)) (he : e = .returned (.tuple #[.slice A n c, .agg (al a), .int .i64 (er : Int)])) (hn : n ≤ c) (hc : c ≤ 9223372036854775807) (hs : Nums .u64 w' w'.heap.size A n l) (hb : Below w.heap.size w w') : NextPost r w e w' := by
  subst hr
  obtain rfl := hs.len
  exact ⟨A, c, he, hn, hc, hs, hb⟩
theorem NextPost.at_ {r : List Int × (Int × Int × Int) × Nat} {l : List Int} {a : Int × Int × Int} {er : Nat} {w w' : World} {e : Ending} (h : NextPost r w e w') (hr : r = (l, a, er)) :
    ∃ A c, e = .returned (.tuple #[.slice A l.length c, .agg (al a), .int .i64 (er : Int)]) ∧ l.length ≤ c ∧ c ≤ 9223372036854775807 ∧ Nums .u64 w' w'.heap.size A l.length l ∧ Below w.heap.size w w' := by
  subst hr; exact h

set_option maxHeartbeats 1000000 in
theorem next_any (a : Int × Int × Int) (n : Int) (w : World) : Calls Tryd.prog 19 #[.agg (al a), .int .i64 n] w (NextPost (Id.next a n) w) := by
  by_cases h : Id.chk a n = 0
  · have hk := Id.chk_ok h
    have HC := hide (checkNext_any a n)
    rw [h] at HC
    have Hr : Hid (Id.next a n = (Id.ids a.1 a.2.1 a.2.2 n.toNat, (a.1, a.2.1, a.2.2 + n), 0)) := hide (by unfold Id.next; rw [if_pos h])
    obtain ⟨nd, bt, sr⟩ := a
    simp only [al] at HC ⊢
    obtain ⟨⟨⟨h1, h2⟩, h3, h4⟩, ⟨h5, h6⟩, ⟨h7, h8⟩, h9⟩ := hk
    clear h
    obtain ⟨N, rfl⟩ := Int.eq_ofNat_of_zero_le h7
    have hn0 := World.ownsRow_nil w w.heap.size 22 1
    go_enter Tryd.func19, Tryd.ntmps19
    go_wp2_with fail
    refine (HC.out _).mono ?_
    rintro e w1 ⟨rfl, hb1⟩
    have hs1 : (w.alloc (.cells #[.int .i64 nd, .int .i64 bt, .int .i64 sr] 34)).heap.size = w.heap.size + 1 := by simp
    have O5 := (Obl.make (w.alloc (.cells #[.int .i64 nd, .int .i64 bt, .int .i64 sr] 34)) 34 #[.int .i64 0, .int .i64 0, .int .i64 0]).below hb1 (by simp)
    rw [hs1] at O5
    have O2 := ((Obl.make w 34 #[.int .i64 nd, .int .i64 bt, .int .i64 sr]).alloc (.cells #[.int .i64 0, .int .i64 0, .int .i64 0] 34)).below hb1 (by simp; omega)
    have hbb : Below w.heap.size w w1 := (((Below.refl _ w).alloc (Nat.le_refl _) _).alloc (by simp) _).trans (hb1.mono (by simp; omega))
    have hn1 : w1.ownsRow w.heap.size 22 1 (.slice none 0 0) 0 [] := World.ownsRow_nil w1 w.heap.size 22 1
    clear hs1 hb1 hn0
    go_wp2_with fail
    go_loopw [8, 19] (fun s8 s19 wr => ∃ (k c : Nat) (A : Option Addr), s8 = .slice A k c ∧ s19 = .int .i64 (k : Int) ∧ k ≤ N ∧ Obl wr w.heap.size 34 #[.int .i64 nd, .int .i64 bt, .int .i64 (sr + k)] ∧ Obl wr (w.heap.size + 1) 34 #[.int .i64 0, .int .i64 0, .int .i64 0] ∧ wr.ownsRow w.heap.size 22 1 (.slice A k c) k (nv .u64 (Id.ids nd bt sr k)) ∧ Below w.heap.size w wr) (fun _ s19 _ => N - (intOf s19).toNat)
    case atStart => exact ⟨0, 0, none, rfl, rfl, by omega, by simpa using O2, O5, hn1, hbb⟩
    case round =>
      clear O2 O5 hbb hn1
      obtain ⟨k, c, A, rfl, rfl, hk, O2, O5, hown, hb⟩ := hrel
      have hB : w.heap.size ≤ wr.heap.size := hb.size
      by_cases hlt : k < N
      · have ne2 : (Value.slice A k c).ownBlock ≠ some w.heap.size := by
          rw [ownBlock_slice]; exact fun e => Obl.apart O2 hown (by decide) e.symm
        have hmk := Id.mk_ok (n := nd) (b := bt) (s := sr + k + 1) (Id.ogn_iff.2 ⟨⟨h1, h2⟩, h3, h4⟩) (Id.okS_iff.2 ⟨by omega, by omega⟩)
        have Hids := hide (Id.ids_succ nd bt sr k)
        have q0 := O2.cell 0
        have q1 := O2.cell 1
        have q2 := O2.cell 2
        have z2 := O2.free 2
        simp at q0 q1 q2
        have O2' := O2.put 2 (.int .i64 (sr + k + 1))
        have hown' := own_put_other (i := 2) hown ne2 (.int .i64 (sr + k + 1))
        have O5' : Obl (wr.setCell ⟨w.heap.size, 2, none⟩ (.int .i64 (sr + k + 1))) (w.heap.size + 1) 34 #[.int .i64 0, .int .i64 0, .int .i64 0] := O5.put_other (by omega) _ _
        have hb' := hb.setCell (p := ⟨w.heap.size, 2, none⟩) (by simp) (.int .i64 (sr + k + 1))
        have hlt2 := O2.lt
        have Hmk := hide hmk
        clear hmk hown O5 hb
        go_wp2_with fail
        refine (make_any _ _ _ _).mono ?_
        intro e w2 hp
        obtain ⟨rfl, rfl⟩ := hp.at_ Hmk.out
        clear hp
        generalize wr.setCell ⟨w.heap.size, 2, none⟩ (.int .i64 (sr + k + 1)) = wm at *
        have hBm := hb'.size
        go_wp2_with (at_builtin; (refine wpList_append_rd rfl (.tmp 35) (.tmp 37) _ rfl numTy rfl (hown'.alloc _) rfl (Row.new _ _ _) (by simp [Value.oneCell']) (by unfold maxLen; omega) (by omega) (by simp; omega) ?_; intro A3 c3 w3 hown3 hgrow3 hat3))
        have O2a := O2'.alloc (.cells #[.int .u64 (nd * 72057594037927936 + bt * 1099511627776 + (sr + k + 1))] 22)
        have O5a := O5'.alloc (.cells #[.int .u64 (nd * 72057594037927936 + bt * 1099511627776 + (sr + k + 1))] 22)
        have O23 := O2a.grown hgrow3 (O2a.apart (hown'.alloc _) (by decide))
        have O53 := O5a.grown hgrow3 (O5a.apart (hown'.alloc _) (by decide))
        have hb3 : Below w.heap.size w w3 := below_own (hb'.alloc hBm _) (hown'.alloc _) hgrow3 (by simp; omega)
        rw [nv_snoc] at hown3
        go_roundw
        case rel => exact ⟨k + 1, c3, A3, rfl, by go_num, by omega, by rw [show sr + ((k + 1 : Nat) : Int) = sr + k + 1 by omega]; exact O23, O53, by rw [Hids.out, show sr + 1 + (k : Int) = sr + k + 1 by omega]; exact hown3, hb3⟩
        case measure => simp [intOf]; omega
      · obtain rfl : k = N := by omega
        have q0 := O2.cell 0
        have q1 := O2.cell 1
        have q2 := O2.cell 2
        have p0 := O5.cell 0
        have p1 := O5.cell 1
        have p2 := O5.cell 2
        have z0 := O5.free 0
        have z1 := O5.free 1
        have z2 := O5.free 2
        simp at q0 q1 q2 p0 p1 p2
        go_wp2_with fail
        go_region
        go_wp2
        have hd : Below w.heap.size w (((wr.setCell ⟨w.heap.size + 1, 0, none⟩ (.int .i64 nd)).setCell ⟨w.heap.size + 1, 1, none⟩ (.int .i64 bt)).setCell ⟨w.heap.size + 1, 2, none⟩ (.int .i64 (sr + k))).drew := (((hb.setCell (by simp) _).setCell (by simp) _).setCell (by simp) _).drew
        refine bodyPost_ret (results_tcell_3 rfl _ (b := w.heap.size + 1) rfl (((O5.put 0 _).put 1 _).put 2 _).drew Tryd.underlying34 rfl alSize) rfl ?_
        have ne5 : (Value.slice A k c).ownBlock ≠ some (w.heap.size + 1) := by
          rw [ownBlock_slice]; exact fun e => Obl.apart O5 hown (by decide) e.symm
        have hown' := own_put_other (i := 2) (own_put_other (i := 1) (own_put_other (i := 0) hown ne5 (.int .i64 nd)) ne5 (.int .i64 bt)) ne5 (.int .i64 (sr + k))
        exact NextPost.of Hr.out rfl (own_cap hown) (own_cap63 hown) (Nums.of_own hown').drew hd
  · have HC := hide (checkNext_any a n)
    have hle := Id.chk_le a n
    have Hr : Hid (Id.next a n = ([], (0, 0, 0), Id.chk a n)) := hide (by unfold Id.next; rw [if_neg h])
    generalize Id.chk a n = er at *
    have e1 : ((er : Int) != 0) = true := by simp; omega
    clear h
    go_enter Tryd.func19, Tryd.ntmps19
    simp only [al] at HC ⊢
    go_wp2_with fail
    refine (HC.out _).mono ?_
    rintro e w1 ⟨rfl, hb1⟩
    have O5 := (Obl.make (w.alloc (.cells #[.int .i64 a.1, .int .i64 a.2.1, .int .i64 a.2.2] 34)) 34 #[.int .i64 0, .int .i64 0, .int .i64 0]).below hb1 (by simp)
    have hs1 : (w.alloc (.cells #[.int .i64 a.1, .int .i64 a.2.1, .int .i64 a.2.2] 34)).heap.size = w.heap.size + 1 := by simp
    rw [hs1] at O5
    have q0 := O5.cell 0
    have q1 := O5.cell 1
    have q2 := O5.cell 2
    have z0 := O5.free 0
    have z1 := O5.free 1
    have z2 := O5.free 2
    simp at q0 q1 q2
    have hbb : Below w.heap.size w w1 := (((Below.refl _ w).alloc (Nat.le_refl _) _).alloc (by simp) _).trans (hb1.mono (by simp; omega))
    clear hs1
    go_wp2
    refine bodyPost_ret (results_tcell_3 rfl _ (b := w.heap.size + 1) rfl (((O5.put 0 _).put 1 _).put 2 _) Tryd.underlying34 rfl alSize) rfl ?_
    exact NextPost.of Hr.out rfl (Nat.le_refl _) (by omega) Nums.nil (((hbb.setCell (by simp) _).setCell (by simp) _).setCell (by simp) _)

namespace Id
theorem new_ok {n b : Int} (h : ogn n b = true) : new n b = ((n, b, 0), 0) := by unfold new; rw [if_pos h]
theorem new_no {n b : Int} (h : ogn n b = false) : new n b = ((0, 0, 0), 2) := by unfold new; rw [if_neg (by simp [h])]
theorem chk_cases (a : Int × Int × Int) (n : Int) : (chk a n = 1 ∧ ogn a.1 a.2.1 = false) ∨ (ogn a.1 a.2.1 = true ∧ ((chk a n = 1 ∧ a.2.2 < 0) ∨ (chk a n = 1 ∧ 0 ≤ a.2.2 ∧ 1099511627775 < a.2.2) ∨ (0 ≤ a.2.2 ∧ a.2.2 ≤ 1099511627775 ∧
    ((chk a n = 2 ∧ n < 0) ∨ (chk a n = 2 ∧ 0 ≤ n ∧ 64 < n) ∨ (0 ≤ n ∧ n ≤ 64 ∧ ((chk a n = 3 ∧ 1099511627775 < a.2.2 + n) ∨ (chk a n = 0 ∧ a.2.2 + n ≤ 1099511627775))))))) := by
  unfold chk
  cases h : ogn a.1 a.2.1 with
  | false => left; simp
  | true =>
    right
    refine ⟨rfl, ?_⟩
    by_cases h1 : a.2.2 < 0
    · left; rw [decide_eq_false (p := 0 ≤ a.2.2) (by omega)]; simp; omega
    · by_cases h2 : 1099511627775 < a.2.2
      · right; left; rw [decide_eq_false (p := a.2.2 ≤ 1099511627775) (by omega)]; simp; omega
      · right; right
        refine ⟨by omega, by omega, ?_⟩
        rw [decide_eq_true (p := 0 ≤ a.2.2) (by omega), decide_eq_true (p := a.2.2 ≤ 1099511627775) (by omega)]
        by_cases h3 : n < 0
        · left; rw [decide_eq_false (p := 0 ≤ n) (by omega)]; simp; omega
        · by_cases h4 : 64 < n
          · right; left; rw [decide_eq_false (p := n ≤ 64) (by omega)]; simp; omega
          · right; right
            refine ⟨by omega, by omega, ?_⟩
            rw [decide_eq_true (p := 0 ≤ n) (by omega), decide_eq_true (p := n ≤ 64) (by omega)]
            by_cases h5 : 1099511627775 < a.2.2 + n
            · left; refine ⟨?_, h5⟩; rw [if_pos (by rfl), if_pos (by rfl), if_pos (by omega)]
            · right; refine ⟨?_, by omega⟩; rw [if_pos (by rfl), if_pos (by rfl), if_neg (by omega)]
end Id

set_option maxHeartbeats 1000000 in
theorem refNext_no (a : Int × Int × Int) (n : Int) (w : World) (h : Id.chk a n ≠ 0) : Calls Tryd.prog 20 #[.agg (al a), .int .i64 n] w (NextPost (Id.next a n) w) := by
  have hc := Id.chk_cases a n
  have Hr : Hid (Id.next a n = ([], (0, 0, 0), Id.chk a n)) := hide (by unfold Id.next; rw [if_neg h])
  obtain ⟨nd, bt, sr⟩ := a
  generalize Id.chk (nd, bt, sr) n = er at *
  simp only at hc
  rcases hc with ⟨rfl, ho⟩ | ⟨ho, hc⟩
  · have Hn := hide (Id.new_no ho)
    clear h ho
    simp only [al]
    go_enter Tryd.func20, Tryd.ntmps20
    go_wp2_with fail
    refine (refNew_any _ _ _).mono ?_
    intro e w1 hp
    obtain ⟨rfl, hb1⟩ := hp.at_ Hn.out
    clear hp
    simp only [al]
    have hs1 : (w.alloc (.cells #[.int .i64 nd, .int .i64 bt, .int .i64 sr] 34)).heap.size = w.heap.size + 1 := by simp
    have O5 := (Obl.make (w.alloc (.cells #[.int .i64 nd, .int .i64 bt, .int .i64 sr] 34)) 34 #[.int .i64 0, .int .i64 0, .int .i64 0]).below hb1 (by simp)
    rw [hs1] at O5
    have O2 := ((Obl.make w 34 #[.int .i64 nd, .int .i64 bt, .int .i64 sr]).alloc (.cells #[.int .i64 0, .int .i64 0, .int .i64 0] 34)).below hb1 (by simp; omega)
    have hbb : Below w.heap.size w w1 := (((Below.refl _ w).alloc (Nat.le_refl _) _).alloc (by simp) _).trans (hb1.mono (by simp; omega))
    clear hs1 hb1
    have q0 := O2.cell 0
    have q1 := O2.cell 1
    have q2 := O2.cell 2
    have p0 := O5.cell 0
    have p1 := O5.cell 1
    have p2 := O5.cell 2
    have z0 := O5.free 0
    have z1 := O5.free 1
    have z2 := O5.free 2
    simp at q0 q1 q2 p0 p1 p2
    have hlt := O5.lt
    have hlt0 := O2.lt
    have hd : Below w.heap.size w ((((w1.setCell ⟨w.heap.size + 1, 0, none⟩ (.int .i64 0)).setCell ⟨w.heap.size + 1, 1, none⟩ (.int .i64 0)).setCell ⟨w.heap.size + 1, 2, none⟩ (.int .i64 0)).alloc (.cells #[.int .i64 0, .int .i64 0, .int .i64 0] 34)) := (((hbb.setCell (by simp) _).setCell (by simp) _).setCell (by simp) _).alloc (by simp; omega) _
    go_wp2
    refine bodyPost_ret (results_tcell_3 rfl _ (b := w.heap.size + 1) rfl ((((O5.put 0 _).put 1 _).put 2 _).alloc _) Tryd.underlying34 rfl alSize) rfl ?_
    exact NextPost.of Hr.out rfl (Nat.le_refl _) (by omega) Nums.nil hd
  · have Hn := hide (Id.new_ok ho)
    clear ho
    rcases hc with ⟨rfl, k1⟩ | ⟨rfl, k1, k2⟩ | ⟨k1, k2, ⟨rfl, k3⟩ | ⟨rfl, k3, k4⟩ | ⟨k3, k4, ⟨rfl, k5⟩ | ⟨rfl, _⟩⟩⟩
    all_goals try exact absurd rfl h
    all_goals
      clear h
      simp only [al]
      go_enter Tryd.func20, Tryd.ntmps20
      go_wp2_with fail
      refine (refNew_any _ _ _).mono ?_
      intro e w1 hp
      obtain ⟨rfl, hb1⟩ := hp.at_ Hn.out
      clear hp
      simp only [al]
      have hs1 : (w.alloc (.cells #[.int .i64 nd, .int .i64 bt, .int .i64 sr] 34)).heap.size = w.heap.size + 1 := by simp
      have O5 := (Obl.make (w.alloc (.cells #[.int .i64 nd, .int .i64 bt, .int .i64 sr] 34)) 34 #[.int .i64 0, .int .i64 0, .int .i64 0]).below hb1 (by simp)
      rw [hs1] at O5
      have O2 := ((Obl.make w 34 #[.int .i64 nd, .int .i64 bt, .int .i64 sr]).alloc (.cells #[.int .i64 0, .int .i64 0, .int .i64 0] 34)).below hb1 (by simp; omega)
      have hbb : Below w.heap.size w w1 := (((Below.refl _ w).alloc (Nat.le_refl _) _).alloc (by simp) _).trans (hb1.mono (by simp; omega))
      clear hs1 hb1
      have q0 := O2.cell 0
      have q1 := O2.cell 1
      have q2 := O2.cell 2
      have p0 := O5.cell 0
      have p1 := O5.cell 1
      have p2 := O5.cell 2
      have z0 := O5.free 0
      have z1 := O5.free 1
      have z2 := O5.free 2
      simp at q0 q1 q2 p0 p1 p2
      have hlt := O5.lt
      have hlt0 := O2.lt
      have hd : Below w.heap.size w ((((w1.setCell ⟨w.heap.size + 1, 0, none⟩ (.int .i64 0)).setCell ⟨w.heap.size + 1, 1, none⟩ (.int .i64 0)).setCell ⟨w.heap.size + 1, 2, none⟩ (.int .i64 0)).alloc (.cells #[.int .i64 nd, .int .i64 bt, .int .i64 0] 34)) := (((hbb.setCell (by simp) _).setCell (by simp) _).setCell (by simp) _).alloc (by simp; omega) _
      go_wp2
      refine bodyPost_ret (results_tcell_3 rfl _ (b := w.heap.size + 1) rfl ((((O5.put 0 _).put 1 _).put 2 _).alloc _) Tryd.underlying34 rfl alSize) rfl ?_
      exact NextPost.of Hr.out rfl (Nat.le_refl _) (by omega) Nums.nil hd

set_option maxHeartbeats 1000000 in
theorem refNext_yes (a : Int × Int × Int) (n : Int) (w : World) (h : Id.chk a n = 0) : Calls Tryd.prog 20 #[.agg (al a), .int .i64 n] w (NextPost (Id.next a n) w) := by
  have hk := Id.chk_ok h
  have Hr : Hid (Id.next a n = (Id.ids a.1 a.2.1 a.2.2 n.toNat, (a.1, a.2.1, a.2.2 + n), 0)) := hide (by unfold Id.next; rw [if_pos h])
  obtain ⟨nd, bt, sr⟩ := a
  have Hn := hide (Id.new_ok (Id.ogn_iff.2 hk.1))
  simp only at Hn
  simp only [al]
  obtain ⟨⟨⟨h1, h2⟩, h3, h4⟩, ⟨h5, h6⟩, ⟨h7, h8⟩, h9⟩ := hk
  clear h
  obtain ⟨N, rfl⟩ := Int.eq_ofNat_of_zero_le h7
  have h9' : sr + (N : Int) ≤ 1099511627775 := by have := h9; simp only at this; omega
  go_enter Tryd.func20, Tryd.ntmps20
  go_wp2_with fail
  refine (refNew_any _ _ _).mono ?_
  intro e w1 hp
  obtain ⟨rfl, hb1⟩ := hp.at_ Hn.out
  clear hp
  simp only [al]
  have hs1 : (w.alloc (.cells #[.int .i64 nd, .int .i64 bt, .int .i64 sr] 34)).heap.size = w.heap.size + 1 := by simp
  have O5 := (Obl.make (w.alloc (.cells #[.int .i64 nd, .int .i64 bt, .int .i64 sr] 34)) 34 #[.int .i64 0, .int .i64 0, .int .i64 0]).below hb1 (by simp)
  rw [hs1] at O5
  have O2 := ((Obl.make w 34 #[.int .i64 nd, .int .i64 bt, .int .i64 sr]).alloc (.cells #[.int .i64 0, .int .i64 0, .int .i64 0] 34)).below hb1 (by simp; omega)
  have hbb : Below w.heap.size w w1 := (((Below.refl _ w).alloc (Nat.le_refl _) _).alloc (by simp) _).trans (hb1.mono (by simp; omega))
  clear hs1 hb1
  have q2 := O2.cell 2
  simp at q2
  have hlt := O5.lt
  have hlt0 := O2.lt
  have O2i := O2.alloc (.cells #[.int .i64 nd, .int .i64 bt, .int .i64 0] 34)
  have O5i := O5.alloc (.cells #[.int .i64 nd, .int .i64 bt, .int .i64 0] 34)
  have hbi := hbb.alloc (by omega) (.cells #[.int .i64 nd, .int .i64 bt, .int .i64 0] 34)
  have hn1 := World.ownsRow_nil (w1.alloc (.cells #[.int .i64 nd, .int .i64 bt, .int .i64 0] 34)) w.heap.size 22 1
  have q0 := O2.cell 0
  have q1 := O2.cell 1
  simp at q0 q1
  go_wp2_with fail
  clear q0 q1 q2 hlt hlt0 O2 O5
  generalize w1.alloc (.cells #[.int .i64 nd, .int .i64 bt, .int .i64 0] 34) = w2 at *
  go_loopw [9, 10] (fun s9 s10 wr => ∃ (k c : Nat) (A : Option Addr), s9 = .slice A k c ∧ s10 = .int .i64 (k : Int) ∧ k ≤ N ∧ Obl wr w.heap.size 34 #[.int .i64 nd, .int .i64 bt, .int .i64 (sr + k)] ∧ Obl wr (w.heap.size + 1) 34 #[.int .i64 0, .int .i64 0, .int .i64 0] ∧ wr.ownsRow w.heap.size 22 1 (.slice A k c) k (nv .u64 (Id.ids nd bt sr k)) ∧ Below w.heap.size w wr) (fun _ s10 _ => N - (intOf s10).toNat)
  case atStart => exact ⟨0, 0, none, rfl, rfl, by omega, by simpa using O2i, O5i, hn1, hbi⟩
  case round =>
    clear O2i O5i hbi hn1
    obtain ⟨k, c, A, rfl, rfl, hk, O2, O5, hown, hb⟩ := hrel
    have hB : w.heap.size ≤ wr.heap.size := hb.size
    by_cases hlt : k < N
    · have ne2 : (Value.slice A k c).ownBlock ≠ some w.heap.size := by
        rw [ownBlock_slice]; exact fun e => Obl.apart O2 hown (by decide) e.symm
      have hmk := Id.mk_ok (n := nd) (b := bt) (s := sr + k + 1) (Id.ogn_iff.2 ⟨⟨h1, h2⟩, h3, h4⟩) (Id.okS_iff.2 ⟨by omega, by omega⟩)
      have Hids := hide (Id.ids_succ nd bt sr k)
      have q0 := O2.cell 0
      have q1 := O2.cell 1
      have q2 := O2.cell 2
      have z2 := O2.free 2
      simp at q0 q1 q2
      have O2' := O2.put 2 (.int .i64 (sr + k + 1))
      have hown' := own_put_other (i := 2) hown ne2 (.int .i64 (sr + k + 1))
      have O5' : Obl (wr.setCell ⟨w.heap.size, 2, none⟩ (.int .i64 (sr + k + 1))) (w.heap.size + 1) 34 #[.int .i64 0, .int .i64 0, .int .i64 0] := O5.put_other (by omega) _ _
      have hb' := hb.setCell (p := ⟨w.heap.size, 2, none⟩) (by simp) (.int .i64 (sr + k + 1))
      have hlt2 := O2.lt
      have Hmk := hide hmk
      clear hmk hown O5 hb
      go_wp2_with fail
      refine (refMake_any _ _ _ _).mono ?_
      intro e w3 hp
      obtain ⟨rfl, rfl⟩ := hp.at_ Hmk.out
      clear hp
      generalize wr.setCell ⟨w.heap.size, 2, none⟩ (.int .i64 (sr + k + 1)) = wm at *
      have hBm := hb'.size
      go_wp2_with (at_builtin; refine wpList_append_rd rfl (.tmp 66) (.tmp 68) _ rfl numTy rfl (hown'.alloc _) rfl (Row.new _ _ _) (by simp [Value.oneCell']) (by unfold maxLen; omega) (by omega) (by simp; omega) ?_; intro A3 c3 w3 hown3 hgrow3 hat3)
      have O2a := O2'.alloc (.cells #[.int .u64 (nd * 72057594037927936 + bt * 1099511627776 + (sr + k + 1))] 22)
      have O5a := O5'.alloc (.cells #[.int .u64 (nd * 72057594037927936 + bt * 1099511627776 + (sr + k + 1))] 22)
      have O23 := O2a.grown hgrow3 (O2a.apart (hown'.alloc _) (by decide))
      have O53 := O5a.grown hgrow3 (O5a.apart (hown'.alloc _) (by decide))
      have hb3 : Below w.heap.size w w3 := below_own (hb'.alloc hBm _) (hown'.alloc _) hgrow3 (by simp; omega)
      rw [nv_snoc] at hown3
      go_roundw
      case rel => exact ⟨k + 1, c3, A3, rfl, by go_num, by omega, by rw [show sr + ((k + 1 : Nat) : Int) = sr + k + 1 by omega]; exact O23, O53, by rw [Hids.out, show sr + 1 + (k : Int) = sr + k + 1 by omega]; exact hown3, hb3⟩
      case measure => simp [intOf]; omega
    · obtain rfl : k = N := by omega
      have q0 := O2.cell 0
      have q1 := O2.cell 1
      have q2 := O2.cell 2
      have p0 := O5.cell 0
      have p1 := O5.cell 1
      have p2 := O5.cell 2
      have z0 := O5.free 0
      have z1 := O5.free 1
      have z2 := O5.free 2
      simp at q0 q1 q2 p0 p1 p2
      go_wp2_with fail
      go_region
      go_wp2
      have hd : Below w.heap.size w (((wr.setCell ⟨w.heap.size + 1, 0, none⟩ (.int .i64 nd)).setCell ⟨w.heap.size + 1, 1, none⟩ (.int .i64 bt)).setCell ⟨w.heap.size + 1, 2, none⟩ (.int .i64 (sr + k))).drew := (((hb.setCell (by simp) _).setCell (by simp) _).setCell (by simp) _).drew
      refine bodyPost_ret (results_tcell_3 rfl _ (b := w.heap.size + 1) rfl (((O5.put 0 _).put 1 _).put 2 _).drew Tryd.underlying34 rfl alSize) rfl ?_
      have ne5 : (Value.slice A k c).ownBlock ≠ some (w.heap.size + 1) := by
        rw [ownBlock_slice]; exact fun e => Obl.apart O5 hown (by decide) e.symm
      have hown' := own_put_other (i := 2) (own_put_other (i := 1) (own_put_other (i := 0) hown ne5 (.int .i64 nd)) ne5 (.int .i64 bt)) ne5 (.int .i64 (sr + k))
      exact NextPost.of Hr.out rfl (own_cap hown) (own_cap63 hown) (Nums.of_own hown').drew hd
theorem refNext_any (a : Int × Int × Int) (n : Int) (w : World) : Calls Tryd.prog 20 #[.agg (al a), .int .i64 n] w (NextPost (Id.next a n) w) := by
  by_cases h : Id.chk a n = 0
  · exact refNext_yes a n w h
  · exact refNext_no a n w h

set_option maxHeartbeats 400000 in
theorem refSame3_any (A B : Option Addr) (n m c d : Nat) (l r : List Int) (w : World) (C : Nat) (ha : Nums .u64 w C A n l) (hb : Nums .u64 w C B m r) (hn : n ≤ 9223372036854775807) (hm : m ≤ 9223372036854775807) :
    Calls Tryd.prog 21 #[.slice A n c, .slice B m d] w fun e w' => e = .returned (.bool (decide (l = r))) ∧ Below w.heap.size w w' := by
  by_cases hnm : n = m
  · subst hnm
    have e1 : ((n : Int) != (n : Int)) = false := by simp
    go_enter Tryd.func21, Tryd.ntmps21
    go_wp2_with fail
    go_loopw [13] (fun s13 wr => ∃ k : Nat, s13 = .int .i64 (k : Int) ∧ k ≤ n ∧ Hid (l.take k = r.take k) ∧ ∃ q, wr = w.drewN q) (fun s13 _ => n - (intOf s13).toNat)
    case atStart => exact ⟨0, rfl, by omega, hide rfl, 0, rfl⟩
    case round =>
      obtain ⟨k, rfl, hk, Hk, q, rfl⟩ := hrel
      by_cases hlt : k < n
      · obtain ⟨ba, oa, hla, rfl, _, hca⟩ := ha.at_ hlt
        obtain ⟨bb, ob, hlb, rfl, _, hcb⟩ := hb.at_ hlt
        by_cases he : l[k] = r[k]
        · have hcmp : (l[k] == r[k]) = true := by simpa using he
          have hcmp' : (l[k] != r[k]) = false := by simpa using he
          have Hk2 : Hid (l.take (k + 1) = r.take (k + 1)) := hide (by
            rw [List.take_succ_eq_append_getElem hla, List.take_succ_eq_append_getElem hlb, Hk.out, he])
          clear he
          go_wp2_with fail
          go_quiet (fail)
          go_wp2
          go_roundw
          case rel => exact ⟨k + 1, by go_num, by omega, Hk2, _, rfl⟩
          case measure => simp [intOf]; omega
        · have hcmp : (l[k] == r[k]) = false := by simpa using he
          have hcmp' : (l[k] != r[k]) = true := by simpa using he
          have hne := hide (nums_ne hla hlb he)
          clear he
          go_wp2_with fail
          go_quiet (fail)
          go_wp2
          go_ret
          exact ⟨ret_bool (decide_eq_false hne.out).symm, ⟨rfl, rfl, rfl, Nat.le_refl _, fun _ _ => rfl⟩⟩
      · obtain rfl : k = n := by omega
        go_wp2
        go_ret
        have hlr : l = r := by
          have := Hk.out
          rwa [List.take_of_length_le (by rw [ha.len]; exact Nat.le_refl _), List.take_of_length_le (by rw [hb.len]; exact Nat.le_refl _)] at this
        exact ⟨ret_bool (decide_eq_true hlr).symm, ⟨rfl, rfl, rfl, Nat.le_refl _, fun _ _ => rfl⟩⟩
  · have e1 : ((n : Int) != (m : Int)) = true := by simp; omega
    have e2 : ((n : Int) == (m : Int)) = false := by simp; omega
    have hlr : ¬ l = r := fun e => hnm (by rw [← ha.len, ← hb.len, e])
    go_enter Tryd.func21, Tryd.ntmps21
    go_wp2
    go_ret
    exact ⟨ret_bool (decide_eq_false hlr).symm, Below.refl _ _⟩
end Go.Proofs.YtgdhlghklnlahaaDoor
