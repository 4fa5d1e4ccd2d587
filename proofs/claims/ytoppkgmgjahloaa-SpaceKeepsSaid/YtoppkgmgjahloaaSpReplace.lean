/- Layer 7: Replace, of package space and of the reference: contracts (written by tools/mkspace.py). -/
import Derived.Test.YtoppkgmgjahloaaSpAttach
namespace Go.Proofs.Ytoppkgmgjahloaa
open Go.RowKit

theorem Nums.tail {k : IntKind} {w : World} {B b o n : Nat} {l : List Int} (h : Nums k w B (some ⟨b, o, none⟩) (n + 1) l) : Nums k w B (some ⟨b, o + 1, none⟩) n (l.drop 1) := by
  have hl := h.1
  refine ⟨by rw [List.length_drop]; omega, ⟨by rw [nv_length, List.length_drop]; omega, by simp, ?_⟩⟩
  have := h.2.rd.drop_ 1
  simpa [nv] using this
theorem Nums.next {k : IntKind} {w : World} {B b o n c : Nat} {l : List Int} (h : Nums k w B (some ⟨b, o, none⟩) (n + 1) l) (hc : n + 1 ≤ c) : Nums k w B (if c = 1 then some ⟨b, o, none⟩ else some ⟨b, o + 1, none⟩) n (l.drop 1) := by
  by_cases h1 : c = 1
  · have h0 : n = 0 := by omega
    subst h0
    have : l.drop 1 = [] := List.eq_nil_of_length_eq_zero (by rw [List.length_drop]; have := h.1; omega)
    rw [this]
    exact Nums.nil
  · rw [if_neg h1]
    exact h.tail
/-- An address space of so many pages. -/
def SwapPost (n : Nat) (L : List Sp.Ref) (w : World) (e : Ending) (w' : World) : Prop := ∃ A c, e = .returned (.slice A n c) ∧ Refs w' w'.heap.size A n L ∧ (n ≤ c ∧ c ≤ 9223372036854775807) ∧ Below w.heap.size w w'
/-- An address space, an error. -/
def ReplacePost (r : List Sp.Ref × Int) (w : World) (e : Ending) (w' : World) : Prop := ∃ A c, e = .returned (.tuple #[.slice A r.1.length c, .int .i64 r.2]) ∧ Refs w' w'.heap.size A r.1.length r.1 ∧ (r.1.length ≤ c ∧ c ≤ 9223372036854775807) ∧ Below w.heap.size w w'
theorem ReplacePost.none {r : List Sp.Ref × Int} {w w' : World} {e : Ending} {x : Int} (hr : r = ([], x)) (he : e = .returned (.tuple #[.slice none 0 0, .int .i64 x])) (hb : Below w.heap.size w w') : ReplacePost r w e w' := by
  subst hr; exact ⟨_, _, he, Refs.nil, by simp, hb⟩
theorem ReplacePost.of {r : List Sp.Ref × Int} {L : List Sp.Ref} {w w' : World} {e : Ending} {x : Int} {A : Option Addr} {m c : Nat} (hr : r = (L, x)) (he : e = .returned (.tuple #[.slice A m c, .int .i64 x])) (hR : Refs w' w'.heap.size A m L) (hc : m ≤ c ∧ c ≤ 9223372036854775807) (hb : Below w.heap.size w w') : ReplacePost r w e w' := by
  have hm := hR.len
  subst hr hm
  exact ⟨_, _, he, hR, hc, hb⟩
theorem Sp.replace_bad {l : List Sp.Ref} (h : ¬ Sp.Ok l) (ids : List Int) : Sp.replace l ids = ([], 1) := by unfold Sp.replace; rw [if_neg h]
theorem Sp.replace_ne {l : List Sp.Ref} (h : Sp.Ok l) {ids : List Int} (h0 : ids.length ≠ (Sp.priv l).length) : Sp.replace l ids = ([], 2) := by unfold Sp.replace; rw [if_pos h, if_neg h0]
theorem Sp.replace_not {l : List Sp.Ref} (h : Sp.Ok l) {ids : List Int} (h0 : ids.length = (Sp.priv l).length) (h2 : ¬ Sp.Ok (Sp.swap l ids)) : Sp.replace l ids = ([], 1) := by unfold Sp.replace; rw [if_pos h, if_pos h0, if_neg h2]
theorem Sp.replace_ok {l : List Sp.Ref} (h : Sp.Ok l) {ids : List Int} (h0 : ids.length = (Sp.priv l).length) (h2 : Sp.Ok (Sp.swap l ids)) : Sp.replace l ids = (Sp.swap l ids, 0) := by unfold Sp.replace; rw [if_pos h, if_pos h0, if_pos h2]
theorem start_slot2 (w : World) (i : Int) (s : Bool) : ∃ w1, w.alloc (.cells #[.int .u64 0, .bool false] 44) = w1 ∧ ∃ g, w.heap.size = g ∧ ∃ w2, w1.setRow g #[.int .u64 i, .bool s] = w2 ∧
    Obl w1 g 44 #[.int .u64 0, .bool false] ∧ Obl w2 g 44 #[.int .u64 i, .bool s] ∧ Below g w w2 ∧ w2.heap.size = g + 1 := start_slot w ⟨i, s⟩
theorem headD_get {L : List Int} (h : 0 < L.length) : L.headD 0 = L[0] := by
  cases L with
  | nil => simp at h
  | cons a r => rfl
theorem own_put_other2 {w : World} {base n c b size : Nat} {A : Option Addr} {e : TypeId} {xs : List Value} (h : w.ownsRow base e size (.slice A n c) n xs) (hne : (Value.slice A n c).ownBlock = some b → False) (i : Nat) (u : Value) : (w.setCell ⟨b, i, none⟩ u).ownsRow base e size (.slice A n c) n xs := ownsRow_setCell_other h (fun e => hne e) u
set_option maxRecDepth 100000 in
set_option maxHeartbeats 8000000 in
theorem swap_any (l : List Sp.Ref) (ids : List Int) (A I : Option Addr) (n cap q cq : Nat) (W : World) (h : Refs W W.heap.size A n l) (hn : n ≤ 100) (hI : Nums .u64 W W.heap.size I q ids) (hcq : q ≤ cq ∧ cq ≤ 9223372036854775807) (hq : q = (Sp.priv l).length) :
    Calls Try.prog 27 #[.slice A n cap, .slice I q cq] W (SwapPost n (Sp.swap l ids) W) := by
  have hl := h.len
  have hli := hI.len
  have HR := hide h
  have HI := hide hI
  have HQ := hide (show ids.length = (Sp.priv l).length by omega)
  have HCQ := hide hcq
  have hn' : (n : Int) ≤ 100 := by omega
  clear h hI hq
  go_enter Try.func27, Try.ntmps27
  go_wp2_with fail
  go_loopw [1, 5, 10] (fun s1 s5 s10 wr => ∃ (k c q' c' : Nat) (O I' : Option Addr), s10 = .int .i64 (k : Int) ∧ s5 = .slice O k c ∧ s1 = .slice I' q' c' ∧ k ≤ n ∧ Hid (q' ≤ c' ∧ c' ≤ 9223372036854775807) ∧ Hid (Nums .u64 wr W.heap.size I' q' (ids.drop (Sp.priv (l.take k)).length)) ∧ Hid (wr.ownsRow W.heap.size 44 2 (.slice O k c) k (rv (Sp.swap (l.take k) ids))) ∧ Hid (Below W.heap.size W wr)) (fun _ _ s10 _ => n - (intOf s10).toNat)
  case atStart => exact ⟨0, 0, q, cq, none, I, rfl, rfl, rfl, by omega, HCQ, hide (by rw [List.take_zero]; exact HI.out), hide (by rw [List.take_zero]; exact own_none), hide (Below.refl _ _)⟩
  case round =>
    obtain ⟨k, c, q', c', O, I', rfl, rfl, rfl, hk, HC, HJ, HO, HB⟩ := hrel
    by_cases hlt : k < n
    · have hlt' : (k : Int) < (n : Int) := by omega
      obtain ⟨b, o, hkl, rfl, hb, c0, c1⟩ := (HR.out.below HB.out).at_ hlt
      have HS := hide (Sp.swap_take hkl ids)
      have HP := hide (Sp.priv_take hkl)
      have HLt := hide (fun h => Sp.priv_take_lt (l := l) (k := k) hkl h)
      obtain ⟨LS, hLS⟩ : ∃ LS, Sp.swap (l.take k) ids = LS := ⟨_, rfl⟩
      rw [hLS] at HO HS
      obtain ⟨x, hx⟩ : ∃ x, l[k] = x := ⟨_, rfl⟩
      rw [hx] at c0 c1 HS HP HLt
      obtain ⟨xi, xs⟩ := x
      simp only at c0 c1 HS HP HLt
      obtain ⟨w3, hw3, g, hg, w4, hw4, OZ, ON, hb4, hs4⟩ := start_slot2 wr xi xs
      have hWg : W.heap.size ≤ g := by have := HB.out.size; omega
      have hk1000 : k + 1 ≤ 1000 := by omega
      have HB4 := hide (HB.out.trans (hb4.mono hWg))
      have HO4 := hide (own_below HO.out (by rw [hg]; exact hb4))
      have hne : (Value.slice O k c).ownBlock = some g → False := fun e => by have := (HO.out.lt g e).2; omega
      have HJ4 := hide (HJ.out.below (hb4.mono hWg))
      clear hx hLS hb4 HO HB HJ
      cases xs with
      | true =>
        simp only [if_true] at HS HP
        have HJ5 := hide (show Nums .u64 w4 W.heap.size I' q' (ids.drop (Sp.priv (l.take (k + 1))).length) by rw [HP.out]; exact HJ4.out)
        obtain ⟨w5, hw5⟩ : ∃ w5, w5 = w4 := ⟨_, rfl⟩
        rw [← hw5] at hw4 ON HB4 HO4 HJ5 hs4
        have HO5 := hide HO4.out
        have hW5 := HB4.out.size
        have n1 := ON.cell 1
        simp at n1
        clear HO4 HJ4 hw5 hs4 hne
        go_wp2_with (first | (refine wpList_val (by rfl) (exec_load_ref (y := ⟨xi, true⟩) rfl rfl c0 c1) ?_) | (refine store_ref rfl _ _ rfl rfl (c := ⟨xi, true⟩) rfl OZ rfl ?_; rw [hw4]) | (refine load_ref rfl _ rfl rfl (y := ⟨xi, true⟩) ON ?_) | (at_builtin; refine wpList_append_rd rfl _ _ _ rfl refTy (base := W.heap.size) rfl (HO5.out.alloc (.cells #[.int .u64 xi, .bool true] 44)) rfl (Row.two w5 ⟨xi, true⟩ 44) (by simp [Value.oneCell']) (by unfold maxLen; omega) (by omega) (by simp; omega) ?_; intro A6 c6 w6 hown6 hg6 _; have HX6 := hide (below_own ((Below.refl W.heap.size w5).alloc hW5 (.cells #[.int .u64 xi, .bool true] 44)) (HO5.out.alloc _) hg6 (by simp; omega)); rw [show rv LS ++ [.int .u64 xi, .bool true] = rv (LS ++ [⟨xi, true⟩]) from rv_snoc LS ⟨_, _⟩, ← HS.out] at hown6; have HO6 := hide hown6; clear hown6 hg6 HO5) | fail)
        have HB6 := hide (HB4.out.trans HX6.out)
        have HJ6 := hide (HJ5.out.below HX6.out)
        go_roundw
        case rel => exact ⟨k + 1, c6, q', c', A6, I', by go_num, rfl, rfl, by omega, HC, HJ6, HO6, HB6⟩
        case measure => simp [intOf]; omega
      | false =>
        simp only [Bool.false_eq_true, if_false] at HS HP
        have hj := HLt.out rfl
        have hjq := HJ4.out.len
        rw [List.length_drop] at hjq
        have hq0 := HQ.out
        obtain ⟨p, rfl⟩ : ∃ p, q' = p + 1 := ⟨q' - 1, by omega⟩
        have HJ5 := HJ4
        obtain ⟨bi, oi, hjl, rfl, hbi, ci⟩ := HJ4.out.at_ (i := 0) (by omega)
        rw [Nat.add_zero] at ci
        have HT := hide (HJ5.out.next HC.out.1)
        obtain ⟨y, hy⟩ : ∃ y, (ids.drop (Sp.priv (l.take k)).length)[0] = y := ⟨_, rfl⟩
        rw [hy] at ci
        have hhead : (ids.drop (Sp.priv (l.take k)).length).headD 0 = y := by
          rw [← hy]
          exact headD_get hjl
        rw [hhead] at HS
        have HP2 : Hid (ids.drop (Sp.priv (l.take (k + 1))).length = (ids.drop (Sp.priv (l.take k)).length).drop 1) := hide (by rw [HP.out, List.length_append, List.drop_drop]; rfl)
        obtain ⟨AR, hAR⟩ : ∃ AR : Option Addr, (if c' = 1 then some (⟨bi, oi, none⟩ : Addr) else some (⟨bi, oi + 1, none⟩ : Addr)) = AR := ⟨_, rfl⟩
        rw [hAR] at HT
        have hc0 := HC.out
        have h1p : (1 : Int) ≤ (p : Int) + 1 := by omega
        have n1 := ON.cell 1
        simp at n1
        have hbg : bi < g := by omega
        clear hhead hy hj hjq hq0 HJ4 HJ5 hjl
        go_wp2_with (first | (refine wpList_val (by rfl) (exec_load_ref (y := ⟨xi, false⟩) rfl rfl c0 c1) ?_) | (refine store_ref rfl _ _ rfl rfl (c := ⟨xi, false⟩) rfl OZ rfl ?_; rw [hw4]) | fail)
        refine region_B (by kernel_rfl) g ?_
        have ON' : Obl w4.drew g 44 #[.int .u64 xi, .bool false] := ON
        have ci' : w4.drew.cell? ⟨bi, oi, none⟩ = some (.int .u64 y) := ci
        have HB4' : Hid (Below W.heap.size W w4.drew) := hide HB4.out.drew
        have HO4' : Hid (w4.drew.ownsRow W.heap.size 44 2 (.slice O k c) k (rv LS)) := HO4
        have HT' : Hid (Nums .u64 w4.drew W.heap.size AR p (List.drop 1 (ids.drop (Sp.priv (l.take k)).length))) := HT
        have hs4' : w4.drew.heap.size = g + 1 := hs4
        clear ON ci HB4 HO4 HT n1 hs4 OZ hw3 hw4
        generalize w4.drew = u at *
        refine takeB 0 rfl (by kernel_rfl) (fun _ _ _ h => h) (by rfl) (by intro w' hg; go_simp; try with_reducible rfl) ?_
        refine takeB 1 rfl (by kernel_rfl) (fun _ _ _ h => h) (by rfl) (by intro w' hg; go_simp; try with_reducible rfl) ?_
        refine takeB 2 rfl (by kernel_rfl) (fun _ _ _ h => h) (by rfl) (by intro w' hg; have g0 := (hg.cell (p := ⟨bi, oi, none⟩) hbg).trans ci'; go_simp; try with_reducible rfl) ?_
        refine takeB 3 rfl (by kernel_rfl) (fun _ _ _ h => h) (by rfl) (by intro w' hg; go_simp; try with_reducible rfl) ?_
        refine takeB 4 rfl (by kernel_rfl) (fun _ _ _ h => h) (by rfl) (by intro w' hg; go_simp; try with_reducible rfl) ?_
        refine takeB 5 rfl (by kernel_rfl) (fun _ _ _ h => h) (by rfl) (by intro w' hg; go_simp; try with_reducible rfl) ?_
        refine onlyB 6 rfl (by kernel_rfl) (by rfl) ?_
        intro K hK
        have m0 := ON'.cell 0
        simp at m0
        have z0 := ON'.free 0
        go_simp
        refine hK _ _ ((Below.refl _ _).setCell (p := ⟨g, 0, none⟩) (Nat.le_refl _) _) ?_
        clear hK K m0 z0
        have ON5 := ON'.put 0 (.int .u64 y)
        have HB5 := hide (HB4'.out.setCell (p := ⟨g, 0, none⟩) hWg (.int .u64 y))
        have HT5 := hide (HT'.out.below (((Below.refl _ u).setCell (p := ⟨g, 0, none⟩) hWg (.int .u64 y))))
        have HO5 := hide (own_put_other2 HO4'.out (b := g) hne 0 (.int .u64 y))
        have hW5 := HB5.out.size
        obtain ⟨w5, hw5⟩ : ∃ w5, u.setCell ⟨g, 0, none⟩ (.int .u64 y) = w5 := ⟨_, rfl⟩
        rw [hw5] at ON5 HB5 HT5 HO5 hW5
        refine takeB 7 rfl (by kernel_rfl) (fun _ _ _ h => h) (by rfl) (by intro w' hg; go_simp; try with_reducible rfl) ?_
        refine doneB (by kernel_rfl) ?_
        clear ON' HB4' HO4' HT' ci' hs4' hne
        go_simp
        try rw [hw5]
        clear hw5
        go_wp2_with (first | (refine load_ref rfl _ rfl rfl (y := ⟨y, false⟩) ON5 ?_) | (at_builtin; refine wpList_append_rd rfl _ _ _ rfl refTy (base := W.heap.size) rfl (HO5.out.alloc (.cells #[.int .u64 y, .bool false] 44)) rfl (Row.two w5 ⟨y, false⟩ 44) (by simp [Value.oneCell']) (by unfold maxLen; omega) (by omega) (by simp; omega) ?_; intro A6 c6 w6 hown6 hg6 _; have HX6 := hide (below_own ((Below.refl W.heap.size w5).alloc hW5 (.cells #[.int .u64 y, .bool false] 44)) (HO5.out.alloc _) hg6 (by simp; omega)); rw [show rv LS ++ [.int .u64 y, .bool false] = rv (LS ++ [⟨y, false⟩]) from rv_snoc LS ⟨_, _⟩, ← HS.out] at hown6; have HO6 := hide hown6; clear hown6 hg6 HO5) | fail)
        have HB6 := hide (HB5.out.trans HX6.out)
        have HJ6 := hide (HT5.out.below HX6.out)
        rw [← HP2.out] at HJ6
        have HC6 := hide (show p ≤ c' - 1 ∧ c' - 1 ≤ 9223372036854775807 by omega)
        go_roundw
        case rel => exact ⟨k + 1, c6, p, c' - 1, A6, AR, by go_num, rfl, rfl, by omega, HC6, HJ6, HO6, HB6⟩
        case measure => simp [intOf]; omega
    · obtain rfl : k = n := by omega
      have HT := hide (show l.take k = l from List.take_of_length_le (by omega))
      have HO6 := hide (show wr.ownsRow W.heap.size 44 2 (.slice O k c) k (rv (Sp.swap l ids)) by have := HO.out; rwa [HT.out] at this)
      clear HO HJ
      go_wp2_with fail
      go_ret
      exact ⟨O, c, rfl, Refs.of_own HO6.out, ⟨own_cap HO6.out, own_cap63 HO6.out⟩, HB.out⟩
theorem IdsPost.got {L M : List Int} {m : Nat} {w w' : World} {e : Ending} (h : IdsPost L w e w') (hL : L = M) (hm : M.length = m) : ∃ A c, e = .returned (.slice A m c) ∧ Below w.heap.size w w' := by
  subst hL hm
  obtain ⟨A, c, he, _, _, hb⟩ := h
  exact ⟨A, c, he, hb⟩
set_option maxRecDepth 100000 in
set_option maxHeartbeats 8000000 in
theorem replace_any (l : List Sp.Ref) (ids : List Int) (A I : Option Addr) (n cap q cq : Nat) (W : World) (h : Refs W W.heap.size A n l) (hn : n ≤ cap ∧ cap ≤ 9223372036854775807) (hI : Nums .u64 W W.heap.size I q ids) (hcq : q ≤ cq ∧ cq ≤ 9223372036854775807) :
    Calls Try.prog 18 #[.slice A n cap, .slice I q cq] W (ReplacePost (Sp.replace l ids) W) := by
  have hl := h.len
  have hli := hI.len
  have HR := hide h
  have HI := hide hI
  have HCQ := hide hcq
  clear h hI
  go_enter Try.func18, Try.ntmps18
  go_wp2_with fail
  refine (valid_any l A n cap _ HR.out hn).mono ?_
  rintro e w1 ⟨rfl, hb1⟩
  have HB1 := hide hb1
  clear hb1
  by_cases hok : Sp.Ok l
  · have h16 : n ≤ 16 := by have := hok.1; omega
    have h16' : (n : Int) ≤ 16 := by omega
    have HF := hide (Sp.private_ok hok)
    have HK := hide hok
    rw [decide_eq_true hok]
    clear hok
    obtain ⟨m, hm⟩ : ∃ m, (Sp.priv l).length = m := ⟨_, rfl⟩
    have HM := hide hm
    have hm16 : m ≤ 16 := by have := Sp.priv_length_le l; omega
    clear hm
    have hq63 : (q : Int) ≤ 9223372036854775807 := by omega
    go_wp2_with fail
    refine (private_any l A n cap _ (HR.out.later HB1.out) hn).mono ?_
    intro e w2 hp
    obtain ⟨A2, c2, rfl, hb2⟩ := hp.got HF.out HM.out
    have HB2 := hide (HB1.out.trans (hb2.mono HB1.out.size))
    clear hp hb2
    by_cases hqm : q = m
    · have HQ := hide (show ids.length = (Sp.priv l).length by have := HM.out; omega)
      have e0 : ((q : Int) == (m : Int)) = true := by simp; omega
      have e1 : ((q : Int) != (m : Int)) = false := by simp; omega
      clear hqm
      go_wp2_with fail
      refine (swap_any l ids A I n cap q cq _ (HR.out.later HB2.out) (by omega) ((HI.out.below HB2.out).mono HB2.out.size) HCQ.out (by have := HQ.out; omega)).mono ?_
      rintro e w4 ⟨A4, c4, rfl, hR4, hc4, hb4⟩
      have HR4 := hide hR4
      have HC4 := hide hc4
      have HB4 := hide (HB2.out.trans (hb4.mono HB2.out.size))
      clear hR4 hc4 hb4
      go_wp2_with fail
      refine (valid_any (Sp.swap l ids) A4 n c4 _ HR4.out HC4.out).mono ?_
      rintro e w5 ⟨rfl, hb5⟩
      have HB5 := hide (HB4.out.trans (hb5.mono HB4.out.size))
      have HR5 := hide (HR4.out.later hb5)
      clear hb5
      by_cases hok2 : Sp.Ok (Sp.swap l ids)
      · have HF := hide (Sp.replace_ok HK.out HQ.out hok2)
        rw [decide_eq_true hok2]
        clear hok2
        go_wp2_with fail
        go_ret2
        exact ReplacePost.of HF.out rfl HR5.out HC4.out HB5.out
      · have HF := hide (Sp.replace_not HK.out HQ.out hok2)
        rw [decide_eq_false hok2]
        clear hok2
        go_wp2_with fail
        go_ret2
        exact ReplacePost.none HF.out rfl HB5.out
    · have e0 : ((q : Int) == (m : Int)) = false := by simp; omega
      have e1 : ((q : Int) != (m : Int)) = true := by simp; omega
      have HF := hide (Sp.replace_ne HK.out (ids := ids) (by have := HM.out; omega))
      clear hqm
      go_wp2_with fail
      go_ret2
      exact ReplacePost.none HF.out rfl HB2.out
  · have HF := hide (Sp.replace_bad hok ids)
    rw [decide_eq_false hok]
    clear hok
    go_wp2_with fail
    go_ret2
    exact ReplacePost.none HF.out rfl HB1.out
set_option maxRecDepth 100000 in
set_option maxHeartbeats 8000000 in
theorem refReplace_any (l : List Sp.Ref) (ids : List Int) (A I : Option Addr) (n cap q cq : Nat) (W : World) (h : Refs W W.heap.size A n l) (hn : n ≤ cap ∧ cap ≤ 9223372036854775807) (hI : Nums .u64 W W.heap.size I q ids) (hcq : q ≤ cq ∧ cq ≤ 9223372036854775807) :
    Calls Try.prog 19 #[.slice A n cap, .slice I q cq] W (ReplacePost (Sp.replace l ids) W) := by
  have hl := h.len
  have hli := hI.len
  have HR := hide h
  have HI := hide hI
  have HCQ := hide hcq
  clear h hI
  go_enter Try.func19, Try.ntmps19
  go_wp2_with fail
  refine (refValid_any l A n cap _ HR.out hn).mono ?_
  rintro e w1 ⟨rfl, hb1⟩
  have HB1 := hide hb1
  clear hb1
  by_cases hok : Sp.Ok l
  · have h16 : n ≤ 16 := by have := hok.1; omega
    have h16' : (n : Int) ≤ 16 := by omega
    have HF := hide (Sp.private_ok hok)
    have HK := hide hok
    rw [decide_eq_true hok]
    clear hok
    obtain ⟨m, hm⟩ : ∃ m, (Sp.priv l).length = m := ⟨_, rfl⟩
    have HM := hide hm
    have hm16 : m ≤ 16 := by have := Sp.priv_length_le l; omega
    clear hm
    have hq63 : (q : Int) ≤ 9223372036854775807 := by omega
    go_wp2_with fail
    refine (refPrivate_any l A n cap _ (HR.out.later HB1.out) hn).mono ?_
    intro e w2 hp
    obtain ⟨A2, c2, rfl, hb2⟩ := hp.got HF.out HM.out
    have HB2 := hide (HB1.out.trans (hb2.mono HB1.out.size))
    clear hp hb2
    by_cases hqm : q = m
    · have HQ := hide (show ids.length = (Sp.priv l).length by have := HM.out; omega)
      have e0 : ((q : Int) == (m : Int)) = true := by simp; omega
      have e1 : ((q : Int) != (m : Int)) = false := by simp; omega
      clear hqm
      go_wp2_with fail
      go_loopw [1, 6, 20] (fun s1 s6 s20 wr => ∃ (k c q' c' : Nat) (O I' : Option Addr), s20 = .int .i64 (k : Int) ∧ s6 = .slice O k c ∧ s1 = .slice I' q' c' ∧ k ≤ n ∧ Hid (q' ≤ c' ∧ c' ≤ 9223372036854775807) ∧ Hid (Nums .u64 wr W.heap.size I' q' (ids.drop (Sp.priv (l.take k)).length)) ∧ Hid (wr.ownsRow W.heap.size 44 2 (.slice O k c) k (rv (Sp.swap (l.take k) ids))) ∧ Hid (Below W.heap.size W wr)) (fun _ _ s20 _ => n - (intOf s20).toNat)
      case atStart => exact ⟨0, 0, q, cq, none, I, rfl, rfl, rfl, by omega, HCQ, hide (by rw [List.take_zero]; exact HI.out.below HB2.out), hide (by rw [List.take_zero]; exact own_none), HB2⟩
      case round =>
        obtain ⟨k, c, q', c', O, I', rfl, rfl, rfl, hk, HC, HJ, HO, HB⟩ := hrel
        by_cases hlt : k < n
        · have hlt' : (k : Int) < (n : Int) := by omega
          obtain ⟨b, o, hkl, rfl, hb, c0, c1⟩ := (HR.out.below HB.out).at_ hlt
          have HS := hide (Sp.swap_take hkl ids)
          have HP := hide (Sp.priv_take hkl)
          have HLt := hide (fun h => Sp.priv_take_lt (l := l) (k := k) hkl h)
          obtain ⟨LS, hLS⟩ : ∃ LS, Sp.swap (l.take k) ids = LS := ⟨_, rfl⟩
          rw [hLS] at HO HS
          obtain ⟨x, hx⟩ : ∃ x, l[k] = x := ⟨_, rfl⟩
          rw [hx] at c0 c1 HS HP HLt
          obtain ⟨xi, xs⟩ := x
          simp only at c0 c1 HS HP HLt
          obtain ⟨w3, hw3, g, hg, w4, hw4, OZ, ON, hb4, hs4⟩ := start_slot2 wr xi xs
          have hWg : W.heap.size ≤ g := by have := HB.out.size; omega
          have hk1000 : k + 1 ≤ 1000 := by omega
          have HB4 := hide (HB.out.trans (hb4.mono hWg))
          have HO4 := hide (own_below HO.out (by rw [hg]; exact hb4))
          have hne : (Value.slice O k c).ownBlock = some g → False := fun e => by have := (HO.out.lt g e).2; omega
          have HJ4 := hide (HJ.out.below (hb4.mono hWg))
          clear hx hLS hb4 HO HB HJ
          cases xs with
          | true =>
            simp only [if_true] at HS HP
            have HJ5 := hide (show Nums .u64 w4 W.heap.size I' q' (ids.drop (Sp.priv (l.take (k + 1))).length) by rw [HP.out]; exact HJ4.out)
            obtain ⟨w5, hw5⟩ : ∃ w5, w5 = w4 := ⟨_, rfl⟩
            rw [← hw5] at hw4 ON HB4 HO4 HJ5 hs4
            have HO5 := hide HO4.out
            have hW5 := HB4.out.size
            have n1 := ON.cell 1
            simp at n1
            clear HO4 HJ4 hw5 hs4 hne
            go_wp2_with (first | (refine wpList_val (by rfl) (exec_load_ref (y := ⟨xi, true⟩) rfl rfl c0 c1) ?_) | (refine store_ref rfl _ _ rfl rfl (c := ⟨xi, true⟩) rfl OZ rfl ?_; rw [hw4]) | (refine load_ref rfl _ rfl rfl (y := ⟨xi, true⟩) ON ?_) | (at_builtin; refine wpList_append_rd rfl _ _ _ rfl refTy (base := W.heap.size) rfl (HO5.out.alloc (.cells #[.int .u64 xi, .bool true] 44)) rfl (Row.two w5 ⟨xi, true⟩ 44) (by simp [Value.oneCell']) (by unfold maxLen; omega) (by omega) (by simp; omega) ?_; intro A6 c6 w6 hown6 hg6 _; have HX6 := hide (below_own ((Below.refl W.heap.size w5).alloc hW5 (.cells #[.int .u64 xi, .bool true] 44)) (HO5.out.alloc _) hg6 (by simp; omega)); rw [show rv LS ++ [.int .u64 xi, .bool true] = rv (LS ++ [⟨xi, true⟩]) from rv_snoc LS ⟨_, _⟩, ← HS.out] at hown6; have HO6 := hide hown6; clear hown6 hg6 HO5) | fail)
            have HB6 := hide (HB4.out.trans HX6.out)
            have HJ6 := hide (HJ5.out.below HX6.out)
            go_roundw
            case rel => exact ⟨k + 1, c6, q', c', A6, I', by go_num, rfl, rfl, by omega, HC, HJ6, HO6, HB6⟩
            case measure => simp [intOf]; omega
          | false =>
            simp only [Bool.false_eq_true, if_false] at HS HP
            have hj := HLt.out rfl
            have hjq := HJ4.out.len
            rw [List.length_drop] at hjq
            have hq0 := HQ.out
            obtain ⟨p, rfl⟩ : ∃ p, q' = p + 1 := ⟨q' - 1, by omega⟩
            have HJ5 := HJ4
            obtain ⟨bi, oi, hjl, rfl, hbi, ci⟩ := HJ4.out.at_ (i := 0) (by omega)
            rw [Nat.add_zero] at ci
            have HT := hide (HJ5.out.next HC.out.1)
            obtain ⟨y, hy⟩ : ∃ y, (ids.drop (Sp.priv (l.take k)).length)[0] = y := ⟨_, rfl⟩
            rw [hy] at ci
            have hhead : (ids.drop (Sp.priv (l.take k)).length).headD 0 = y := by
              rw [← hy]
              exact headD_get hjl
            rw [hhead] at HS
            have HP2 : Hid (ids.drop (Sp.priv (l.take (k + 1))).length = (ids.drop (Sp.priv (l.take k)).length).drop 1) := hide (by rw [HP.out, List.length_append, List.drop_drop]; rfl)
            obtain ⟨AR, hAR⟩ : ∃ AR : Option Addr, (if c' = 1 then some (⟨bi, oi, none⟩ : Addr) else some (⟨bi, oi + 1, none⟩ : Addr)) = AR := ⟨_, rfl⟩
            rw [hAR] at HT
            have hc0 := HC.out
            have h1p : (1 : Int) ≤ (p : Int) + 1 := by omega
            have n1 := ON.cell 1
            simp at n1
            have hbg : bi < g := by omega
            clear hhead hy hj hjq hq0 HJ4 HJ5 hjl
            go_wp2_with (first | (refine wpList_val (by rfl) (exec_load_ref (y := ⟨xi, false⟩) rfl rfl c0 c1) ?_) | (refine store_ref rfl _ _ rfl rfl (c := ⟨xi, false⟩) rfl OZ rfl ?_; rw [hw4]) | fail)
            refine region_B (by kernel_rfl) g ?_
            have ON' : Obl w4.drew g 44 #[.int .u64 xi, .bool false] := ON
            have ci' : w4.drew.cell? ⟨bi, oi, none⟩ = some (.int .u64 y) := ci
            have HB4' : Hid (Below W.heap.size W w4.drew) := hide HB4.out.drew
            have HO4' : Hid (w4.drew.ownsRow W.heap.size 44 2 (.slice O k c) k (rv LS)) := HO4
            have HT' : Hid (Nums .u64 w4.drew W.heap.size AR p (List.drop 1 (ids.drop (Sp.priv (l.take k)).length))) := HT
            have hs4' : w4.drew.heap.size = g + 1 := hs4
            clear ON ci HB4 HO4 HT n1 hs4 OZ hw3 hw4
            generalize w4.drew = u at *
            refine takeB 0 rfl (by kernel_rfl) (fun _ _ _ h => h) (by rfl) (by intro w' hg; go_simp; try with_reducible rfl) ?_
            refine takeB 1 rfl (by kernel_rfl) (fun _ _ _ h => h) (by rfl) (by intro w' hg; go_simp; try with_reducible rfl) ?_
            refine takeB 2 rfl (by kernel_rfl) (fun _ _ _ h => h) (by rfl) (by intro w' hg; have g0 := (hg.cell (p := ⟨bi, oi, none⟩) hbg).trans ci'; go_simp; try with_reducible rfl) ?_
            refine takeB 3 rfl (by kernel_rfl) (fun _ _ _ h => h) (by rfl) (by intro w' hg; go_simp; try with_reducible rfl) ?_
            refine takeB 4 rfl (by kernel_rfl) (fun _ _ _ h => h) (by rfl) (by intro w' hg; go_simp; try with_reducible rfl) ?_
            refine takeB 5 rfl (by kernel_rfl) (fun _ _ _ h => h) (by rfl) (by intro w' hg; go_simp; try with_reducible rfl) ?_
            refine onlyB 6 rfl (by kernel_rfl) (by rfl) ?_
            intro K hK
            have m0 := ON'.cell 0
            simp at m0
            have z0 := ON'.free 0
            go_simp
            refine hK _ _ ((Below.refl _ _).setCell (p := ⟨g, 0, none⟩) (Nat.le_refl _) _) ?_
            clear hK K m0 z0
            have ON5 := ON'.put 0 (.int .u64 y)
            have HB5 := hide (HB4'.out.setCell (p := ⟨g, 0, none⟩) hWg (.int .u64 y))
            have HT5 := hide (HT'.out.below (((Below.refl _ u).setCell (p := ⟨g, 0, none⟩) hWg (.int .u64 y))))
            have HO5 := hide (own_put_other2 HO4'.out (b := g) hne 0 (.int .u64 y))
            have hW5 := HB5.out.size
            obtain ⟨w5, hw5⟩ : ∃ w5, u.setCell ⟨g, 0, none⟩ (.int .u64 y) = w5 := ⟨_, rfl⟩
            rw [hw5] at ON5 HB5 HT5 HO5 hW5
            refine takeB 7 rfl (by kernel_rfl) (fun _ _ _ h => h) (by rfl) (by intro w' hg; go_simp; try with_reducible rfl) ?_
            refine doneB (by kernel_rfl) ?_
            clear ON' HB4' HO4' HT' ci' hs4' hne
            go_simp
            try rw [hw5]
            clear hw5
            go_wp2_with (first | (refine load_ref rfl _ rfl rfl (y := ⟨y, false⟩) ON5 ?_) | (at_builtin; refine wpList_append_rd rfl _ _ _ rfl refTy (base := W.heap.size) rfl (HO5.out.alloc (.cells #[.int .u64 y, .bool false] 44)) rfl (Row.two w5 ⟨y, false⟩ 44) (by simp [Value.oneCell']) (by unfold maxLen; omega) (by omega) (by simp; omega) ?_; intro A6 c6 w6 hown6 hg6 _; have HX6 := hide (below_own ((Below.refl W.heap.size w5).alloc hW5 (.cells #[.int .u64 y, .bool false] 44)) (HO5.out.alloc _) hg6 (by simp; omega)); rw [show rv LS ++ [.int .u64 y, .bool false] = rv (LS ++ [⟨y, false⟩]) from rv_snoc LS ⟨_, _⟩, ← HS.out] at hown6; have HO6 := hide hown6; clear hown6 hg6 HO5) | fail)
            have HB6 := hide (HB5.out.trans HX6.out)
            have HJ6 := hide (HT5.out.below HX6.out)
            rw [← HP2.out] at HJ6
            have HC6 := hide (show p ≤ c' - 1 ∧ c' - 1 ≤ 9223372036854775807 by omega)
            go_roundw
            case rel => exact ⟨k + 1, c6, p, c' - 1, A6, AR, by go_num, rfl, rfl, by omega, HC6, HJ6, HO6, HB6⟩
            case measure => simp [intOf]; omega
        · obtain rfl : k = n := by omega
          have HT := hide (show l.take k = l from List.take_of_length_le (by omega))
          have HO6 := hide (show wr.ownsRow W.heap.size 44 2 (.slice O k c) k (rv (Sp.swap l ids)) by have := HO.out; rwa [HT.out] at this)
          clear HO HJ
          have HR4 := hide (Refs.of_own HO6.out)
          have HC4 := hide (show k ≤ c ∧ c ≤ 9223372036854775807 from ⟨own_cap HO6.out, own_cap63 HO6.out⟩)
          have HB4 := HB
          go_wp2_with fail
          refine (refValid_any (Sp.swap l ids) O k c _ HR4.out HC4.out).mono ?_
          rintro e w5 ⟨rfl, hb5⟩
          have HB5 := hide (HB4.out.trans (hb5.mono HB4.out.size))
          have HR5 := hide (HR4.out.later hb5)
          clear hb5
          by_cases hok2 : Sp.Ok (Sp.swap l ids)
          · have HF := hide (Sp.replace_ok HK.out HQ.out hok2)
            rw [decide_eq_true hok2]
            clear hok2
            go_wp2_with fail
            go_ret2
            exact ReplacePost.of HF.out rfl HR5.out HC4.out HB5.out
          · have HF := hide (Sp.replace_not HK.out HQ.out hok2)
            rw [decide_eq_false hok2]
            clear hok2
            go_wp2_with fail
            go_ret2
            exact ReplacePost.none HF.out rfl HB5.out
    · have e0 : ((q : Int) == (m : Int)) = false := by simp; omega
      have e1 : ((q : Int) != (m : Int)) = true := by simp; omega
      have HF := hide (Sp.replace_ne HK.out (ids := ids) (by have := HM.out; omega))
      clear hqm
      go_wp2_with fail
      go_ret2
      exact ReplacePost.none HF.out rfl HB2.out
  · have HF := hide (Sp.replace_bad hok ids)
    rw [decide_eq_false hok]
    clear hok
    go_wp2_with fail
    go_ret2
    exact ReplacePost.none HF.out rfl HB1.out
end Go.Proofs.Ytoppkgmgjahloaa
