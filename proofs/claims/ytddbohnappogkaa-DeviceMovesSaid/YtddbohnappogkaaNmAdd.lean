/- The reference of name spaces: Find: a contract (exact since round 8). | The reference of name spaces: insert: a contract (written by tools/mknmadd.py). | The reference of name spaces: Add: a contract (exact since round 8). -/
import Derived.Test.YtddbohnappogkaaNmValid
namespace Go.Proofs.Ytddbohnappogkaa
open Go.RowKit

/-- Some entry, and some answer. -/
def FindPost (w : World) (e : Ending) (w' : World) : Prop := ∃ y v, e = .returned (.tuple #[.agg (nc y), .bool v]) ∧ Below w.heap.size w w'
/-- What is found. -/
def Ob.found (o : Ob) (E : List Nx.Ent) (p : List UInt8) : Option Nx.Ent := if o.Names E then Nx.find E p else none
/-- An entry of its own that holds x, or the zero entry. -/
def FindIs (r : Option Nx.Ent) (w : World) (e : Ending) (w' : World) : Prop :=
  ((∃ (y : Nm) (x : Nx.Ent), r = some x ∧ e = .returned (.tuple #[.agg (nc y), .bool true]) ∧ y.path = x.path ∧ y.kind = x.kind ∧ w'.ownsRow w.heap.size 22 1 (.slice y.ids.A y.ids.n y.ids.c) y.ids.n (nv .u64 x.ids)) ∨
    (r = none ∧ e = .returned (.tuple #[.agg (nc ⟨[], 0, ⟨none, 0, 0⟩⟩), .bool false]))) ∧ Below w.heap.size w w'
theorem FindIs.post {r : Option Nx.Ent} {w w' : World} {e : Ending} (h : FindIs r w e w') : FindPost w e w' := by
  rcases h with ⟨⟨y, x, _, he, _⟩ | ⟨_, he⟩, hb⟩
  · exact ⟨y, true, he, hb⟩
  · exact ⟨_, false, he, hb⟩
theorem nc_zero : nc ⟨[], 0, ⟨none, 0, 0⟩⟩ = #[.string ⟨#[]⟩, .int .i64 0, .slice none 0 0] := rfl
set_option maxRecDepth 100000 in
set_option maxHeartbeats 8000000 in
theorem refFind_any (o : Ob) (p : ByteArray) (l : List Nm) (E : List Nx.Ent) (W : World) (hl0 : Ents W W.heap.size o.names.A o.names.n l E) (hs : Short l) (hn : o.names.n ≤ 1000) : Calls Try.prog 51 #[.agg (oc o), .string p] W (FindIs (o.found E p.data.toList) W) := by
  have hl := hl0.nms
  obtain ⟨w1, hw, O, OR, hb, hs1⟩ : ∃ w1, (W.alloc (.cells (oc o) 41)).alloc (.cells #[.string ⟨#[]⟩, .int .i64 0, .slice none 0 0] 56) = w1 ∧ Obl w1 W.heap.size 41 (oc o) ∧ Obl w1 (W.heap.size + 1) 56 #[.string ⟨#[]⟩, .int .i64 0, .slice none 0 0] ∧ Below W.heap.size W w1 ∧ w1.heap.size = W.heap.size + 2 := by
    refine ⟨_, rfl, (Obl.make W _ _).alloc _, ?_, ((Below.refl _ _).alloc (Nat.le_refl _) _).alloc (by simp) _, by simp⟩
    have := Obl.make (W.alloc (.cells (oc o) 41)) 56 #[.string ⟨#[]⟩, .int .i64 0, .slice none 0 0]
    rwa [World.size_alloc] at this
  have HB0 := hide hb
  have HL := hide hl
  have HEN := hide hl0
  have HNO := hide (show ¬ o.Names E → o.found E p.data.toList = none from fun h => if_neg h)
  have HYE := hide (show o.Names E → o.found E p.data.toList = Nx.find E p.data.toList from fun h => if_pos h)
  have HS := hide hs
  clear hl hl0 hs
  go_enter Try.func51, Try.ntmps51
  go_wp2_with (first | (refine load_ob rfl _ rfl rfl O ?_) | fail)
  refine (refNames_any o l E _ ((HEN.out.below hb).mono hb.size) HS.out).mono ?_
  rintro e w2 ⟨rfl, hb2⟩
  obtain ⟨bv, hbv⟩ : ∃ bv, decide (o.Names E) = bv := ⟨_, rfl⟩
  rw [hbv]
  have HBV := hide hbv
  clear hbv
  replace O := O.below hb2 O.lt
  replace OR := OR.below hb2 OR.lt
  have HB := hide (HB0.out.trans (hb2.mono HB0.out.size))
  clear hb hb2 HB0 hw hs1
  cases bv with
  | false =>
    have HR := hide (HNO.out (of_decide_eq_false HBV.out))
    clear HNO HYE HBV
    go_wp2_with (first | (refine store_nm rfl _ _ rfl rfl (c := ⟨[], 0, ⟨none, 0, 0⟩⟩) rfl OR rfl ?_) | fail)
    refine bodyPost_ret (ret_nm2 rfl _ rfl (OR.row_same (nc ⟨[], 0, ⟨none, 0, 0⟩⟩))) rfl ?_
    exact ⟨.inr ⟨HR.out, rfl⟩, below_row HB.out (by omega) _⟩
  | true =>
    have HR := hide (HYE.out (of_decide_eq_true HBV.out))
    clear HNO HYE HBV
    obtain ⟨n, hnn⟩ : ∃ n, o.names.n = n := ⟨_, rfl⟩
    have HN := hide hnn
    have HE1 : Hid (E.length = n) := hide (HEN.out.len.trans hnn)
    have k35 : w2.cell? ⟨W.heap.size, 35, none⟩ = some (.slice o.names.A n o.names.c) := (O.cell 35).trans (by show some (Value.slice o.names.A o.names.n o.names.c) = _; rw [hnn])
    have hn' : (n : Int) ≤ 1000 := by omega
    clear hnn hn
    by_cases hn0 : n = 0
    · subst hn0
      go_wp2_with fail
      go_loop [15] (fun s => s = .int .i64 0) (fun _ => 0)
      case atStart => rfl
      case round =>
        subst hrel
        go_wp2_with (first | (refine store_nm rfl _ _ rfl rfl (c := ⟨[], 0, ⟨none, 0, 0⟩⟩) rfl OR rfl ?_) | fail)
        refine bodyPost_ret (ret_nm2 rfl _ rfl (OR.row_same (nc ⟨[], 0, ⟨none, 0, 0⟩⟩))) rfl ?_
        exact ⟨.inr ⟨by rw [HR.out]; exact Nx.find_end (fun i hi => by have := HE1.out; omega), rfl⟩, below_row HB.out (by omega) _⟩
    · have hL0 := HL.out
      rw [HN.out] at hL0
      obtain ⟨b1, f1, _, hA, _⟩ := hL0.at_ (i := 0) (by omega)
      rw [hA] at k35
      have HA := hide hA
      clear hL0 hA
      go_wp2_with fail
      go_loopw [15] (fun s15 wr => ∃ k : Nat, s15 = .int .i64 (k : Int) ∧ k ≤ n ∧ Obl wr (W.heap.size + 1) 56 #[.string ⟨#[]⟩, .int .i64 0, .slice none 0 0] ∧ Hid (∀ (i : Nat) (h : i < E.length), i < k → E[i].path ≠ p.data.toList) ∧ Hid (Below W.heap.size W wr)) (fun s15 _ => n - (intOf s15).toNat)
      case atStart => exact ⟨0, rfl, by omega, OR, hide (fun i _ h => by omega), HB⟩
      case round =>
        clear O OR HB k35
        obtain ⟨k, rfl, hk, OR, HK, HB⟩ := hrel
        by_cases hlt : k < n
        · have hlt' : (k : Int) < (n : Int) := by omega
          have hLr := HL.out.below HB.out
          rw [HN.out, HA.out] at hLr
          obtain ⟨b1', f1', hkl, hA, hb1, c0, c1, c2, _, _⟩ := hLr.at_ hlt
          simp only [Option.some.injEq, Addr.mk.injEq, and_true] at hA
          obtain ⟨rfl, rfl⟩ := hA
          have hx := hide (HS.out _ (List.getElem_mem hkl))
          have hEr := HEN.out.below HB.out
          rw [HN.out, HA.out] at hEr
          obtain ⟨_, hkE, _, hIE⟩ := hEr.ent hlt
          have HPT := hide (hEr.2.2 k hkl hkE)
          obtain ⟨II, hIIe⟩ : ∃ II, E[k].ids = II := ⟨_, rfl⟩
          rw [hIIe] at hIE
          have HII := hide hIIe
          have hII := hIE
          clear hIIe hIE hEr
          generalize l[k] = x at *
          obtain ⟨w3, hw3, g, hg, w4, hw4, OZ, ON, hb4, hs4⟩ := start_nm wr x
          have hgW : W.heap.size + 1 < g := by have := OR.lt; omega
          have OR4 := OR.below hb4 (by omega)
          have HB4 := hide (HB.out.trans (hb4.mono (by omega)))
          have HI4 := hide (hII.below (hb4.mono (by omega : W.heap.size ≤ g)))
          have c4 : w4.cell? ⟨g, 0, none⟩ = some (.string ⟨x.path.toArray⟩) := ON.cell 0
          obtain ⟨sx, hsx⟩ : ∃ sx : ByteArray, (⟨x.path.toArray⟩ : ByteArray) = sx := ⟨_, rfl⟩
          rw [hsx] at c4
          have hg4 : g < w4.heap.size := by omega
          have HSX := hide hsx
          clear hLr hb4 OR HB hII hs4 hsx
          obtain ⟨eb, heb⟩ : ∃ eb : Bool, (sx.toList == p.toList) = eb := ⟨_, rfl⟩
          have HEB := hide (show (sx.toList == p.toList) = true ↔ E[k].path = p.data.toList by
            rw [← HSX.out, Lib.toList_data, Lib.toList_data, HPT.out.1]
            simp)
          have HFT := hide (fun h : (sx.toList == p.toList) = true => Nx.find_at hkE HK.out (HEB.out.1 h))
          have HFF := hide (fun (h : (sx.toList == p.toList) = false) (i : Nat) (hi : i < E.length) (h1 : i < k + 1) => show E[i].path ≠ p.data.toList by
            rcases Nat.lt_or_eq_of_le (Nat.le_of_lt_succ h1) with h3 | rfl
            · exact HK.out i hi h3
            · intro he; rw [HEB.out.2 he] at h; cases h)
          clear HEB HK
          cases eb with
          | false =>
            have HF := hide (HFF.out heb)
            clear HFT HFF HSX
            go_wp2_with (first | (refine wpList_val (by rfl) (exec_load_nmid rfl rfl c0 c1 c2) ?_) | (refine store_nm rfl _ _ rfl rfl (c := x) rfl OZ rfl ?_; rw [hw4]) | fail)
            go_roundw
            case rel => exact ⟨k + 1, by go_num, by omega, OR4, HF, HB4⟩
            case measure => simp [intOf]; omega
          | true =>
            have HF := hide (HFT.out heb)
            clear HFT HFF HSX
            go_wp2_with (first | (refine wpList_val (by rfl) (exec_load_nmid rfl rfl c0 c1 c2) ?_) | (refine store_nm rfl _ _ rfl rfl (c := x) rfl OZ rfl ?_; rw [hw4]) | (refine load_nm rfl _ rfl rfl ON ?_) | fail)
            refine (copiedIs_any x W.heap.size II _ HI4.out (by omega) hx.out.2).mono ?_
            rintro e w5 ⟨A5, c5, rfl, hown5, hb5⟩
            have HO5 := hide (own_weaken hown5 (show W.heap.size + 2 ≤ w4.heap.size by omega))
            clear hown5
            have OR5 := OR4.below hb5 OR4.lt
            have HB5 := hide (HB4.out.trans (hb5.mono HB4.out.size))
            clear hb5 OR4 HB4
            go_wp2_with (first | (refine store_nm rfl _ _ rfl rfl (c := ⟨x.path, x.kind, ⟨A5, x.ids.n, c5⟩⟩) rfl OR5 rfl ?_) | fail)
            refine bodyPost_ret (ret_nm2 rfl _ rfl (OR5.row_same (nc ⟨x.path, x.kind, ⟨A5, x.ids.n, c5⟩⟩))) rfl ?_
            exact ⟨.inl ⟨_, E[k], by rw [HR.out]; exact HF.out, rfl, HPT.out.1, HPT.out.2.1, by rw [HII.out]; exact own_weaken (own_keep HO5.out (keep_row (m := W.heap.size + 1) (by omega) _)) (by omega)⟩, below_row HB5.out (by omega) _⟩
        · obtain rfl : k = n := by omega
          go_wp2_with (first | (refine store_nm rfl _ _ rfl rfl (c := ⟨[], 0, ⟨none, 0, 0⟩⟩) rfl OR rfl ?_) | fail)
          refine bodyPost_ret (ret_nm2 rfl _ rfl (OR.row_same (nc ⟨[], 0, ⟨none, 0, 0⟩⟩))) rfl ?_
          exact ⟨.inr ⟨by rw [HR.out]; exact Nx.find_end (fun i hi => HK.out i hi (by have := HE1.out; omega)), rfl⟩, below_row HB.out (by omega) _⟩
theorem find_any (o : Ob) (p : ByteArray) (l : List Nm) (W : World) (hl : Nms W W.heap.size o.names.A o.names.n l) (hs : Short l) (hn : o.names.n ≤ 1000) : Calls Try.prog 51 #[.agg (oc o), .string p] W (FindPost W) := by
  obtain ⟨E, hE⟩ := hl.ents
  exact (refFind_any o p l E W hE hs hn).mono fun _ _ h => h.post
end Go.Proofs.Ytddbohnappogkaa
namespace Go.Proofs.Ytddbohnappogkaa
open Go.RowKit

theorem nmTy : ElemTy Try.prog 39 56 3 48 := by
  obtain ⟨i0, hi, hz0, hz1, hz2⟩ := info_parts (show (Try.prog.info? 56).map (fun i => (i.zero, i.size, i.bytes)) = some (some (.agg #[.string ⟨#[]⟩, .int .i64 0, .slice none 0 0]), 3, 48) by kernel_rfl)
  exact ⟨i0, _, Try.underlying39, hi, hz0, hz1, hz2, rfl, by omega⟩
theorem Row.three (w : World) (x : Nm) (t : TypeId) : Row (w.alloc (.cells #[.string ⟨x.path.toArray⟩, .int .i64 x.kind, .slice x.ids.A x.ids.n x.ids.c] t)) (w.heap.size + 1) 3 (some ⟨w.heap.size, 0, none⟩) 1 [.string ⟨x.path.toArray⟩, .int .i64 x.kind, .slice x.ids.A x.ids.n x.ids.c] :=
  ⟨by simp, by simp, (Row.list w [.string ⟨x.path.toArray⟩, .int .i64 x.kind, .slice x.ids.A x.ids.n x.ids.c] t).rd⟩
theorem nmv_snoc (l : List Nm) (x : Nm) : nmv l ++ [.string ⟨x.path.toArray⟩, .int .i64 x.kind, .slice x.ids.A x.ids.n x.ids.c] = nmv (l ++ [x]) := by rw [nmv_append]; rfl
theorem own_nmv {w : World} {base n : Nat} {e : TypeId} {v : Value} {l : List Nm} (h : w.ownsRow base e 3 v n (nmv l)) : l.length = n := by have := h.1; rw [nmv_length] at this; omega
/-- What the list of entries is while it is made: short entries in rows of the call's own. -/
structure NmOut (w : World) (base : Nat) (A : Option Addr) (n c : Nat) (l : List Nm) : Prop where
  own : OwnNms w base A n c l
  short : Short l
  base_le : base ≤ w.heap.size
theorem NmOut.later {w w' : World} {base n c : Nat} {A : Option Addr} {l : List Nm} (h : NmOut w base A n c l) (hb : Below w.heap.size w w') : NmOut w' base A n c l := ⟨h.own.keep (keep_below hb), h.short, Nat.le_trans h.base_le hb.size⟩
/-- One more entry: its identifiers' row, the new block, the append. -/
theorem NmOut.more {w w2 w3 : World} {base n c n3 c3 : Nat} {A A3 : Option Addr} {l : List Nm} {x : Nm} (h : NmOut w base A n c l) (hb : Below w.heap.size w w2) (hx : x.path.length ≤ 1000 ∧ x.ids.n ≤ 1000) (hI : ∃ I, w2.ownsRow base 22 1 (.slice x.ids.A x.ids.n x.ids.c) x.ids.n (nv .u64 I)) (cells : Array Value)
    (hown : w3.ownsRow base 56 3 (.slice A3 n3 c3) n3 (nmv (l ++ [x]))) (hg : (w2.alloc (.cells cells 56)).grownBy w3 (blk A)) : NmOut w3 base A3 n3 c3 (l ++ [x]) := by
  have hA : (w2.alloc (.cells cells 56)).ownsRow base 56 3 (.slice A n c) n (nmv l) := (own_keep h.own.1 (keep_below hb)).alloc _
  refine ⟨⟨hown, fun y hy => ?_⟩, fun y hy => ?_, ?_⟩
  · rcases List.mem_append.1 hy with hy | hy
    · obtain ⟨I, hI⟩ := h.own.2 y hy
      have h1 := (own_keep hI (keep_below hb)).alloc (.cells cells 56)
      exact ⟨I, h1.kept hg (own_apart h1 hA (by decide))⟩
    · simp only [List.mem_singleton] at hy
      subst hy
      obtain ⟨I, hI⟩ := hI
      have h1 := hI.alloc (.cells cells 56)
      exact ⟨I, h1.kept hg (own_apart h1 hA (by decide))⟩
  · rcases List.mem_append.1 hy with hy | hy
    · exact h.short y hy
    · simp only [List.mem_singleton] at hy
      subst hy
      exact hx
  · have h1 := hg.size
    have h2 := hb.size
    have h3 := h.base_le
    simp at h1
    omega
/-- Entries in memory hold F. -/
def Has (w : World) (base : Nat) (l : List Nm) (F : List Nx.Ent) : Prop := F.length = l.length ∧ ∀ (k : Nat) (h : k < l.length) (h' : k < F.length), l[k].path = F[k].path ∧ l[k].kind = F[k].kind ∧ w.ownsRow base 22 1 (.slice l[k].ids.A l[k].ids.n l[k].ids.c) l[k].ids.n (nv .u64 F[k].ids)
/-- The list of entries while it is made, and what it holds. -/
structure NmOutE (w : World) (base : Nat) (A : Option Addr) (n c : Nat) (l : List Nm) (F : List Nx.Ent) : Prop where
  own : OwnNms w base A n c l
  short : Short l
  base_le : base ≤ w.heap.size
  has : Has w base l F
theorem NmOutE.plain {w : World} {base n c : Nat} {A : Option Addr} {l : List Nm} {F : List Nx.Ent} (h : NmOutE w base A n c l F) : NmOut w base A n c l := ⟨h.own, h.short, h.base_le⟩
theorem Has.keep {w w' : World} {base : Nat} {l : List Nm} {F : List Nx.Ent} (h : Has w base l F) (hk : ∀ g, base ≤ g → g < w.heap.size → w'.heap[g]? = w.heap[g]?) : Has w' base l F := ⟨h.1, fun k h1 h2 => ⟨(h.2 k h1 h2).1, (h.2 k h1 h2).2.1, own_keep (h.2 k h1 h2).2.2 hk⟩⟩
theorem NmOutE.keep {w w' : World} {base n c : Nat} {A : Option Addr} {l : List Nm} {F : List Nx.Ent} (h : NmOutE w base A n c l F) (hk : ∀ g, base ≤ g → g < w.heap.size → w'.heap[g]? = w.heap[g]?) (hs : w.heap.size ≤ w'.heap.size) : NmOutE w' base A n c l F := ⟨h.own.keep hk, h.short, Nat.le_trans h.base_le hs, h.has.keep hk⟩
theorem NmOutE.later {w w' : World} {base n c : Nat} {A : Option Addr} {l : List Nm} {F : List Nx.Ent} (h : NmOutE w base A n c l F) (hb : Below w.heap.size w w') : NmOutE w' base A n c l F := h.keep (keep_below hb) hb.size
theorem NmOutE.more {w w2 w3 : World} {base n c n3 c3 : Nat} {A A3 : Option Addr} {l : List Nm} {F : List Nx.Ent} {x : Nm} {I : List Int} (h : NmOutE w base A n c l F) (hb : Below w.heap.size w w2) (hx : x.path.length ≤ 1000 ∧ x.ids.n ≤ 1000) (hI : w2.ownsRow base 22 1 (.slice x.ids.A x.ids.n x.ids.c) x.ids.n (nv .u64 I)) (cells : Array Value)
    (hown : w3.ownsRow base 56 3 (.slice A3 n3 c3) n3 (nmv (l ++ [x]))) (hg : (w2.alloc (.cells cells 56)).grownBy w3 (blk A)) : NmOutE w3 base A3 n3 c3 (l ++ [x]) (F ++ [⟨x.path, x.kind, I⟩]) := by
  have hp := h.plain.more hb hx ⟨I, hI⟩ cells hown hg
  have hA : (w2.alloc (.cells cells 56)).ownsRow base 56 3 (.slice A n c) n (nmv l) := (own_keep h.own.1 (keep_below hb)).alloc _
  have hl := h.has.1
  refine ⟨hp.own, hp.short, hp.base_le, by simp [hl], fun k h1 h2 => ?_⟩
  by_cases hk : k < l.length
  · rw [List.getElem_append_left hk, List.getElem_append_left (by omega)]
    obtain ⟨a, b, d⟩ := h.has.2 k hk (by omega)
    have d1 := (own_keep d (keep_below hb)).alloc (.cells cells 56)
    exact ⟨a, b, d1.kept hg (own_apart d1 hA (by decide))⟩
  · have : k = l.length := by simp at h1; omega
    subst this
    rw [List.getElem_append_right (by omega), List.getElem_append_right (by omega)]
    simp only [hl, Nat.sub_self, List.getElem_cons_zero]
    have d1 := hI.alloc (.cells cells 56)
    exact ⟨trivial, trivial, d1.kept hg (own_apart d1 hA (by decide))⟩
/-- Entries, more by some. -/
def InsPost (n : Nat) (w : World) (e : Ending) (w' : World) : Prop := ∃ A' n' c' l', e = .returned (.slice A' n' c') ∧ n' ≤ 2 * n + 1 ∧ NmOut w' (w.heap.size + 1) A' n' c' l' ∧ Below w.heap.size w w'
/-- Entries that hold F. -/
def InsIs (n : Nat) (F : List Nx.Ent) (w : World) (e : Ending) (w' : World) : Prop := ∃ A' n' c' l', e = .returned (.slice A' n' c') ∧ n' ≤ 2 * n + 1 ∧ NmOutE w' (w.heap.size + 1) A' n' c' l' F ∧ Below w.heap.size w w'
set_option maxRecDepth 100000 in
set_option maxHeartbeats 16000000 in
theorem refInsert_any (A : Option Addr) (n c : Nat) (l : List Nm) (E : List Nx.Ent) (x : Nm) (I : List Int) (W : World) (hl0 : Ents W W.heap.size A n l E) (hs : Short l) (hn : n ≤ 1000) (hx : x.path.length ≤ 1000 ∧ x.ids.n ≤ 1000) (hI : Nums .u64 W W.heap.size x.ids.A x.ids.n I) : Calls Try.prog 52 #[.slice A n c, .agg (nc x)] W (InsIs n (Nx.insertL E ⟨x.path, x.kind, I⟩) W) := by
  have hl := hl0.nms
  have hEl : E.length = n := hl0.len
  have HE1 := hide hEl
  have HEN := hide hl0
  obtain ⟨ex, hex⟩ : ∃ ex : Nx.Ent, (⟨x.path, x.kind, I⟩ : Nx.Ent) = ex := ⟨_, rfl⟩
  have HEX := hide hex
  rw [hex]
  obtain ⟨w1, hw, O, hb, hs1⟩ : ∃ w1, W.alloc (.cells (nc x) 56) = w1 ∧ Obl w1 W.heap.size 56 (nc x) ∧ Below W.heap.size W w1 ∧ w1.heap.size = W.heap.size + 1 := ⟨_, rfl, Obl.make W _ _, (Below.refl _ _).alloc (Nat.le_refl _) _, by simp⟩
  have HB := hide hb
  have HL := hide hl
  have HS := hide hs
  have HX := hide hx
  have HI := hide hI
  have hn' : (n : Int) ≤ 1000 := by omega
  have M0 : Hid (NmOutE w1 (W.heap.size + 1) none 0 0 [] []) := hide ⟨⟨own_nil, by simp⟩, by intro y hy; simp at hy, by omega, rfl, fun k h => by simp at h⟩
  clear hb hl hl0 hs hx hI hex hEl
  by_cases hn0 : n = 0
  · subst hn0
    go_enter Try.func52, Try.ntmps52
    go_wp2_with fail
    go_loopw [5, 10] (fun s5 s10 wr => s10 = .int .i64 0 ∧ s5 = .slice none 0 0 ∧ Obl wr W.heap.size 56 (nc x) ∧ Hid (NmOutE wr (W.heap.size + 1) none 0 0 [] []) ∧ Hid (Below W.heap.size W wr)) (fun _ _ _ => 0)
    case atStart => exact ⟨rfl, rfl, O, M0, HB⟩
    case round =>
      clear O M0 HB hw
      obtain ⟨rfl, rfl, O, M, HB⟩ := hrel
      go_wp2_with (first | (refine load_nm rfl _ rfl rfl O ?_) | fail)
      refine (copiedIs_any x W.heap.size I _ (HI.out.below HB.out) (by have := HB.out.size; omega) HX.out.2).mono ?_
      rintro e waz ⟨A2z, c2z, rfl, hown2, hb2⟩
      rw [show nc ⟨x.path, x.kind, ⟨A2z, x.ids.n, c2z⟩⟩ = #[.string ⟨x.path.toArray⟩, .int .i64 x.kind, .slice A2z x.ids.n c2z] from rfl]
      have Maz := hide (M.out.later hb2)
      have hidz := hide (own_weaken (base' := W.heap.size + 1) hown2 M.out.base_le)
      have HBaz := hide (HB.out.trans (hb2.mono HB.out.size))
      clear hown2 hb2
      have hrowz := Maz.out.own.1.alloc (.cells #[.string ⟨x.path.toArray⟩, .int .i64 x.kind, .slice A2z x.ids.n c2z] 56)
      have hthreez : Row _ _ 3 _ 1 [.string ⟨x.path.toArray⟩, .int .i64 x.kind, .slice A2z x.ids.n c2z] := Row.three waz ⟨x.path, x.kind, ⟨A2z, x.ids.n, c2z⟩⟩ 56
      have hbsz : W.heap.size + 1 ≤ (waz.alloc (.cells #[.string ⟨x.path.toArray⟩, .int .i64 x.kind, .slice A2z x.ids.n c2z] 56)).heap.size := by have := Maz.out.base_le; simp; omega
      have HBcz := hide (HBaz.out.alloc (by have := Maz.out.base_le; omega) (.cells #[.string ⟨x.path.toArray⟩, .int .i64 x.kind, .slice A2z x.ids.n c2z] 56))
      have hscz : (waz.alloc (.cells #[.string ⟨x.path.toArray⟩, .int .i64 x.kind, .slice A2z x.ids.n c2z] 56)).heap.size = waz.heap.size + 1 := by simp
      obtain ⟨wcz, hwcz⟩ : ∃ wc, waz.alloc (.cells #[.string ⟨x.path.toArray⟩, .int .i64 x.kind, .slice A2z x.ids.n c2z] 56) = wc := ⟨_, rfl⟩
      rw [hwcz] at hrowz hthreez hbsz HBcz hscz 
      go_wp2_with (first | (at_builtin; refine wpList_append_rd rfl _ _ _ rfl nmTy (base := W.heap.size + 1) rfl hrowz rfl hthreez (by simp [Value.oneCell']) (by unfold maxLen; omega) (by omega) hbsz ?_; intro A3z c3z wbz hown3 hg3 hat3; rw [show nmv [] ++ [.string ⟨x.path.toArray⟩, .int .i64 x.kind, .slice A2z x.ids.n c2z] = nmv ([] ++ [⟨x.path, x.kind, ⟨A2z, x.ids.n, c2z⟩⟩]) from nmv_snoc [] ⟨x.path, x.kind, ⟨A2z, x.ids.n, c2z⟩⟩] at hown3; have HBz := hide (HBcz.out.grown hg3 (by have := Maz.out.base_le; omega) (fun k hk => by have := (hrowz.lt k (by rw [ownBlock_slice]; exact hk)).1; omega)); rw [← hwcz] at hg3; have Mz := hide (Maz.out.more (Below.refl _ _) (x := ⟨x.path, x.kind, ⟨A2z, x.ids.n, c2z⟩⟩) HX.out hidz.out _ hown3 hg3); have hatz : blk A3z = blk none ∨ blk A3z = some wcz.heap.size := hat3; clear hown3 hg3 hat3 hrowz hthreez) | fail)
      go_ret
      exact ⟨A3z, 1, c3z, _, rfl, by omega, by rw [show Nx.insertL E ex = [] ++ [⟨x.path, x.kind, I⟩] from by rw [List.eq_nil_of_length_eq_zero HE1.out, HEX.out]; rfl]; exact Mz.out, HBz.out⟩
  have hL0 := HL.out
  obtain ⟨b1, f1, _, hA, _⟩ := hL0.at_ (i := 0) (by omega)
  subst hA
  clear hL0
  go_enter Try.func52, Try.ntmps52
  go_wp2_with fail
  go_loopw [5, 10] (fun s5 s10 wr => ∃ (k m c' : Nat) (A' : Option Addr) (L : List Nm), s10 = .int .i64 (k : Int) ∧ s5 = .slice A' m c' ∧ k ≤ n ∧ m ≤ 2 * k ∧ Obl wr W.heap.size 56 (nc x) ∧ Hid (NmOutE wr (W.heap.size + 1) A' m c' L (Nx.outs E ex k)) ∧ Hid (Below W.heap.size W wr)) (fun _ s10 _ => n - (intOf s10).toNat)
  case atStart => exact ⟨0, 0, 0, none, [], rfl, rfl, by omega, by omega, O, by rw [Nx.outs_zero]; exact M0, HB⟩
  case round =>
    clear O M0 HB hw
    obtain ⟨k, m, c', A', L, rfl, rfl, hk, hm, O, M, HB⟩ := hrel
    by_cases hlt : k < n
    · have hlt' : (k : Int) < (n : Int) := by omega
      have hLr := HL.out.below HB.out
      obtain ⟨b1', f1', hkl, hA, hb1, c0, c1, c2, _⟩ := hLr.at_ hlt
      obtain ⟨_, hkE, hent, hII⟩ := HEN.out.ent hlt
      have HPT := hide (show l[k].path = E[k].path from (HEN.out.2.2 k hkl hkE).1)
      obtain ⟨II, hIIe⟩ : ∃ II, E[k].ids = II := ⟨_, rfl⟩
      rw [hIIe] at hent hII
      have HENT := hide hent
      have HOS := hide (Nx.outs_succ (n := ex) hkE)
      obtain ⟨F, hF⟩ : ∃ F, Nx.outs E ex k = F := ⟨_, rfl⟩
      rw [hF] at M HOS
      have hFm : F.length = m := M.out.has.1.trans M.out.own.nms.1
      have HFM := hide hFm
      clear hF hIIe hent
      have HIW := hide hII
      simp only [Option.some.injEq, Addr.mk.injEq, and_true] at hA
      obtain ⟨rfl, rfl⟩ := hA
      have hy := hide (HS.out _ (List.getElem_mem hkl))
      generalize l[k] = y at *
      obtain ⟨w3, hw3, g, hg, w4, hw4, OZ, N, hb4, hs4⟩ := start_nm wr y
      have hgW : W.heap.size < g := by have := O.lt; omega
      have hne : some g ≠ blk A' := fun e => by have := (M.out.own.1.lt g (by rw [ownBlock_slice]; exact e.symm)).2; omega
      replace O := O.below hb4 (by omega)
      replace M := hide (M.out.later (hb4.mono (by omega)))
      replace HB := hide (HB.out.trans (hb4.mono (by omega)))
      have d4 : w4.cell? ⟨g, 0, none⟩ = some (.string ⟨y.path.toArray⟩) := N.cell 0
      have dx : w4.cell? ⟨W.heap.size, 0, none⟩ = some (.string ⟨x.path.toArray⟩) := O.cell 0
      have hlast : 0 < m → ∃ b2 p, (∀ h : m - 1 < F.length, p = (⟨F[m - 1].path.toArray⟩ : ByteArray)) ∧ A' = some ⟨b2, 0, none⟩ ∧ b2 < w4.heap.size ∧ w4.cell? ⟨b2, (m - 1) * 3, none⟩ = some (.string p) := fun h0 => by
        have hnm := M.out.own.nms
        obtain ⟨b2, o2, hl2, hA2, hb2', hc2, _⟩ := hnm.at_ (i := m - 1) (by omega)
        obtain ⟨g2, hg2, _⟩ := own_addr M.out.own.1 h0
        rw [hA2] at hg2
        simp only [Option.some.injEq, Addr.mk.injEq, and_true] at hg2
        obtain ⟨rfl, rfl⟩ := hg2
        exact ⟨_, ⟨L[m - 1].path.toArray⟩, fun h => by rw [(M.out.has.2 (m - 1) hl2 h).1], hA2, hb2', by rw [← hc2, Nat.zero_add]⟩
      have HJ := hide hlast
      have hg4 : g < w4.heap.size := by omega
      have hO4 := O.lt
      clear hLr hb4 hII hs4 hlast hFm
      go_wp2_with (first | (refine wpList_val (by rfl) (exec_load_nmid rfl rfl c0 c1 c2) ?_) | (refine store_nm rfl _ _ rfl rfl (c := y) rfl OZ rfl ?_; rw [hw4]) | fail)
      clear OZ hw4 hw3 hg c0 c1 c2
      refine region_B (by kernel_rfl) w4.heap.size ?_
      have hu : ∃ u, w4.drew = u ∧ Obl u W.heap.size 56 (nc x) ∧ Obl u g 56 (nc y) ∧ Hid (NmOutE u (W.heap.size + 1) A' m c' L F) ∧ Hid (Below W.heap.size W u) ∧ u.cell? ⟨g, 0, none⟩ = some (.string ⟨y.path.toArray⟩) ∧ u.cell? ⟨W.heap.size, 0, none⟩ = some (.string ⟨x.path.toArray⟩) ∧ Hid (0 < m → ∃ b2 p, (∀ h : m - 1 < F.length, p = (⟨F[m - 1].path.toArray⟩ : ByteArray)) ∧ A' = some ⟨b2, 0, none⟩ ∧ b2 < u.heap.size ∧ u.cell? ⟨b2, (m - 1) * 3, none⟩ = some (.string p)) ∧ u.heap.size = w4.heap.size :=
        ⟨_, rfl, O, N, hide ⟨M.out.own, M.out.short, M.out.base_le, M.out.has⟩, hide ⟨HB.out.os, HB.out.tape, HB.out.output, HB.out.size, HB.out.block⟩, d4, dx, HJ, rfl⟩
      clear O N M HB d4 dx HJ
      obtain ⟨u, hu, O, N, M, HB, d4, dx, HJ, hus⟩ := hu
      rw [hu]
      rw [← hus] at hg4 hO4 ⊢
      clear hu hus
      obtain ⟨sy, hsy⟩ : ∃ sy : ByteArray, (⟨y.path.toArray⟩ : ByteArray) = sy := ⟨_, rfl⟩
      obtain ⟨sx, hsx⟩ : ∃ sx : ByteArray, (⟨x.path.toArray⟩ : ByteArray) = sx := ⟨_, rfl⟩
      rw [hsy] at d4
      rw [hsx] at dx
      have Hsy := hide hsy
      have Hsx := hide hsx
      clear hsy hsx
      obtain ⟨gt, hgt⟩ : ∃ gt : Bool, (!(Op.bytesLess sy.toList sx.toList || sy.toList == sx.toList)) = gt := ⟨_, rfl⟩
      have HGT := hide (show (!(Op.bytesLess sy.toList sx.toList || sy.toList == sx.toList)) = true ↔ ¬ (Nx.Lt E[k].path ex.path ∨ E[k].path = ex.path) by
        rw [← Hsy.out, ← Hsx.out, Lib.toList_data, Lib.toList_data, HPT.out, ← HEX.out]
        unfold Nx.Lt
        simp)
      have HA := hide (fun h : (!(Op.bytesLess sy.toList sx.toList || sy.toList == sx.toList)) = false => show Nx.outs E ex (k + 1) = F ++ [⟨y.path, y.kind, II⟩] by
        rw [HOS.out, HENT.out]
        unfold Nx.step
        rw [if_neg (fun hh => by rw [HGT.out.2 hh.1] at h; cases h)])
      have HC := hide (fun (h : (!(Op.bytesLess sy.toList sx.toList || sy.toList == sx.toList)) = true) (hz : ∀ z, F.getLast? = some z → Nx.Lt z.path ex.path) => show Nx.outs E ex (k + 1) = (F ++ [⟨x.path, x.kind, I⟩]) ++ [⟨y.path, y.kind, II⟩] by
        rw [HOS.out, HENT.out, HEX.out]
        unfold Nx.step
        rw [if_pos ⟨HGT.out.1 h, hz⟩])
      have HD := hide (fun (hz : ¬ ∀ z, F.getLast? = some z → Nx.Lt z.path ex.path) => show Nx.outs E ex (k + 1) = F ++ [⟨y.path, y.kind, II⟩] by
        rw [HOS.out, HENT.out]
        unfold Nx.step
        rw [if_neg (fun hh => hz hh.2)])
      clear HGT HOS HENT HPT
      refine takeB 0 rfl (by kernel_rfl) (fun _ _ _ h => h) (by rfl) (by intro w' hg; go_simp; try with_reducible rfl) ?_
      refine takeB 1 rfl (by kernel_rfl) (fun _ _ _ h => h) (by rfl) (by intro w' hg; have g1 := (hg.cell (p := ⟨g, 0, none⟩) (by show g < _; omega)).trans d4; go_simp; try with_reducible rfl) ?_
      refine takeB 2 rfl (by kernel_rfl) (fun _ _ _ h => h) (by rfl) (by intro w' hg; go_simp; try with_reducible rfl) ?_
      refine takeB 3 rfl (by kernel_rfl) (fun _ _ _ h => h) (by rfl) (by intro w' hg; have g1 := (hg.cell (p := ⟨W.heap.size, 0, none⟩) (by show W.heap.size < _; omega)).trans dx; go_simp; try with_reducible rfl) ?_
      cases gt with
      | false =>
        have HF := hide (HA.out hgt)
        clear HA HC HD
        refine takeB 4 rfl (by kernel_rfl) (fun _ _ _ h => h) (by rfl) (by intro w' hg; go_simp; try with_reducible rfl) ?_
        refine takeB 5 rfl (by kernel_rfl) (fun _ _ _ h => h) (by rfl) (by intro w' hg; go_simp; try with_reducible rfl) ?_
        refine skipB 6 rfl (by kernel_rfl) (fun _ _ _ h => h) (by kernel_rfl) ?_
        refine skipB 7 rfl (by kernel_rfl) (fun _ _ _ h => h) (by kernel_rfl) ?_
        refine skipB 8 rfl (by kernel_rfl) (fun _ _ _ h => h) (by kernel_rfl) ?_
        refine skipB 9 rfl (by kernel_rfl) (fun _ _ _ h => h) (by kernel_rfl) ?_
        refine skipB 10 rfl (by kernel_rfl) (fun _ _ _ h => h) (by kernel_rfl) ?_
        refine skipB 11 rfl (by kernel_rfl) (fun _ _ _ h => h) (by kernel_rfl) ?_
        refine skipB 12 rfl (by kernel_rfl) (fun _ _ _ h => h) (by kernel_rfl) ?_
        refine skipB 13 rfl (by kernel_rfl) (fun _ _ _ h => h) (by kernel_rfl) ?_
        refine skipB 14 rfl (by kernel_rfl) (fun _ _ _ h => h) (by kernel_rfl) ?_
        refine skipB 15 rfl (by kernel_rfl) (fun _ _ _ h => h) (by kernel_rfl) ?_
        refine skipB 16 rfl (by kernel_rfl) (fun _ _ _ h => h) (by kernel_rfl) ?_
        refine skipB 17 rfl (by kernel_rfl) (fun _ _ _ h => h) (by kernel_rfl) ?_
        refine skipB 18 rfl (by kernel_rfl) (fun _ _ _ h => h) (by kernel_rfl) ?_
        refine skipB 19 rfl (by kernel_rfl) (fun _ _ _ h => h) (by kernel_rfl) ?_
        refine skipB 20 rfl (by kernel_rfl) (fun _ _ _ h => h) (by kernel_rfl) ?_
        refine takeB 21 rfl (by kernel_rfl) (fun _ _ _ h => h) (by rfl) (by intro w' hg; go_simp; try with_reducible rfl) ?_
        refine doneB (by kernel_rfl) ?_
        go_simp
        go_wp2_with (first | (refine load_nm rfl _ rfl rfl N ?_) | fail)
        refine (copiedIs_any y W.heap.size II _ (HIW.out.below HB.out) (by have := HB.out.size; omega) hy.out.2).mono ?_
        rintro e waq ⟨A2q, c2q, rfl, hown2, hb2⟩
        rw [show nc ⟨y.path, y.kind, ⟨A2q, y.ids.n, c2q⟩⟩ = #[.string ⟨y.path.toArray⟩, .int .i64 y.kind, .slice A2q y.ids.n c2q] from rfl]
        have Maq := hide (M.out.later hb2)
        have hidq := hide (own_weaken (base' := W.heap.size + 1) hown2 M.out.base_le)
        have HBaq := hide (HB.out.trans (hb2.mono HB.out.size))
        have Oaq := O.below hb2 O.lt
        clear hown2 hb2
        have hrowq := Maq.out.own.1.alloc (.cells #[.string ⟨y.path.toArray⟩, .int .i64 y.kind, .slice A2q y.ids.n c2q] 56)
        have hthreeq : Row _ _ 3 _ 1 [.string ⟨y.path.toArray⟩, .int .i64 y.kind, .slice A2q y.ids.n c2q] := Row.three waq ⟨y.path, y.kind, ⟨A2q, y.ids.n, c2q⟩⟩ 56
        have hbsq : W.heap.size + 1 ≤ (waq.alloc (.cells #[.string ⟨y.path.toArray⟩, .int .i64 y.kind, .slice A2q y.ids.n c2q] 56)).heap.size := by have := Maq.out.base_le; simp; omega
        have HBcq := hide (HBaq.out.alloc (by have := Maq.out.base_le; omega) (.cells #[.string ⟨y.path.toArray⟩, .int .i64 y.kind, .slice A2q y.ids.n c2q] 56))
        have Ocq := Oaq.alloc (.cells #[.string ⟨y.path.toArray⟩, .int .i64 y.kind, .slice A2q y.ids.n c2q] 56)
        have hlOq := Oaq.lt
        have hscq : (waq.alloc (.cells #[.string ⟨y.path.toArray⟩, .int .i64 y.kind, .slice A2q y.ids.n c2q] 56)).heap.size = waq.heap.size + 1 := by simp
        obtain ⟨wcq, hwcq⟩ : ∃ wc, waq.alloc (.cells #[.string ⟨y.path.toArray⟩, .int .i64 y.kind, .slice A2q y.ids.n c2q] 56) = wc := ⟨_, rfl⟩
        rw [hwcq] at hrowq hthreeq hbsq HBcq hscq Ocq
        have neOq : some W.heap.size ≠ blk A' := fun e => by have := (hrowq.lt W.heap.size (by rw [ownBlock_slice]; exact e.symm)).1; omega
        go_wp2_with (first | (at_builtin; refine wpList_append_rd rfl _ _ _ rfl nmTy (base := W.heap.size + 1) rfl hrowq rfl hthreeq (by simp [Value.oneCell']) (by unfold maxLen; omega) (by omega) hbsq ?_; intro A3q c3q wbq hown3 hg3 hat3; rw [show nmv L ++ [.string ⟨y.path.toArray⟩, .int .i64 y.kind, .slice A2q y.ids.n c2q] = nmv (L ++ [⟨y.path, y.kind, ⟨A2q, y.ids.n, c2q⟩⟩]) from nmv_snoc L ⟨y.path, y.kind, ⟨A2q, y.ids.n, c2q⟩⟩] at hown3; have HBq := hide (HBcq.out.grown hg3 (by have := Maq.out.base_le; omega) (fun k hk => by have := (hrowq.lt k (by rw [ownBlock_slice]; exact hk)).1; omega)); have Oq := Ocq.grown hg3 neOq; rw [← hwcq] at hg3; have Mq := hide (Maq.out.more (Below.refl _ _) (x := ⟨y.path, y.kind, ⟨A2q, y.ids.n, c2q⟩⟩) hy.out hidq.out _ hown3 hg3); have hatq : blk A3q = blk A' ∨ blk A3q = some wcq.heap.size := hat3; clear hown3 hg3 hat3 hrowq hthreeq) | fail)
        go_roundw
        case rel => exact ⟨k + 1, m + 1, _, _, _, by go_num, rfl, by omega, by omega, Oq, by rw [HF.out]; exact Mq, HBq⟩
        case measure => simp [intOf]; omega
      | true =>
        by_cases hm0 : m = 0
        · subst hm0
          have HF := hide (HC.out hgt (fun z hz => by rw [List.eq_nil_of_length_eq_zero HFM.out] at hz; cases hz))
          clear HA HC HD
          refine takeB 4 rfl (by kernel_rfl) (fun _ _ _ h => h) (by rfl) (by intro w' hg; go_simp; try with_reducible rfl) ?_
          refine takeB 5 rfl (by kernel_rfl) (fun _ _ _ h => h) (by rfl) (by intro w' hg; go_simp; try with_reducible rfl) ?_
          refine takeB 6 rfl (by kernel_rfl) (fun _ _ _ h => h) (by kernel_rfl) (by intro w' hg; go_simp; try with_reducible rfl) ?_
          refine takeB 7 rfl (by kernel_rfl) (fun _ _ _ h => h) (by kernel_rfl) (by intro w' hg; go_simp; try with_reducible rfl) ?_
          refine takeB 8 rfl (by kernel_rfl) (fun _ _ _ h => h) (by kernel_rfl) (by intro w' hg; go_simp; try with_reducible rfl) ?_
          refine takeB 9 rfl (by kernel_rfl) (fun _ _ _ h => h) (by kernel_rfl) (by intro w' hg; go_simp; try with_reducible rfl) ?_
          refine skipB 10 rfl (by kernel_rfl) (fun _ _ _ h => h) (by kernel_rfl) ?_
          refine skipB 11 rfl (by kernel_rfl) (fun _ _ _ h => h) (by kernel_rfl) ?_
          refine skipB 12 rfl (by kernel_rfl) (fun _ _ _ h => h) (by kernel_rfl) ?_
          refine skipB 13 rfl (by kernel_rfl) (fun _ _ _ h => h) (by kernel_rfl) ?_
          refine skipB 14 rfl (by kernel_rfl) (fun _ _ _ h => h) (by kernel_rfl) ?_
          refine skipB 15 rfl (by kernel_rfl) (fun _ _ _ h => h) (by kernel_rfl) ?_
          refine skipB 16 rfl (by kernel_rfl) (fun _ _ _ h => h) (by kernel_rfl) ?_
          refine skipB 17 rfl (by kernel_rfl) (fun _ _ _ h => h) (by kernel_rfl) ?_
          refine skipB 18 rfl (by kernel_rfl) (fun _ _ _ h => h) (by kernel_rfl) ?_
          refine skipB 19 rfl (by kernel_rfl) (fun _ _ _ h => h) (by kernel_rfl) ?_
          refine takeB 20 rfl (by kernel_rfl) (fun _ _ _ h => h) (by kernel_rfl) (by intro w' hg; go_simp; try with_reducible rfl) ?_
          refine takeB 21 rfl (by kernel_rfl) (fun _ _ _ h => h) (by rfl) (by intro w' hg; go_simp; try with_reducible rfl) ?_
          refine doneB (by kernel_rfl) ?_
          go_simp
          go_wp2_with (first | (refine load_nm rfl _ rfl rfl O ?_) | fail)
          refine (copiedIs_any x W.heap.size I _ (HI.out.below HB.out) (by have := HB.out.size; omega) HX.out.2).mono ?_
          rintro e wap ⟨A2p, c2p, rfl, hown2, hb2⟩
          rw [show nc ⟨x.path, x.kind, ⟨A2p, x.ids.n, c2p⟩⟩ = #[.string ⟨x.path.toArray⟩, .int .i64 x.kind, .slice A2p x.ids.n c2p] from rfl]
          have Map := hide (M.out.later hb2)
          have hidp := hide (own_weaken (base' := W.heap.size + 1) hown2 M.out.base_le)
          have HBap := hide (HB.out.trans (hb2.mono HB.out.size))
          have Oap := O.below hb2 O.lt
          have Nap := N.below hb2 N.lt
          clear hown2 hb2
          have hrowp := Map.out.own.1.alloc (.cells #[.string ⟨x.path.toArray⟩, .int .i64 x.kind, .slice A2p x.ids.n c2p] 56)
          have hthreep : Row _ _ 3 _ 1 [.string ⟨x.path.toArray⟩, .int .i64 x.kind, .slice A2p x.ids.n c2p] := Row.three wap ⟨x.path, x.kind, ⟨A2p, x.ids.n, c2p⟩⟩ 56
          have hbsp : W.heap.size + 1 ≤ (wap.alloc (.cells #[.string ⟨x.path.toArray⟩, .int .i64 x.kind, .slice A2p x.ids.n c2p] 56)).heap.size := by have := Map.out.base_le; simp; omega
          have HBcp := hide (HBap.out.alloc (by have := Map.out.base_le; omega) (.cells #[.string ⟨x.path.toArray⟩, .int .i64 x.kind, .slice A2p x.ids.n c2p] 56))
          have Ocp := Oap.alloc (.cells #[.string ⟨x.path.toArray⟩, .int .i64 x.kind, .slice A2p x.ids.n c2p] 56)
          have hlOp := Oap.lt
          have Ncp := Nap.alloc (.cells #[.string ⟨x.path.toArray⟩, .int .i64 x.kind, .slice A2p x.ids.n c2p] 56)
          have hlNp := Nap.lt
          have hscp : (wap.alloc (.cells #[.string ⟨x.path.toArray⟩, .int .i64 x.kind, .slice A2p x.ids.n c2p] 56)).heap.size = wap.heap.size + 1 := by simp
          obtain ⟨wcp, hwcp⟩ : ∃ wc, wap.alloc (.cells #[.string ⟨x.path.toArray⟩, .int .i64 x.kind, .slice A2p x.ids.n c2p] 56) = wc := ⟨_, rfl⟩
          rw [hwcp] at hrowp hthreep hbsp HBcp hscp Ocp Ncp
          have neOp : some W.heap.size ≠ blk A' := fun e => by have := (hrowp.lt W.heap.size (by rw [ownBlock_slice]; exact e.symm)).1; omega
          have neNp : some g ≠ blk A' := hne
          go_wp2_with (first | (at_builtin; refine wpList_append_rd rfl _ _ _ rfl nmTy (base := W.heap.size + 1) rfl hrowp rfl hthreep (by simp [Value.oneCell']) (by unfold maxLen; omega) (by omega) hbsp ?_; intro A3p c3p wbp hown3 hg3 hat3; rw [show nmv L ++ [.string ⟨x.path.toArray⟩, .int .i64 x.kind, .slice A2p x.ids.n c2p] = nmv (L ++ [⟨x.path, x.kind, ⟨A2p, x.ids.n, c2p⟩⟩]) from nmv_snoc L ⟨x.path, x.kind, ⟨A2p, x.ids.n, c2p⟩⟩] at hown3; have HBp := hide (HBcp.out.grown hg3 (by have := Map.out.base_le; omega) (fun k hk => by have := (hrowp.lt k (by rw [ownBlock_slice]; exact hk)).1; omega)); have Op := Ocp.grown hg3 neOp; have Np := Ncp.grown hg3 neNp; rw [← hwcp] at hg3; have Mp := hide (Map.out.more (Below.refl _ _) (x := ⟨x.path, x.kind, ⟨A2p, x.ids.n, c2p⟩⟩) HX.out hidp.out _ hown3 hg3); have hatp : blk A3p = blk A' ∨ blk A3p = some wcp.heap.size := hat3; clear hown3 hg3 hat3 hrowp hthreep) | (refine load_nm rfl _ rfl rfl Np ?_) | fail)
          have hne2 : some g ≠ blk A3p := fun e => by
            rcases hatp with h | h
            · exact hne (e.trans h)
            · rw [h] at e; injection e with e; omega
          refine (copiedIs_any y W.heap.size II _ (HIW.out.below HBp.out) (by have := HBp.out.size; omega) hy.out.2).mono ?_
          rintro e waq ⟨A2q, c2q, rfl, hown2, hb2⟩
          rw [show nc ⟨y.path, y.kind, ⟨A2q, y.ids.n, c2q⟩⟩ = #[.string ⟨y.path.toArray⟩, .int .i64 y.kind, .slice A2q y.ids.n c2q] from rfl]
          have Maq := hide (Mp.out.later hb2)
          have hidq := hide (own_weaken (base' := W.heap.size + 1) hown2 Mp.out.base_le)
          have HBaq := hide (HBp.out.trans (hb2.mono HBp.out.size))
          have Opaq := Op.below hb2 Op.lt
          clear hown2 hb2
          have hrowq := Maq.out.own.1.alloc (.cells #[.string ⟨y.path.toArray⟩, .int .i64 y.kind, .slice A2q y.ids.n c2q] 56)
          have hthreeq : Row _ _ 3 _ 1 [.string ⟨y.path.toArray⟩, .int .i64 y.kind, .slice A2q y.ids.n c2q] := Row.three waq ⟨y.path, y.kind, ⟨A2q, y.ids.n, c2q⟩⟩ 56
          have hbsq : W.heap.size + 1 ≤ (waq.alloc (.cells #[.string ⟨y.path.toArray⟩, .int .i64 y.kind, .slice A2q y.ids.n c2q] 56)).heap.size := by have := Maq.out.base_le; simp; omega
          have HBcq := hide (HBaq.out.alloc (by have := Maq.out.base_le; omega) (.cells #[.string ⟨y.path.toArray⟩, .int .i64 y.kind, .slice A2q y.ids.n c2q] 56))
          have Opcq := Opaq.alloc (.cells #[.string ⟨y.path.toArray⟩, .int .i64 y.kind, .slice A2q y.ids.n c2q] 56)
          have hlOpq := Opaq.lt
          have hscq : (waq.alloc (.cells #[.string ⟨y.path.toArray⟩, .int .i64 y.kind, .slice A2q y.ids.n c2q] 56)).heap.size = waq.heap.size + 1 := by simp
          obtain ⟨wcq, hwcq⟩ : ∃ wc, waq.alloc (.cells #[.string ⟨y.path.toArray⟩, .int .i64 y.kind, .slice A2q y.ids.n c2q] 56) = wc := ⟨_, rfl⟩
          rw [hwcq] at hrowq hthreeq hbsq HBcq hscq Opcq
          have neOpq : some W.heap.size ≠ blk A3p := fun e => by have := (hrowq.lt W.heap.size (by rw [ownBlock_slice]; exact e.symm)).1; omega
          go_wp2_with (first | (at_builtin; refine wpList_append_rd rfl _ _ _ rfl nmTy (base := W.heap.size + 1) rfl hrowq rfl hthreeq (by simp [Value.oneCell']) (by unfold maxLen; omega) (by omega) hbsq ?_; intro A3q c3q wbq hown3 hg3 hat3; rw [show nmv (L ++ [⟨x.path, x.kind, ⟨A2p, x.ids.n, c2p⟩⟩]) ++ [.string ⟨y.path.toArray⟩, .int .i64 y.kind, .slice A2q y.ids.n c2q] = nmv ((L ++ [⟨x.path, x.kind, ⟨A2p, x.ids.n, c2p⟩⟩]) ++ [⟨y.path, y.kind, ⟨A2q, y.ids.n, c2q⟩⟩]) from nmv_snoc (L ++ [⟨x.path, x.kind, ⟨A2p, x.ids.n, c2p⟩⟩]) ⟨y.path, y.kind, ⟨A2q, y.ids.n, c2q⟩⟩] at hown3; have HBq := hide (HBcq.out.grown hg3 (by have := Maq.out.base_le; omega) (fun k hk => by have := (hrowq.lt k (by rw [ownBlock_slice]; exact hk)).1; omega)); have Opq := Opcq.grown hg3 neOpq; rw [← hwcq] at hg3; have Mq := hide (Maq.out.more (Below.refl _ _) (x := ⟨y.path, y.kind, ⟨A2q, y.ids.n, c2q⟩⟩) hy.out hidq.out _ hown3 hg3); have hatq : blk A3q = blk A3p ∨ blk A3q = some wcq.heap.size := hat3; clear hown3 hg3 hat3 hrowq hthreeq) | fail)
          go_roundw
          case rel => exact ⟨k + 1, 2, _, _, _, by go_num, rfl, by omega, by omega, Opq, by rw [HF.out]; exact Mq, HBq⟩
          case measure => simp [intOf]; omega
        · obtain ⟨b2, p, hpE, hA2, hb2l, hp⟩ := HJ.out (by omega)
          subst hA2
          obtain ⟨q, rfl⟩ : ∃ q, m = q + 1 := ⟨m - 1, by omega⟩
          rw [Nat.add_sub_cancel] at hp
          have hpq : p = (⟨(F[q]'(by have := HFM.out; omega)).path.toArray⟩ : ByteArray) := hpE (by have := HFM.out; omega)
          have HLT := hide (show Op.bytesLess p.toList sx.toList = true ↔ ∀ z, F.getLast? = some z → Nx.Lt z.path ex.path by
            have hql : F.getLast? = some (F[q]'(by have := HFM.out; omega)) := by rw [List.getLast?_eq_getElem?, show F.length - 1 = q by have := HFM.out; omega, List.getElem?_eq_getElem]
            rw [hpq, ← Hsx.out, Lib.toList_data, Lib.toList_data, hql, ← HEX.out]
            exact ⟨fun h z hz => by cases hz; exact h, fun h => h _ rfl⟩)
          have HFT := hide (fun h : Op.bytesLess p.toList sx.toList = true => HC.out hgt (HLT.out.1 h))
          have HFF := hide (fun h : Op.bytesLess p.toList sx.toList = false => HD.out (fun hz => by rw [HLT.out.2 hz] at h; cases h))
          clear hpE hpq HLT HA HC HD
          have hq1 : ¬ ((q + 1 : Nat) : Int) = 0 := by omega
          have hq2 : (((q + 1 : Nat) : Int) == 0) = false := by simp; omega
          have hcast : ((q + 1 : Nat) : Int) - 1 = (q : Int) := by omega
          have hwr : IntKind.i64.wrap (q : Int) = (q : Int) := IntWalk.i64_in _ (by omega)
          have hq0 : (0 : Int) ≤ (q : Int) := by omega
          have hqn' : (q : Int) < ((q + 1 : Nat) : Int) := by omega
          have hqn2 : (q : Int) < (q : Int) + 1 := by omega
          obtain ⟨gb, hgb⟩ : ∃ gb : Bool, Op.bytesLess p.toList sx.toList = gb := ⟨_, rfl⟩
          refine takeB 4 rfl (by kernel_rfl) (fun _ _ _ h => h) (by rfl) (by intro w' hg; go_simp; try with_reducible rfl) ?_
          refine takeB 5 rfl (by kernel_rfl) (fun _ _ _ h => h) (by rfl) (by intro w' hg; go_simp; try with_reducible rfl) ?_
          refine takeB 6 rfl (by kernel_rfl) (fun _ _ _ h => h) (by kernel_rfl) (by intro w' hg; go_simp; try with_reducible rfl) ?_
          refine takeB 7 rfl (by kernel_rfl) (fun _ _ _ h => h) (by kernel_rfl) (by intro w' hg; go_simp; try with_reducible rfl) ?_
          refine takeB 8 rfl (by kernel_rfl) (fun _ _ _ h => h) (by kernel_rfl) (by intro w' hg; go_simp; try with_reducible rfl) ?_
          refine takeB 9 rfl (by kernel_rfl) (fun _ _ _ h => h) (by kernel_rfl) (by intro w' hg; go_simp; try with_reducible rfl) ?_
          refine takeB 10 rfl (by kernel_rfl) (fun _ _ _ h => h) (by kernel_rfl) (by intro w' hg; go_simp; try with_reducible rfl) ?_
          refine takeB 11 rfl (by kernel_rfl) (fun _ _ _ h => h) (by kernel_rfl) (by intro w' hg; go_simp; try with_reducible rfl) ?_
          refine takeB 12 rfl (by kernel_rfl) (fun _ _ _ h => h) (by kernel_rfl) (by intro w' hg; go_simp; try with_reducible rfl) ?_
          refine takeB 13 rfl (by kernel_rfl) (fun _ _ _ h => h) (by kernel_rfl) (by intro w' hg; go_simp; try with_reducible rfl) ?_
          refine takeB 14 rfl (by kernel_rfl) (fun _ _ _ h => h) (by kernel_rfl) (by intro w' hg; go_simp; try with_reducible rfl) ?_
          refine takeB 15 rfl (by kernel_rfl) (fun _ _ _ h => h) (by kernel_rfl) (by intro w' hg; go_simp; try with_reducible rfl) ?_
          refine takeB 16 rfl (by kernel_rfl) (fun _ _ _ h => h) (by kernel_rfl) (by intro w' hg; have g1 := (hg.cell (p := ⟨b2, q * 3, none⟩) (by show b2 < _; omega)).trans hp; go_simp; try with_reducible rfl) ?_
          refine takeB 17 rfl (by kernel_rfl) (fun _ _ _ h => h) (by kernel_rfl) (by intro w' hg; go_simp; try with_reducible rfl) ?_
          refine takeB 18 rfl (by kernel_rfl) (fun _ _ _ h => h) (by kernel_rfl) (by intro w' hg; have g1 := (hg.cell (p := ⟨W.heap.size, 0, none⟩) (by show W.heap.size < _; omega)).trans dx; go_simp; try with_reducible rfl) ?_
          clear hcast hwr
          cases gb with
          | true =>
            have HF := hide (HFT.out hgb)
            clear HFT HFF
            refine takeB 19 rfl (by kernel_rfl) (fun _ _ _ h => h) (by kernel_rfl) (by intro w' hg; go_simp; try with_reducible rfl) ?_
            refine takeB 20 rfl (by kernel_rfl) (fun _ _ _ h => h) (by kernel_rfl) (by intro w' hg; go_simp; try with_reducible rfl) ?_
            refine takeB 21 rfl (by kernel_rfl) (fun _ _ _ h => h) (by rfl) (by intro w' hg; go_simp; try with_reducible rfl) ?_
            refine doneB (by kernel_rfl) ?_
            go_simp
            go_wp2_with (first | (refine load_nm rfl _ rfl rfl O ?_) | fail)
            refine (copiedIs_any x W.heap.size I _ (HI.out.below HB.out) (by have := HB.out.size; omega) HX.out.2).mono ?_
            rintro e wap ⟨A2p, c2p, rfl, hown2, hb2⟩
            rw [show nc ⟨x.path, x.kind, ⟨A2p, x.ids.n, c2p⟩⟩ = #[.string ⟨x.path.toArray⟩, .int .i64 x.kind, .slice A2p x.ids.n c2p] from rfl]
            have Map := hide (M.out.later hb2)
            have hidp := hide (own_weaken (base' := W.heap.size + 1) hown2 M.out.base_le)
            have HBap := hide (HB.out.trans (hb2.mono HB.out.size))
            have Oap := O.below hb2 O.lt
            have Nap := N.below hb2 N.lt
            clear hown2 hb2
            have hrowp := Map.out.own.1.alloc (.cells #[.string ⟨x.path.toArray⟩, .int .i64 x.kind, .slice A2p x.ids.n c2p] 56)
            have hthreep : Row _ _ 3 _ 1 [.string ⟨x.path.toArray⟩, .int .i64 x.kind, .slice A2p x.ids.n c2p] := Row.three wap ⟨x.path, x.kind, ⟨A2p, x.ids.n, c2p⟩⟩ 56
            have hbsp : W.heap.size + 1 ≤ (wap.alloc (.cells #[.string ⟨x.path.toArray⟩, .int .i64 x.kind, .slice A2p x.ids.n c2p] 56)).heap.size := by have := Map.out.base_le; simp; omega
            have HBcp := hide (HBap.out.alloc (by have := Map.out.base_le; omega) (.cells #[.string ⟨x.path.toArray⟩, .int .i64 x.kind, .slice A2p x.ids.n c2p] 56))
            have Ocp := Oap.alloc (.cells #[.string ⟨x.path.toArray⟩, .int .i64 x.kind, .slice A2p x.ids.n c2p] 56)
            have hlOp := Oap.lt
            have Ncp := Nap.alloc (.cells #[.string ⟨x.path.toArray⟩, .int .i64 x.kind, .slice A2p x.ids.n c2p] 56)
            have hlNp := Nap.lt
            have hscp : (wap.alloc (.cells #[.string ⟨x.path.toArray⟩, .int .i64 x.kind, .slice A2p x.ids.n c2p] 56)).heap.size = wap.heap.size + 1 := by simp
            obtain ⟨wcp, hwcp⟩ : ∃ wc, wap.alloc (.cells #[.string ⟨x.path.toArray⟩, .int .i64 x.kind, .slice A2p x.ids.n c2p] 56) = wc := ⟨_, rfl⟩
            rw [hwcp] at hrowp hthreep hbsp HBcp hscp Ocp Ncp
            have neOp : some W.heap.size ≠ blk (some ⟨b2, 0, none⟩) := fun e => by have := (hrowp.lt W.heap.size (by rw [ownBlock_slice]; exact e.symm)).1; omega
            have neNp : some g ≠ blk (some ⟨b2, 0, none⟩) := hne
            go_wp2_with (first | (at_builtin; refine wpList_append_rd rfl _ _ _ rfl nmTy (base := W.heap.size + 1) rfl hrowp rfl hthreep (by simp [Value.oneCell']) (by unfold maxLen; omega) (by omega) hbsp ?_; intro A3p c3p wbp hown3 hg3 hat3; rw [show nmv L ++ [.string ⟨x.path.toArray⟩, .int .i64 x.kind, .slice A2p x.ids.n c2p] = nmv (L ++ [⟨x.path, x.kind, ⟨A2p, x.ids.n, c2p⟩⟩]) from nmv_snoc L ⟨x.path, x.kind, ⟨A2p, x.ids.n, c2p⟩⟩] at hown3; have HBp := hide (HBcp.out.grown hg3 (by have := Map.out.base_le; omega) (fun k hk => by have := (hrowp.lt k (by rw [ownBlock_slice]; exact hk)).1; omega)); have Op := Ocp.grown hg3 neOp; have Np := Ncp.grown hg3 neNp; rw [← hwcp] at hg3; have Mp := hide (Map.out.more (Below.refl _ _) (x := ⟨x.path, x.kind, ⟨A2p, x.ids.n, c2p⟩⟩) HX.out hidp.out _ hown3 hg3); have hatp : blk A3p = blk (some ⟨b2, 0, none⟩) ∨ blk A3p = some wcp.heap.size := hat3; clear hown3 hg3 hat3 hrowp hthreep) | (refine load_nm rfl _ rfl rfl Np ?_) | fail)
            have hne2 : some g ≠ blk A3p := fun e => by
              rcases hatp with h | h
              · exact hne (e.trans h)
              · rw [h] at e; injection e with e; omega
            refine (copiedIs_any y W.heap.size II _ (HIW.out.below HBp.out) (by have := HBp.out.size; omega) hy.out.2).mono ?_
            rintro e waq ⟨A2q, c2q, rfl, hown2, hb2⟩
            rw [show nc ⟨y.path, y.kind, ⟨A2q, y.ids.n, c2q⟩⟩ = #[.string ⟨y.path.toArray⟩, .int .i64 y.kind, .slice A2q y.ids.n c2q] from rfl]
            have Maq := hide (Mp.out.later hb2)
            have hidq := hide (own_weaken (base' := W.heap.size + 1) hown2 Mp.out.base_le)
            have HBaq := hide (HBp.out.trans (hb2.mono HBp.out.size))
            have Opaq := Op.below hb2 Op.lt
            clear hown2 hb2
            have hrowq := Maq.out.own.1.alloc (.cells #[.string ⟨y.path.toArray⟩, .int .i64 y.kind, .slice A2q y.ids.n c2q] 56)
            have hthreeq : Row _ _ 3 _ 1 [.string ⟨y.path.toArray⟩, .int .i64 y.kind, .slice A2q y.ids.n c2q] := Row.three waq ⟨y.path, y.kind, ⟨A2q, y.ids.n, c2q⟩⟩ 56
            have hbsq : W.heap.size + 1 ≤ (waq.alloc (.cells #[.string ⟨y.path.toArray⟩, .int .i64 y.kind, .slice A2q y.ids.n c2q] 56)).heap.size := by have := Maq.out.base_le; simp; omega
            have HBcq := hide (HBaq.out.alloc (by have := Maq.out.base_le; omega) (.cells #[.string ⟨y.path.toArray⟩, .int .i64 y.kind, .slice A2q y.ids.n c2q] 56))
            have Opcq := Opaq.alloc (.cells #[.string ⟨y.path.toArray⟩, .int .i64 y.kind, .slice A2q y.ids.n c2q] 56)
            have hlOpq := Opaq.lt
            have hscq : (waq.alloc (.cells #[.string ⟨y.path.toArray⟩, .int .i64 y.kind, .slice A2q y.ids.n c2q] 56)).heap.size = waq.heap.size + 1 := by simp
            obtain ⟨wcq, hwcq⟩ : ∃ wc, waq.alloc (.cells #[.string ⟨y.path.toArray⟩, .int .i64 y.kind, .slice A2q y.ids.n c2q] 56) = wc := ⟨_, rfl⟩
            rw [hwcq] at hrowq hthreeq hbsq HBcq hscq Opcq
            have neOpq : some W.heap.size ≠ blk A3p := fun e => by have := (hrowq.lt W.heap.size (by rw [ownBlock_slice]; exact e.symm)).1; omega
            go_wp2_with (first | (at_builtin; refine wpList_append_rd rfl _ _ _ rfl nmTy (base := W.heap.size + 1) rfl hrowq rfl hthreeq (by simp [Value.oneCell']) (by unfold maxLen; omega) (by omega) hbsq ?_; intro A3q c3q wbq hown3 hg3 hat3; rw [show nmv (L ++ [⟨x.path, x.kind, ⟨A2p, x.ids.n, c2p⟩⟩]) ++ [.string ⟨y.path.toArray⟩, .int .i64 y.kind, .slice A2q y.ids.n c2q] = nmv ((L ++ [⟨x.path, x.kind, ⟨A2p, x.ids.n, c2p⟩⟩]) ++ [⟨y.path, y.kind, ⟨A2q, y.ids.n, c2q⟩⟩]) from nmv_snoc (L ++ [⟨x.path, x.kind, ⟨A2p, x.ids.n, c2p⟩⟩]) ⟨y.path, y.kind, ⟨A2q, y.ids.n, c2q⟩⟩] at hown3; have HBq := hide (HBcq.out.grown hg3 (by have := Maq.out.base_le; omega) (fun k hk => by have := (hrowq.lt k (by rw [ownBlock_slice]; exact hk)).1; omega)); have Opq := Opcq.grown hg3 neOpq; rw [← hwcq] at hg3; have Mq := hide (Maq.out.more (Below.refl _ _) (x := ⟨y.path, y.kind, ⟨A2q, y.ids.n, c2q⟩⟩) hy.out hidq.out _ hown3 hg3); have hatq : blk A3q = blk A3p ∨ blk A3q = some wcq.heap.size := hat3; clear hown3 hg3 hat3 hrowq hthreeq) | fail)
            go_roundw
            case rel => exact ⟨k + 1, q + 1 + 1 + 1, _, _, _, by go_num, rfl, by omega, by omega, Opq, by rw [HF.out]; exact Mq, HBq⟩
            case measure => simp [intOf]; omega
          | false =>
            have HF := hide (HFF.out hgb)
            clear HFT HFF
            refine takeB 19 rfl (by kernel_rfl) (fun _ _ _ h => h) (by kernel_rfl) (by intro w' hg; go_simp; try with_reducible rfl) ?_
            refine takeB 20 rfl (by kernel_rfl) (fun _ _ _ h => h) (by kernel_rfl) (by intro w' hg; go_simp; try with_reducible rfl) ?_
            refine takeB 21 rfl (by kernel_rfl) (fun _ _ _ h => h) (by rfl) (by intro w' hg; go_simp; try with_reducible rfl) ?_
            refine doneB (by kernel_rfl) ?_
            go_simp
            go_wp2_with (first | (refine load_nm rfl _ rfl rfl N ?_) | fail)
            refine (copiedIs_any y W.heap.size II _ (HIW.out.below HB.out) (by have := HB.out.size; omega) hy.out.2).mono ?_
            rintro e waq ⟨A2q, c2q, rfl, hown2, hb2⟩
            rw [show nc ⟨y.path, y.kind, ⟨A2q, y.ids.n, c2q⟩⟩ = #[.string ⟨y.path.toArray⟩, .int .i64 y.kind, .slice A2q y.ids.n c2q] from rfl]
            have Maq := hide (M.out.later hb2)
            have hidq := hide (own_weaken (base' := W.heap.size + 1) hown2 M.out.base_le)
            have HBaq := hide (HB.out.trans (hb2.mono HB.out.size))
            have Oaq := O.below hb2 O.lt
            clear hown2 hb2
            have hrowq := Maq.out.own.1.alloc (.cells #[.string ⟨y.path.toArray⟩, .int .i64 y.kind, .slice A2q y.ids.n c2q] 56)
            have hthreeq : Row _ _ 3 _ 1 [.string ⟨y.path.toArray⟩, .int .i64 y.kind, .slice A2q y.ids.n c2q] := Row.three waq ⟨y.path, y.kind, ⟨A2q, y.ids.n, c2q⟩⟩ 56
            have hbsq : W.heap.size + 1 ≤ (waq.alloc (.cells #[.string ⟨y.path.toArray⟩, .int .i64 y.kind, .slice A2q y.ids.n c2q] 56)).heap.size := by have := Maq.out.base_le; simp; omega
            have HBcq := hide (HBaq.out.alloc (by have := Maq.out.base_le; omega) (.cells #[.string ⟨y.path.toArray⟩, .int .i64 y.kind, .slice A2q y.ids.n c2q] 56))
            have Ocq := Oaq.alloc (.cells #[.string ⟨y.path.toArray⟩, .int .i64 y.kind, .slice A2q y.ids.n c2q] 56)
            have hlOq := Oaq.lt
            have hscq : (waq.alloc (.cells #[.string ⟨y.path.toArray⟩, .int .i64 y.kind, .slice A2q y.ids.n c2q] 56)).heap.size = waq.heap.size + 1 := by simp
            obtain ⟨wcq, hwcq⟩ : ∃ wc, waq.alloc (.cells #[.string ⟨y.path.toArray⟩, .int .i64 y.kind, .slice A2q y.ids.n c2q] 56) = wc := ⟨_, rfl⟩
            rw [hwcq] at hrowq hthreeq hbsq HBcq hscq Ocq
            have neOq : some W.heap.size ≠ blk (some ⟨b2, 0, none⟩) := fun e => by have := (hrowq.lt W.heap.size (by rw [ownBlock_slice]; exact e.symm)).1; omega
            go_wp2_with (first | (at_builtin; refine wpList_append_rd rfl _ _ _ rfl nmTy (base := W.heap.size + 1) rfl hrowq rfl hthreeq (by simp [Value.oneCell']) (by unfold maxLen; omega) (by omega) hbsq ?_; intro A3q c3q wbq hown3 hg3 hat3; rw [show nmv L ++ [.string ⟨y.path.toArray⟩, .int .i64 y.kind, .slice A2q y.ids.n c2q] = nmv (L ++ [⟨y.path, y.kind, ⟨A2q, y.ids.n, c2q⟩⟩]) from nmv_snoc L ⟨y.path, y.kind, ⟨A2q, y.ids.n, c2q⟩⟩] at hown3; have HBq := hide (HBcq.out.grown hg3 (by have := Maq.out.base_le; omega) (fun k hk => by have := (hrowq.lt k (by rw [ownBlock_slice]; exact hk)).1; omega)); have Oq := Ocq.grown hg3 neOq; rw [← hwcq] at hg3; have Mq := hide (Maq.out.more (Below.refl _ _) (x := ⟨y.path, y.kind, ⟨A2q, y.ids.n, c2q⟩⟩) hy.out hidq.out _ hown3 hg3); have hatq : blk A3q = blk (some ⟨b2, 0, none⟩) ∨ blk A3q = some wcq.heap.size := hat3; clear hown3 hg3 hat3 hrowq hthreeq) | fail)
            go_roundw
            case rel => exact ⟨k + 1, q + 1 + 1, _, _, _, by go_num, rfl, by omega, by omega, Oq, by rw [HF.out]; exact Mq, HBq⟩
            case measure => simp [intOf]; omega
    · obtain rfl : k = n := by omega
      have hmn' : m ≤ 2 * k := hm
      by_cases hmn : m = k
      case neg =>
        have e1 : ((m : Int) == (k : Int)) = false := by simp; omega
        have e2 : ¬ (m : Int) = (k : Int) := by omega
        go_wp2_with fail
        go_ret
        exact ⟨A', m, c', L, rfl, by omega, by rw [show Nx.insertL E ex = Nx.outs E ex k from by unfold Nx.insertL; rw [HE1.out, if_neg (fun h => hmn (by have := M.out.has.1; have := M.out.own.nms.1; omega))]]; exact M.out, HB.out⟩
      subst hmn
      have HIN : Hid (Nx.insertL E ex = Nx.outs E ex m ++ [⟨x.path, x.kind, I⟩]) := hide (by unfold Nx.insertL; rw [HE1.out, if_pos (by have := M.out.has.1; have := M.out.own.nms.1; omega), HEX.out])
      go_wp2_with (first | (refine load_nm rfl _ rfl rfl O ?_) | fail)
      refine (copiedIs_any x W.heap.size I _ (HI.out.below HB.out) (by have := HB.out.size; omega) HX.out.2).mono ?_
      rintro e waE ⟨A2E, c2E, rfl, hown2, hb2⟩
      rw [show nc ⟨x.path, x.kind, ⟨A2E, x.ids.n, c2E⟩⟩ = #[.string ⟨x.path.toArray⟩, .int .i64 x.kind, .slice A2E x.ids.n c2E] from rfl]
      have MaE := hide (M.out.later hb2)
      have hidE := hide (own_weaken (base' := W.heap.size + 1) hown2 M.out.base_le)
      have HBaE := hide (HB.out.trans (hb2.mono HB.out.size))
      clear hown2 hb2
      have hrowE := MaE.out.own.1.alloc (.cells #[.string ⟨x.path.toArray⟩, .int .i64 x.kind, .slice A2E x.ids.n c2E] 56)
      have hthreeE : Row _ _ 3 _ 1 [.string ⟨x.path.toArray⟩, .int .i64 x.kind, .slice A2E x.ids.n c2E] := Row.three waE ⟨x.path, x.kind, ⟨A2E, x.ids.n, c2E⟩⟩ 56
      have hbsE : W.heap.size + 1 ≤ (waE.alloc (.cells #[.string ⟨x.path.toArray⟩, .int .i64 x.kind, .slice A2E x.ids.n c2E] 56)).heap.size := by have := MaE.out.base_le; simp; omega
      have HBcE := hide (HBaE.out.alloc (by have := MaE.out.base_le; omega) (.cells #[.string ⟨x.path.toArray⟩, .int .i64 x.kind, .slice A2E x.ids.n c2E] 56))
      have hscE : (waE.alloc (.cells #[.string ⟨x.path.toArray⟩, .int .i64 x.kind, .slice A2E x.ids.n c2E] 56)).heap.size = waE.heap.size + 1 := by simp
      obtain ⟨wcE, hwcE⟩ : ∃ wc, waE.alloc (.cells #[.string ⟨x.path.toArray⟩, .int .i64 x.kind, .slice A2E x.ids.n c2E] 56) = wc := ⟨_, rfl⟩
      rw [hwcE] at hrowE hthreeE hbsE HBcE hscE 
      go_wp2_with (first | (at_builtin; refine wpList_append_rd rfl _ _ _ rfl nmTy (base := W.heap.size + 1) rfl hrowE rfl hthreeE (by simp [Value.oneCell']) (by unfold maxLen; omega) (by omega) hbsE ?_; intro A3E c3E wbE hown3 hg3 hat3; rw [show nmv L ++ [.string ⟨x.path.toArray⟩, .int .i64 x.kind, .slice A2E x.ids.n c2E] = nmv (L ++ [⟨x.path, x.kind, ⟨A2E, x.ids.n, c2E⟩⟩]) from nmv_snoc L ⟨x.path, x.kind, ⟨A2E, x.ids.n, c2E⟩⟩] at hown3; have HBE := hide (HBcE.out.grown hg3 (by have := MaE.out.base_le; omega) (fun k hk => by have := (hrowE.lt k (by rw [ownBlock_slice]; exact hk)).1; omega)); rw [← hwcE] at hg3; have ME := hide (MaE.out.more (Below.refl _ _) (x := ⟨x.path, x.kind, ⟨A2E, x.ids.n, c2E⟩⟩) HX.out hidE.out _ hown3 hg3); have hatE : blk A3E = blk A' ∨ blk A3E = some wcE.heap.size := hat3; clear hown3 hg3 hat3 hrowE hthreeE) | fail)
      go_ret
      exact ⟨A3E, m + 1, c3E, _, rfl, by omega, by rw [HIN.out]; exact ME.out, HBE.out⟩
theorem insert_any (A : Option Addr) (n c : Nat) (l : List Nm) (x : Nm) (I : List Int) (W : World) (hl : Nms W W.heap.size A n l) (hs : Short l) (hn : n ≤ 1000) (hx : x.path.length ≤ 1000 ∧ x.ids.n ≤ 1000) (hI : Nums .u64 W W.heap.size x.ids.A x.ids.n I) : Calls Try.prog 52 #[.slice A n c, .agg (nc x)] W (InsPost n W) := by
  obtain ⟨E, hE⟩ := hl.ents
  exact (refInsert_any A n c l E x I W hE hs hn hx hI).mono fun _ _ ⟨A', n', c', l', he, h1, h2, h3⟩ => ⟨A', n', c', l', he, h1, h2.plain, h3⟩
end Go.Proofs.Ytddbohnappogkaa
namespace Go.Proofs.Ytddbohnappogkaa
open Go.RowKit

/-- The name space with other entries, or nothing and an error. -/
def AddPost (o : Ob) (w : World) (e : Ending) (w' : World) : Prop :=
  (∃ A n c l, e = .returned (.tuple #[.agg (oc { o with names := ⟨A, n, c⟩ }), .int .i64 0]) ∧ n ≤ 2 * o.names.n + 1 ∧ NmOut w' (w.heap.size + 1) A n c l ∧ Below w.heap.size w w') ∨
  (∃ r, r ≠ 0 ∧ e = .returned (.tuple #[.agg (oc Ob.zero), .int .i64 r]) ∧ Below w.heap.size w w')
theorem NmOut.weaken {w : World} {base base' n c : Nat} {A : Option Addr} {l : List Nm} (h : NmOut w base A n c l) (hb : base' ≤ base) : NmOut w base' A n c l :=
  ⟨⟨own_weaken h.own.1 hb, fun x hx => (h.own.2 x hx).imp fun _ h => own_weaken h hb⟩, h.short, Nat.le_trans hb h.base_le⟩
theorem NmOut.keep {w w' : World} {base n c : Nat} {A : Option Addr} {l : List Nm} (h : NmOut w base A n c l) (hk : ∀ g, base ≤ g → g < w.heap.size → w'.heap[g]? = w.heap[g]?) (hs : w.heap.size ≤ w'.heap.size) : NmOut w' base A n c l := ⟨h.own.keep hk, h.short, Nat.le_trans h.base_le hs⟩
theorem Has.weaken {w : World} {base base' : Nat} {l : List Nm} {F : List Nx.Ent} (h : Has w base l F) (hb : base' ≤ base) : Has w base' l F := ⟨h.1, fun k h1 h2 => ⟨(h.2 k h1 h2).1, (h.2 k h1 h2).2.1, own_weaken (h.2 k h1 h2).2.2 hb⟩⟩
theorem NmOutE.weaken {w : World} {base base' n c : Nat} {A : Option Addr} {l : List Nm} {F : List Nx.Ent} (h : NmOutE w base A n c l F) (hb : base' ≤ base) : NmOutE w base' A n c l F := ⟨(h.plain.weaken hb).own, h.short, (h.plain.weaken hb).base_le, h.has.weaken hb⟩
/-- The error of Add. -/
def Ob.addErr (o : Ob) (E : List Nx.Ent) (x : Nx.Ent) : Int := if o.Names E ∧ x.Ok then (if (Nx.find E x.path).isSome then 7 else if 256 ≤ o.names.n then 9 else 0) else 1
/-- The name space with an entry more, or nothing and the error. -/
def AddIs (o : Ob) (E : List Nx.Ent) (x : Nx.Ent) (w : World) (e : Ending) (w' : World) : Prop :=
  (o.addErr E x = 0 ∧ ∃ A n c l, e = .returned (.tuple #[.agg (oc { o with names := ⟨A, n, c⟩ }), .int .i64 0]) ∧ n ≤ 2 * o.names.n + 1 ∧ NmOutE w' (w.heap.size + 1) A n c l (Nx.insertL E x) ∧ Below w.heap.size w w') ∨
  (o.addErr E x ≠ 0 ∧ e = .returned (.tuple #[.agg (oc Ob.zero), .int .i64 (o.addErr E x)]) ∧ Below w.heap.size w w')
theorem AddIs.no {o : Ob} {E : List Nx.Ent} {x : Nx.Ent} {w w' : World} {r : Int} (h : o.addErr E x = r) (hr : r ≠ 0) (hb : Below w.heap.size w w') : AddIs o E x w (.returned (.tuple #[.agg (oc Ob.zero), .int .i64 r])) w' := .inr ⟨by rw [h]; exact hr, by rw [h], hb⟩
theorem AddIs.post {o : Ob} {E : List Nx.Ent} {x : Nx.Ent} {w w' : World} {e : Ending} (h : AddIs o E x w e w') : AddPost o w e w' := by
  rcases h with ⟨_, A, n, c, l, he, hn, hM, hb⟩ | ⟨h0, he, hb⟩
  · exact .inl ⟨A, n, c, l, he, hn, hM.plain, hb⟩
  · exact .inr ⟨_, h0, he, hb⟩
theorem FindIs.yes {r : Option Nx.Ent} {w w' : World} {e : Ending} (h : FindIs r w e w') : ∃ y, e = .returned (.tuple #[.agg (nc y), .bool r.isSome]) ∧ Below w.heap.size w w' := by
  rcases h with ⟨⟨y, x, hr, he, _⟩ | ⟨hr, he⟩, hb⟩
  · exact ⟨y, by rw [he, hr]; rfl, hb⟩
  · exact ⟨_, by rw [he, hr]; rfl, hb⟩
set_option maxRecDepth 100000 in
set_option maxHeartbeats 8000000 in
theorem refAdd_any (o : Ob) (x : Nm) (l : List Nm) (E : List Nx.Ent) (I : List Int) (W : World) (hl0 : Ents W W.heap.size o.names.A o.names.n l E) (hs : Short l) (hn : o.names.n ≤ 1000) (hx : x.path.length ≤ 1000 ∧ x.ids.n ≤ 1000) (hI : Nums .u64 W W.heap.size x.ids.A x.ids.n I) :
    Calls Try.prog 44 #[.agg (oc o), .agg (nc x)] W (AddIs o E ⟨x.path, x.kind, I⟩ W) := by
  have hl := hl0.nms
  obtain ⟨w1, hw, O, OX, OR, hb, hs1⟩ : ∃ w1, ((W.alloc (.cells (oc o) 41)).alloc (.cells (nc x) 56)).alloc (.cells #[.int .u64 0, .int .i64 0, .int .i64 0, .int .i64 0, .int .u64 0, .slice none 0 0, .slice none 0 0, .slice none 0 0, .int .i64 0, .int .i64 0, .int .i64 0, .int .i64 0, .int .i64 0, .int .i64 0, .int .i64 0, .int .i64 0, .int .i64 0, .int .i64 0,
      .slice none 0 0, .slice none 0 0, .int .i64 0, .int .i64 0, .int .i64 0, .slice none 0 0, .slice none 0 0, .int .i64 0, .int .u64 0, .int .i64 0, .int .i64 0, .slice none 0 0, .slice none 0 0, .slice none 0 0, .int .i64 0, .int .i64 0, .int .i64 0, .slice none 0 0] 41) = w1 ∧
      Obl w1 W.heap.size 41 (oc o) ∧ Obl w1 (W.heap.size + 1) 56 (nc x) ∧ Obl w1 (W.heap.size + 2) 41 (oc Ob.zero) ∧ Below W.heap.size W w1 ∧ w1.heap.size = W.heap.size + 3 := by
    refine ⟨_, rfl, ((Obl.make W _ _).alloc _).alloc _, ?_, ?_, (((Below.refl _ _).alloc (Nat.le_refl _) _).alloc (by simp) _).alloc (by simp; omega) _, by simp⟩
    · have := (Obl.make (W.alloc (.cells (oc o) 41)) 56 (nc x)).alloc (.cells (oc Ob.zero) 41)
      rw [World.size_alloc] at this
      exact this
    · have := Obl.make ((W.alloc (.cells (oc o) 41)).alloc (.cells (nc x) 56)) 41 (oc Ob.zero)
      rw [World.size_alloc, World.size_alloc] at this
      exact this
  have HB := hide hb
  have HL := hide hl
  have HEN := hide hl0
  have HER := hide (show o.addErr E ⟨x.path, x.kind, I⟩ = _ from rfl)
  unfold Ob.addErr at HER
  have HS := hide hs
  have HX := hide hx
  have HI := hide hI
  clear hb hl hl0 hs hx hI
  go_enter Try.func44, Try.ntmps44
  go_wp2_with (first | (refine load_ob rfl _ rfl rfl O ?_) | fail)
  refine (refNames_any o l E _ ((HEN.out.below HB.out).mono HB.out.size) HS.out).mono ?_
  rintro e w2 ⟨rfl, hb2⟩
  obtain ⟨bv, hbv⟩ : ∃ bv, decide (o.Names E) = bv := ⟨_, rfl⟩
  rw [hbv]
  have HBV := hide hbv
  clear hbv
  replace O := O.below hb2 O.lt
  replace OX := OX.below hb2 OX.lt
  replace OR := OR.below hb2 OR.lt
  replace HB := hide (HB.out.trans (hb2.mono HB.out.size))
  clear hb2 hw hs1
  cases bv with
  | false =>
    have HF := hide (show o.addErr E ⟨x.path, x.kind, I⟩ = 1 from if_neg (fun h => of_decide_eq_false HBV.out h.1))
    clear HER
    go_wp2_with (first | (refine store_ob rfl _ _ rfl rfl (c := Ob.zero) rfl OR rfl ?_) | fail)
    refine bodyPost_ret (ret_ob2 rfl _ rfl (OR.row_same (oc Ob.zero))) rfl ?_
    exact AddIs.no HF.out (by decide) (below_row HB.out (by omega) _)
  | true =>
    have HQ := hide (show x.path.length ≤ 9223372036854775807 ∧ x.ids.n ≤ 9223372036854775807 from ⟨by have := HX.out.1; omega, by have := HX.out.2; omega⟩)
    go_wp2_with (first | (refine wpList_val (by rfl) (exec_load_nm rfl rfl OX) ?_) | fail)
    go_at_call 50
    refine (refEntry_any x W.heap.size I _ (HI.out.below HB.out) (by have := HB.out.size; omega) HQ.out.2 HQ.out.1).mono ?_
    rintro e w3 ⟨rfl, hb3⟩
    obtain ⟨eb, heb⟩ : ∃ eb, decide (Nx.Ent.Ok ⟨x.path, x.kind, I⟩) = eb := ⟨_, rfl⟩
    rw [heb]
    have HEB := hide heb
    clear heb
    replace O := O.below hb3 O.lt
    replace OX := OX.below hb3 OX.lt
    replace OR := OR.below hb3 OR.lt
    replace HB := hide (HB.out.trans (hb3.mono HB.out.size))
    clear hb3
    cases eb with
    | false =>
      have HF := hide (show o.addErr E ⟨x.path, x.kind, I⟩ = 1 from if_neg (fun h => of_decide_eq_false HEB.out h.2))
      clear HER
      go_wp2_with (first | (refine store_ob rfl _ _ rfl rfl (c := Ob.zero) rfl OR rfl ?_) | fail)
      refine bodyPost_ret (ret_ob2 rfl _ rfl (OR.row_same (oc Ob.zero))) rfl ?_
      exact AddIs.no HF.out (by decide) (below_row HB.out (by omega) _)
    | true =>
      have HE3 := hide (show o.addErr E ⟨x.path, x.kind, I⟩ = (if (Nx.find E x.path).isSome then 7 else if 256 ≤ o.names.n then 9 else 0) from if_pos ⟨of_decide_eq_true HBV.out, of_decide_eq_true HEB.out⟩)
      have HFD : Hid (o.found E x.path = Nx.find E x.path) := hide (if_pos (of_decide_eq_true HBV.out))
      have HSM := hide (of_decide_eq_true HBV.out).2.2.1
      clear HER HBV HEB
      have kp : w3.cell? ⟨W.heap.size + 1, 0, none⟩ = some (.string ⟨x.path.toArray⟩) := OX.cell 0
      go_wp2_with (first | (refine load_ob rfl _ rfl rfl O ?_) | fail)
      refine (refFind_any o ⟨x.path.toArray⟩ l E _ ((HEN.out.below HB.out).mono HB.out.size) HS.out (by omega)).mono ?_
      rintro e w4 hf4
      obtain ⟨y, rfl, hb4⟩ := hf4.yes
      rw [show o.found E (⟨x.path.toArray⟩ : ByteArray).data.toList = Nx.find E x.path from HFD.out]
      obtain ⟨v, hv⟩ : ∃ v, (Nx.find E x.path).isSome = v := ⟨_, rfl⟩
      rw [hv]
      have HV := hide hv
      clear hv hf4 HFD
      replace O := O.below hb4 O.lt
      replace OX := OX.below hb4 OX.lt
      replace OR := OR.below hb4 OR.lt
      replace HB := hide (HB.out.trans (hb4.mono HB.out.size))
      clear hb4 kp
      obtain ⟨w5, hw5, g, hg, w6, hw6, OZ, ON, hb6, hs6⟩ := start_nm w4 y
      have hgO : W.heap.size + 2 < g := by have := OR.lt; omega
      replace O := O.below hb6 (by omega)
      replace OX := OX.below hb6 (by omega)
      replace OR := OR.below hb6 (by omega)
      replace HB := hide (HB.out.trans (hb6.mono (by omega)))
      clear hb6 ON
      cases v with
      | true =>
        have HF := hide (show o.addErr E ⟨x.path, x.kind, I⟩ = 7 from by rw [HE3.out, HV.out]; rfl)
        clear HE3 HV
        go_wp2_with (first | (refine store_nm rfl _ _ rfl rfl (c := y) rfl OZ rfl ?_; rw [hw6]) | (refine store_ob rfl _ _ rfl rfl (c := Ob.zero) rfl OR rfl ?_) | fail)
        refine bodyPost_ret (ret_ob2 rfl _ rfl (OR.row_same (oc Ob.zero))) rfl ?_
        exact AddIs.no HF.out (by decide) (below_row HB.out (by omega) _)
      | false =>
        have k35 : w6.cell? ⟨W.heap.size, 35, none⟩ = some (.slice o.names.A o.names.n o.names.c) := O.cell 35
        by_cases h256 : 256 ≤ o.names.n
        · have hn1 : (256 : Int) ≤ (o.names.n : Int) := by omega
          have HF := hide (show o.addErr E ⟨x.path, x.kind, I⟩ = 9 from by rw [HE3.out, HV.out, if_neg (by decide), if_pos h256])
          clear HE3 HV
          go_wp2_with (first | (refine store_nm rfl _ _ rfl rfl (c := y) rfl OZ rfl ?_; rw [hw6]) | (refine store_ob rfl _ _ rfl rfl (c := Ob.zero) rfl OR rfl ?_) | fail)
          refine bodyPost_ret (ret_ob2 rfl _ rfl (OR.row_same (oc Ob.zero))) rfl ?_
          exact AddIs.no HF.out (by decide) (below_row HB.out (by omega) _)
        have HF := hide (show o.addErr E ⟨x.path, x.kind, I⟩ = 0 from by rw [HE3.out, HV.out, if_neg (by decide), if_neg h256])
        clear HE3 HV
        have hn1 : ¬ (256 : Int) ≤ (o.names.n : Int) := by omega
        have hn2 : (o.names.n : Int) < 256 := by omega
        go_wp2_with (first | (refine store_nm rfl _ _ rfl rfl (c := y) rfl OZ rfl ?_; rw [hw6]) | (refine load_nm rfl _ rfl rfl OX ?_) | fail)
        clear OZ hw5 hw6 hg
        refine (refInsert_any o.names.A o.names.n o.names.c l E x I _ ((HEN.out.below HB.out).mono HB.out.size) HS.out (by omega) HX.out ((HI.out.below HB.out).mono HB.out.size)).mono ?_
        rintro e w7 ⟨A7, n7, c7, l7, rfl, hn7, hM, hb7⟩
        have O7 := O.below hb7 O.lt
        have OR7 := OR.below hb7 OR.lt
        have HB7 := hide (HB.out.trans (hb7.mono HB.out.size))
        have hs7 := O.lt
        have k7 : w7.cell? ⟨W.heap.size, 35, none⟩ = some (.slice o.names.A o.names.n o.names.c) := O7.cell 35
        have z7 := O7.free 35
        have O8 : Obl (w7.setCell ⟨W.heap.size, 35, none⟩ (.slice A7 n7 c7)) W.heap.size 41 (oc { o with names := ⟨A7, n7, c7⟩ }) := O7.put 35 _
        have OR8 := OR7.put_other (b' := W.heap.size) (by omega) 35 (.slice A7 n7 c7)
        have HB8 := hide (HB7.out.setCell (p := ⟨W.heap.size, 35, none⟩) (Nat.le_refl _) (.slice A7 n7 c7))
        have HM8 := hide ((hM.keep (keep_put (m := W.heap.size) (by omega) 35 (.slice A7 n7 c7)) (by simp [World.setCell])).weaken (base' := W.heap.size + 3) (by have := OR.lt; omega))
        obtain ⟨w8, hw8⟩ : ∃ w8, w7.setCell ⟨W.heap.size, 35, none⟩ (.slice A7 n7 c7) = w8 := ⟨_, rfl⟩
        rw [hw8] at O8 OR8 HB8 HM8
        clear hM hb7 O7 OR7 HB7 O OX OR HB k35
        go_wp2_with (first | (refine load_ob rfl _ rfl rfl O8 ?_) | (refine store_ob rfl _ _ rfl rfl (c := { o with names := ⟨A7, n7, c7⟩ }) rfl OR8 rfl ?_) | fail)
        refine bodyPost_ret (ret_ob2 rfl _ rfl (OR8.row_same (oc { o with names := ⟨A7, n7, c7⟩ }))) rfl ?_
        exact .inl ⟨HF.out, A7, n7, c7, l7, rfl, hn7, (HM8.out.keep (keep_row (m := W.heap.size + 2) (by omega) _) (by simp [World.setRow])).weaken (by omega), below_row HB8.out (by omega) _⟩
theorem add_any (o : Ob) (x : Nm) (l : List Nm) (I : List Int) (W : World) (hl : Nms W W.heap.size o.names.A o.names.n l) (hs : Short l) (hn : o.names.n ≤ 200) (hx : x.path.length ≤ 1000 ∧ x.ids.n ≤ 1000) (hI : Nums .u64 W W.heap.size x.ids.A x.ids.n I) :
    Calls Try.prog 44 #[.agg (oc o), .agg (nc x)] W (AddPost o W) := by
  obtain ⟨E, hE⟩ := hl.ents
  exact (refAdd_any o x l E I W hE hs (by omega) hx hI).mono fun _ _ h => h.post
theorem Ob.addErr_0 {o : Ob} {E : List Nx.Ent} {x : Nx.Ent} (h : o.addErr E x = 0) : o.Names E ∧ x.Ok ∧ Nx.find E x.path = none ∧ o.names.n < 256 := by
  unfold Ob.addErr at h
  split at h
  · rename_i h1
    split at h
    · cases h
    · rename_i h2
      split at h
      · cases h
      · exact ⟨h1.1, h1.2, by simpa using h2, by omega⟩
  · cases h
theorem AddIs.parts {o : Ob} {E : List Nx.Ent} {x : Nx.Ent} {w w' : World} {e : Ending} (h : AddIs o E x w e w') :
    (∃ A n c l, e = .returned (.tuple #[.agg (oc { o with names := ⟨A, n, c⟩ }), .int .i64 0]) ∧ n ≤ 2 * o.names.n + 1 ∧ NmOutE w' (w.heap.size + 1) A n c l (Nx.insertL E x) ∧ Below w.heap.size w w' ∧ Nx.Space (Nx.insertL E x)) ∨
    (∃ r, r ≠ 0 ∧ e = .returned (.tuple #[.agg (oc Ob.zero), .int .i64 r]) ∧ Below w.heap.size w w') := by
  rcases h with ⟨h0, A, n, c, l, he, hn, hM, hb⟩ | ⟨h0, he, hb⟩
  · obtain ⟨h1, h2, h3, _⟩ := Ob.addErr_0 h0
    exact .inl ⟨A, n, c, l, he, hn, hM, hb, by rw [Nx.insertL_eq (Nx.asc_of_space h1.2.2.2.1) (Nx.find_none h3)]; exact Nx.insert_space h1.2.2.2.1 h2 h3⟩
  · exact .inr ⟨_, h0, he, hb⟩
theorem NmOutE.ents {w : World} {base n c : Nat} {A : Option Addr} {l : List Nm} {F : List Nx.Ent} (h : NmOutE w base A n c l F) : Ents w w.heap.size A n l F :=
  ⟨h.own.nms, h.has.1.trans h.own.nms.1, fun k h1 h2 => ⟨(h.has.2 k h1 h2).1, (h.has.2 k h1 h2).2.1, Nums.of_own (h.has.2 k h1 h2).2.2⟩⟩
end Go.Proofs.Ytddbohnappogkaa
