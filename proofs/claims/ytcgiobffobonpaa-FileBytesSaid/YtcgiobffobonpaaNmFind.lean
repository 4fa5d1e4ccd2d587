/- The reference of name spaces: Find: a contract that leaves the answer open (written by tools/mknmadd.py). -/
import Derived.Test.YtcgiobffobonpaaNmValid
namespace Go.Proofs.Ytcgiobffobonpaa
open Go.RowKit

/-- Some entry, and some answer. -/
def FindPost (w : World) (e : Ending) (w' : World) : Prop := ∃ y v, e = .returned (.tuple #[.agg (nc y), .bool v]) ∧ Below w.heap.size w w'
theorem nc_zero : nc ⟨[], 0, ⟨none, 0, 0⟩⟩ = #[.string ⟨#[]⟩, .int .i64 0, .slice none 0 0] := rfl
set_option maxRecDepth 100000 in
set_option maxHeartbeats 8000000 in
theorem find_any (o : Ob) (p : ByteArray) (l : List Nm) (W : World) (hl : Nms W W.heap.size o.names.A o.names.n l) (hs : Short l) (hn : o.names.n ≤ 1000) : Calls Try.prog 61 #[.agg (oc o), .string p] W (FindPost W) := by
  obtain ⟨w1, hw, O, OR, hb, hs1⟩ : ∃ w1, (W.alloc (.cells (oc o) 41)).alloc (.cells #[.string ⟨#[]⟩, .int .i64 0, .slice none 0 0] 64) = w1 ∧ Obl w1 W.heap.size 41 (oc o) ∧ Obl w1 (W.heap.size + 1) 64 #[.string ⟨#[]⟩, .int .i64 0, .slice none 0 0] ∧ Below W.heap.size W w1 ∧ w1.heap.size = W.heap.size + 2 := by
    refine ⟨_, rfl, (Obl.make W _ _).alloc _, ?_, ((Below.refl _ _).alloc (Nat.le_refl _) _).alloc (by simp) _, by simp⟩
    have := Obl.make (W.alloc (.cells (oc o) 41)) 64 #[.string ⟨#[]⟩, .int .i64 0, .slice none 0 0]
    rwa [World.size_alloc] at this
  have HB0 := hide hb
  have HL := hide hl
  have HS := hide hs
  clear hl hs
  go_enter Try.func61, Try.ntmps61
  go_wp2_with (first | (refine load_ob rfl _ rfl rfl O ?_) | fail)
  refine (nmValid_any o l _ ((HL.out.below hb).mono hb.size) HS.out).mono ?_
  rintro e w2 ⟨bv, rfl, hb2⟩
  replace O := O.below hb2 O.lt
  replace OR := OR.below hb2 OR.lt
  have HB := hide (HB0.out.trans (hb2.mono HB0.out.size))
  clear hb hb2 HB0 hw hs1
  cases bv with
  | false =>
    go_wp2_with (first | (refine store_nm rfl _ _ rfl rfl (c := ⟨[], 0, ⟨none, 0, 0⟩⟩) rfl OR rfl ?_) | fail)
    refine bodyPost_ret (ret_nm2 rfl _ rfl (OR.row_same (nc ⟨[], 0, ⟨none, 0, 0⟩⟩))) rfl ?_
    exact ⟨_, false, rfl, below_row HB.out (by omega) _⟩
  | true =>
    obtain ⟨n, hnn⟩ : ∃ n, o.names.n = n := ⟨_, rfl⟩
    have HN := hide hnn
    have k35 : w2.cell? ⟨W.heap.size, 35, none⟩ = some (.slice o.names.A n o.names.c) := (O.cell 35).trans (by show some (Value.slice o.names.A o.names.n o.names.c) = _; rw [hnn])
    have hn' : (n : Int) ≤ 1000 := by omega
    clear hnn hn
    by_cases hn0 : n = 0
    · subst hn0
      go_wp2_with fail
      go_loop [15] (fun s => s = .int .i64 0) (fun _ => 0)
      case atStart => rfl
      case round =>
        subst hrel
        go_wp2_with (first | (refine store_nm rfl _ _ rfl rfl (c := ⟨[], 0, ⟨none, 0, 0⟩⟩) rfl OR rfl ?_) | fail)
        refine bodyPost_ret (ret_nm2 rfl _ rfl (OR.row_same (nc ⟨[], 0, ⟨none, 0, 0⟩⟩))) rfl ?_
        exact ⟨_, false, rfl, below_row HB.out (by omega) _⟩
    · have hL0 := HL.out
      rw [HN.out] at hL0
      obtain ⟨b1, f1, _, hA, _⟩ := hL0.at_ (i := 0) (by omega)
      rw [hA] at k35
      have HA := hide hA
      clear hL0 hA
      go_wp2_with fail
      go_loopw [15] (fun s15 wr => ∃ k : Nat, s15 = .int .i64 (k : Int) ∧ k ≤ n ∧ Obl wr (W.heap.size + 1) 64 #[.string ⟨#[]⟩, .int .i64 0, .slice none 0 0] ∧ Hid (Below W.heap.size W wr)) (fun s15 _ => n - (intOf s15).toNat)
      case atStart => exact ⟨0, rfl, by omega, OR, HB⟩
      case round =>
        clear O OR HB k35
        obtain ⟨k, rfl, hk, OR, HB⟩ := hrel
        by_cases hlt : k < n
        · have hlt' : (k : Int) < (n : Int) := by omega
          have hLr := HL.out.below HB.out
          rw [HN.out, HA.out] at hLr
          obtain ⟨b1', f1', hkl, hA, hb1, c0, c1, c2, II, hII⟩ := hLr.at_ hlt
          simp only [Option.some.injEq, Addr.mk.injEq, and_true] at hA
          obtain ⟨rfl, rfl⟩ := hA
          have hx := hide (HS.out _ (List.getElem_mem hkl))
          generalize l[k] = x at *
          obtain ⟨w3, hw3, g, hg, w4, hw4, OZ, ON, hb4, hs4⟩ := start_nm wr x
          have hgW : W.heap.size + 1 < g := by have := OR.lt; omega
          have OR4 := OR.below hb4 (by omega)
          have HB4 := hide (HB.out.trans (hb4.mono (by omega)))
          have HI4 := hide (hII.below (hb4.mono (by omega : W.heap.size ≤ g)))
          have c4 : w4.cell? ⟨g, 0, none⟩ = some (.string ⟨x.path.toArray⟩) := ON.cell 0
          obtain ⟨sx, hsx⟩ : ∃ sx : ByteArray, (⟨x.path.toArray⟩ : ByteArray) = sx := ⟨_, rfl⟩
          rw [hsx] at c4
          have hg4 : g < w4.heap.size := by omega
          clear hLr hb4 OR HB hII hs4 hsx
          obtain ⟨eb, heb⟩ : ∃ eb : Bool, (sx.toList == p.toList) = eb := ⟨_, rfl⟩
          cases eb with
          | false =>
            go_wp2_with (first | (refine wpList_val (by rfl) (exec_load_nmid rfl rfl c0 c1 c2) ?_) | (refine store_nm rfl _ _ rfl rfl (c := x) rfl OZ rfl ?_; rw [hw4]) | fail)
            go_roundw
            case rel => exact ⟨k + 1, by go_num, by omega, OR4, HB4⟩
            case measure => simp [intOf]; omega
          | true =>
            go_wp2_with (first | (refine wpList_val (by rfl) (exec_load_nmid rfl rfl c0 c1 c2) ?_) | (refine store_nm rfl _ _ rfl rfl (c := x) rfl OZ rfl ?_; rw [hw4]) | (refine load_nm rfl _ rfl rfl ON ?_) | fail)
            refine (copied_any x W.heap.size II _ HI4.out (by omega) hx.out.2).mono ?_
            rintro e w5 ⟨A5, c5, I5, rfl, _, hb5⟩
            have OR5 := OR4.below hb5 OR4.lt
            have HB5 := hide (HB4.out.trans (hb5.mono HB4.out.size))
            clear hb5 OR4 HB4
            go_wp2_with (first | (refine store_nm rfl _ _ rfl rfl (c := ⟨x.path, x.kind, ⟨A5, x.ids.n, c5⟩⟩) rfl OR5 rfl ?_) | fail)
            refine bodyPost_ret (ret_nm2 rfl _ rfl (OR5.row_same (nc ⟨x.path, x.kind, ⟨A5, x.ids.n, c5⟩⟩))) rfl ?_
            exact ⟨_, true, rfl, below_row HB5.out (by omega) _⟩
        · obtain rfl : k = n := by omega
          go_wp2_with (first | (refine store_nm rfl _ _ rfl rfl (c := ⟨[], 0, ⟨none, 0, 0⟩⟩) rfl OR rfl ?_) | fail)
          refine bodyPost_ret (ret_nm2 rfl _ rfl (OR.row_same (nc ⟨[], 0, ⟨none, 0, 0⟩⟩))) rfl ?_
          exact ⟨_, false, rfl, below_row HB.out (by omega) _⟩
end Go.Proofs.Ytcgiobffobonpaa
