/- Layer 3: the walk of IdentUnique. -/
import Derived.Test.YtgdhlghklnlahaaDoorIdentOrder
import Derived.Test.YtgdhlghklnlahaaDoorSets
import Derived.Test.YtgdhlghklnlahaaDoorRegionB
import Derived.Deep.CutRange
namespace Go.Proofs.YtgdhlghklnlahaaDoor
open Go.RowKit

theorem allTy : ElemTy Tryd.prog 35 34 3 24 := by
  obtain ⟨i0, hi, hz0, hz1, hz2⟩ := info_parts (show (Tryd.prog.info? 34).map (fun i => (i.zero, i.size, i.bytes)) = some (some (.agg #[.int .i64 0, .int .i64 0, .int .i64 0]), 3, 24) by kernel_rfl)
  exact ⟨i0, _, Tryd.underlying35, hi, hz0, hz1, hz2, rfl, by omega⟩

namespace Id
/-- Allocators of different origins, that have given nothing. -/
def fresh (L : List (Int × Int × Int)) : Prop := (∀ a ∈ L, (0 ≤ a.1 ∧ a.1 ≤ 2) ∧ (0 ≤ a.2.1 ∧ a.2.1 ≤ 2) ∧ a.2.2 = 0) ∧ L.Pairwise fun a b => ¬ (a.1 = b.1 ∧ a.2.1 = b.2.1)
def same (x y : Int) (a : Int × Int × Int) : Bool := decide (a.1 = x) && decide (a.2.1 = y)
/-- Allocators of different origins behind i rounds, and what they have given. -/
def inv (i : Nat) (L : List (Int × Int × Int)) (S : List Int) : Prop :=
  (∀ a ∈ L, (0 ≤ a.1 ∧ a.1 ≤ 2) ∧ (0 ≤ a.2.1 ∧ a.2.1 ≤ 2) ∧ 0 ≤ a.2.2 ∧ a.2.2 ≤ 15 * i) ∧ L.Pairwise (fun a b => ¬ (a.1 = b.1 ∧ a.2.1 = b.2.1)) ∧
  ∀ x ∈ S, ∃ a ∈ L, ∃ t, 1 ≤ t ∧ t ≤ a.2.2 ∧ x = a.1 * 72057594037927936 + a.2.1 * 1099511627776 + t
theorem inv_start {L : List (Int × Int × Int)} (h : fresh L) : inv 0 L [] :=
  ⟨fun a ha => by obtain ⟨h1, h2, h3⟩ := h.1 a ha; omega, h.2, by simp⟩
theorem inv_next {i K : Nat} {L : List (Int × Int × Int)} {S : List Int} (h : inv i L S) (hi : i ≤ 30) (hK : K < L.length) {m : Nat} (hm : m ≤ 15) :
    inv (i + 1) (L.set K (L[K].1, L[K].2.1, L[K].2.2 + m)) (S ++ ids L[K].1 L[K].2.1 L[K].2.2 m) := by
  obtain ⟨h1, h2, h3⟩ := h
  have hKm : L[K] ∈ L := List.getElem_mem hK
  refine ⟨fun a ha => ?_, ?_, fun x hx => ?_⟩
  · rcases List.mem_or_eq_of_mem_set ha with ha | rfl
    · obtain ⟨g1, g2, g3, g4⟩ := h1 a ha; omega
    · obtain ⟨g1, g2, g3, g4⟩ := h1 _ hKm; simp only; omega
  · rw [List.pairwise_iff_getElem] at h2 ⊢
    intro x y hx hy hxy
    rw [List.length_set] at hx hy
    have := h2 x y hx hy hxy
    rw [List.getElem_set, List.getElem_set]
    split
    · split
      · omega
      · rename_i e1 e2; subst e1; exact this
    · split
      · rename_i e1 e2; subst e2; exact this
      · exact this
  · rcases List.mem_append.1 hx with hx | hx
    · obtain ⟨a, ha, t, t1, t2, t3⟩ := h3 x hx
      obtain ⟨q, hq, rfl⟩ := List.getElem_of_mem ha
      by_cases e : K = q
      · subst e
        exact ⟨_, List.mem_set hK _, t, t1, by simp only; omega, t3⟩
      · exact ⟨L[q], by rw [List.mem_iff_getElem]; exact ⟨q, by simpa using hq, by rw [List.getElem_set, if_neg e]⟩, t, t1, t2, t3⟩
    · simp only [ids, List.mem_map, List.mem_range] at hx
      obtain ⟨j, hj, rfl⟩ := hx
      exact ⟨_, List.mem_set hK _, L[K].2.2 + 1 + j, by obtain ⟨g1, g2, g3, g4⟩ := h1 _ hKm; omega, by simp only; omega, by simp only⟩
/-- What is given next has not been given. -/
theorem inv_new {i K : Nat} {L : List (Int × Int × Int)} {S : List Int} (h : inv i L S) (hi : i ≤ 30) (hK : K < L.length) {j : Nat} (hj : j < 15) :
    L[K].1 * 72057594037927936 + L[K].2.1 * 1099511627776 + (L[K].2.2 + 1 + j) ∉ S ++ ids L[K].1 L[K].2.1 L[K].2.2 j := by
  obtain ⟨h1, h2, h3⟩ := h
  have hKm : L[K] ∈ L := List.getElem_mem hK
  obtain ⟨g1, g2, g3, g4⟩ := h1 _ hKm
  intro hx
  rcases List.mem_append.1 hx with hx | hx
  · obtain ⟨a, ha, t, t1, t2, t3⟩ := h3 _ hx
    obtain ⟨q, hq, rfl⟩ := List.getElem_of_mem ha
    obtain ⟨k1, k2, k3, k4⟩ := h1 _ ha
    rw [List.pairwise_iff_getElem] at h2
    rcases Nat.lt_trichotomy K q with e | e | e
    · have := h2 K q hK hq e; omega
    · subst e; omega
    · have := h2 q K hq hK e; omega
  · simp only [ids, List.mem_map, List.mem_range] at hx
    obtain ⟨j', hj', e⟩ := hx
    omega
theorem fresh_snoc {L : List (Int × Int × Int)} {x y : Int} (h : fresh L) (hx : 0 ≤ x ∧ x ≤ 2) (hy : 0 ≤ y ∧ y ≤ 2) (hn : L.any (same x y) = false) : fresh (L ++ [(x, y, 0)]) := by
  obtain ⟨h1, h2⟩ := h
  constructor
  · intro a ha
    rcases List.mem_append.1 ha with ha | ha
    · exact h1 a ha
    · simp only [List.mem_singleton] at ha
      subst ha
      exact ⟨hx, hy, rfl⟩
  · rw [List.pairwise_append]
    refine ⟨h2, by simp, fun a ha b hb => ?_⟩
    simp only [List.mem_singleton] at hb
    subst hb
    have := List.any_eq_false.1 hn a ha
    simpa [same] using this
end Id

theorem below_alloc2 {B : Nat} {w : World} (h : B ≤ w.heap.size) (o o' : Obj) : Below B (w.alloc o) (w.alloc o') :=
  ⟨rfl, rfl, rfl, by simp, fun k hk => by rw [Below.heap_alloc w o k (by omega), Below.heap_alloc w o' k (by omega)]⟩
theorem below_undrew {B : Nat} {w w' : World} (h : Below B w.drew w') : Below B w w' := ⟨h.os, h.tape, h.output, h.size, h.block⟩

/-- One struct of its own, in the order in which its cells were written out. -/
theorem Row.one (w : World) (a : Value) (cs : List Value) (t : TypeId) : Row (w.alloc (.cells (a :: cs).toArray t)) (w.heap.size + 1) (a :: cs).length (some ⟨w.heap.size, 0, none⟩) 1 (a :: cs) :=
  ⟨by simp, by simp, (Row.list w (a :: cs) t).rd⟩

theorem wf_u64_nat (I : Nat) (h : I < 18446744073709551616) : (Lit.int .u64 (I : Int)).wf = true := by
  show (decide (IntKind.u64.min ≤ (I : Int)) && decide ((I : Int) ≤ IntKind.u64.max)) = true
  rw [show IntKind.u64.min = 0 from rfl, show IntKind.u64.max = 18446744073709551615 from rfl]
  simp
  omega
theorem boolZero (w : World) : (zeroValue 4).run Tryd.prog w = .ok (.bool false) w := by kernel_rfl

theorem wrap_tmod3 (x : Nat) (h : x < 256) : IntKind.i64.wrap ((x : Int).tmod 3) = (x : Int) % 3 := by
  rw [Int.tmod_eq_emod_of_nonneg (by omega), IntKind.wrap_i64]
  omega

set_option maxRecDepth 100000 in
set_option maxHeartbeats 4000000 in
theorem identUnique_any (A B C : Option Addr) (n m r ca cb cc : Nat) (l1 l2 l3 : List UInt8) (w : World) (h1 : Bytes w w.heap.size A n l1) (h2 : Bytes w w.heap.size B m l2) (h3 : Bytes w w.heap.size C r l3) (hn : n ≤ 9223372036854775807) (hm : m ≤ 9223372036854775807) (hr : r ≤ 9223372036854775807) (hL : LaidT w) :
    Calls Tryd.prog 6 #[.slice A n ca, .slice B m cb, .slice C r cc] w fun e w' => e = .returned (.bool true) ∧ Below w.heap.size w w' := by
  have HL := hide hL
  clear hL
  go_enter Tryd.func6, Tryd.ntmps6
  go_wp2_with fail
  refine (sane3_any _ HL.out).mono ?_
  rintro e w1 ⟨rfl, hb1⟩
  have hn0 := World.ownsRow_nil w1 w.heap.size 34 3
  go_upto_region 4 with fail
  iterate 7 first | go_values | go_skip | go_guarded | go_step | go_upon | go_back | go_simp
  go_cut [7] from 8 (fun s7 wx => ∃ (k c : Nat) (D : Option Addr) (L : List (Int × Int × Int)), s7 = .slice D k c ∧ k ≤ 5 ∧ wx.ownsRow w.heap.size 34 3 (.slice D k c) k (tv L) ∧ Below w.heap.size w wx ∧ Hid (Id.fresh L))
  case first =>
    go_wp2_with fail
    go_loopw [7, 8] (fun s7 s8 wr => ∃ (i k c : Nat) (D : Option Addr) (L : List (Int × Int × Int)), s7 = .slice D k c ∧ s8 = .int .i64 (i : Int) ∧ i ≤ 5 ∧ i ≤ n ∧ i ≤ m ∧ k ≤ i ∧ wr.ownsRow w.heap.size 34 3 (.slice D k c) k (tv L) ∧ Below w.heap.size w wr ∧ Hid (Id.fresh L)) (fun _ s8 _ => 5 - (intOf s8).toNat)
    case atStart => exact ⟨0, 0, 0, none, [], rfl, rfl, by omega, by omega, by omega, by omega, hn0, hb1, hide ⟨by simp, List.Pairwise.nil⟩⟩
    case round =>
      obtain ⟨i, k, c, D, L, rfl, rfl, hi5, hin, him, hki, hown, hb, HF⟩ := hrel
      have hB := hb.size
      by_cases hlt : i < n ∧ i < m ∧ i < 5
      · obtain ⟨g1, g2, g3⟩ := hlt
        obtain ⟨b1, o1, hl1, rfl, hbb1, hc1⟩ := h1.at_ g1
        obtain ⟨b2, o2, hl2, rfl, hbb2, hc2⟩ := h2.at_ g2
        have hc1' : wr.cell? ⟨b1, o1 + i, none⟩ = some (.int .u8 (l1[i].toNat : Int)) := (hb.cell (p := ⟨b1, o1 + i, none⟩) hbb1).trans hc1
        have hc2' : wr.cell? ⟨b2, o2 + i, none⟩ = some (.int .u8 (l2[i].toNat : Int)) := (hb.cell (p := ⟨b2, o2 + i, none⟩) hbb2).trans hc2
        have hx1 := l1[i].toNat_lt
        have hx2 := l2[i].toNat_lt
        generalize l1[i].toNat = x1 at *
        generalize l2[i].toNat = x2 at *
        have HN : Hid (Id.new ((x1 : Int) % 3) ((x2 : Int) % 3) = (((x1 : Int) % 3, (x2 : Int) % 3, 0), 0)) := hide (Id.new_ok (Id.ogn_iff.2 ⟨by omega, by omega⟩))
        have E1 := hide (wrap_tmod3 x1 (by omega))
        have E2 := hide (wrap_tmod3 x2 (by omega))
        go_upto_region 7 with fail
        go_cut [9, 10] from 25 to 86 (fun s9 s10 wx => ∃ g, s9 = .pointer (some ⟨g, 0, none⟩) ∧ s10 = .int .i64 0 ∧ Obl wx g 34 #[.int .i64 ((x1 : Int) % 3), .int .i64 ((x2 : Int) % 3), .int .i64 0] ∧ wr.heap.size ≤ g ∧ Below wr.heap.size wr wx)
        case first =>
          refine region_B (by kernel_rfl) wr.heap.size ?_
          refine takeB 0 rfl (by kernel_rfl) (fun _ _ _ h => h) (by rfl) (by intro w' hg; go_simp; try with_reducible rfl) ?_
          refine takeB 1 rfl (by kernel_rfl) (fun _ _ _ h => h) (by rfl) (by intro w' hg; go_simp; try with_reducible rfl) ?_
          refine takeB 2 rfl (by kernel_rfl) (fun _ _ _ h => h) (by rfl) (by intro w' hg; go_simp; try with_reducible rfl) ?_
          refine takeB 3 rfl (by kernel_rfl) (fun _ _ _ h => h) (by rfl) (by intro w' hg; have hcA := (hg.cell (p := ⟨b1, o1 + i, none⟩) (by show b1 < wr.heap.size; omega)).trans (show wr.drew.cell? _ = _ from hc1'); go_simp; try with_reducible rfl) ?_
          refine takeB 4 rfl (by kernel_rfl) (fun _ _ _ h => h) (by rfl) (by intro w' hg; go_simp; try with_reducible rfl) ?_
          refine takeB 5 rfl (by kernel_rfl) (fun _ _ _ h => h) (by rfl) (by intro w' hg; go_simp; try with_reducible rfl) ?_
          refine takeB 6 rfl (by kernel_rfl) (fun _ _ _ h => h) (by rfl) (by intro w' hg; go_simp; try with_reducible rfl) ?_
          refine takeB 7 rfl (by kernel_rfl) (fun _ _ _ h => h) (by rfl) (by intro w' hg; go_simp; try with_reducible rfl) ?_
          refine takeB 8 rfl (by kernel_rfl) (fun _ _ _ h => h) (by rfl) (by intro w' hg; go_simp; try with_reducible rfl) ?_
          refine takeB 9 rfl (by kernel_rfl) (fun _ _ _ h => h) (by rfl) (by intro w' hg; have hcB := (hg.cell (p := ⟨b2, o2 + i, none⟩) (by show b2 < wr.heap.size; omega)).trans (show wr.drew.cell? _ = _ from hc2'); go_simp; try with_reducible rfl) ?_
          refine takeB 10 rfl (by kernel_rfl) (fun _ _ _ h => h) (by rfl) (by intro w' hg; go_simp; try with_reducible rfl) ?_
          refine takeB 11 rfl (by kernel_rfl) (fun _ _ _ h => h) (by rfl) (by intro w' hg; go_simp; try with_reducible rfl) ?_
          refine twoB 12 16 rfl rfl (by kernel_rfl) (by rfl) (by rfl) ?_ ?_
          · intro K hK
            go_simp
            rw [E1.out, E2.out]
            refine (new_any _ _ _).mono ?_
            intro e u1 hp
            obtain ⟨rfl, hl1'⟩ := hp.at_ HN.out
            clear hp
            simp only [al]
            have hlw : Below wr.heap.size wr.drew u1 := hl1'
            refine hK _ _ hlw ?_
            clear hK K
            refine takeB 13 rfl (by kernel_rfl) (fun _ _ _ h => h) (by rfl) (by intro w' hg; go_simp; try with_reducible rfl) ?_
            refine takeB 14 rfl (by kernel_rfl) (fun _ _ _ h => h) (by rfl) (by intro w' hg; go_simp; try with_reducible rfl) ?_
            refine takeB 15 rfl (by kernel_rfl) (fun _ _ _ h => h) (by rfl) (by intro w' hg; go_simp; try with_reducible rfl) ?_
            refine onlyB 16 rfl (by kernel_rfl) (by rfl) ?_
            intro K hK
            go_simp
            refine hK _ _ ((Below.refl _ _).alloc hlw.size _) ?_
            clear hK K
            refine onlyB 17 rfl (by kernel_rfl) (by rfl) ?_
            intro K hK
            go_simp
            have hB1 : wr.heap.size ≤ u1.heap.size := hlw.size
            have hfin : Below wr.heap.size (u1.alloc (.cells #[.int .i64 0, .int .i64 0, .int .i64 0] 34)) (u1.alloc (.cells #[.int .i64 ((x1 : Int) % 3), .int .i64 ((x2 : Int) % 3), .int .i64 0] 34)) := below_alloc2 hB1 _ _
            refine hK _ _ hfin ?_
            clear hK K
            refine takeB 18 rfl (by kernel_rfl) (fun _ _ _ h => h) (by rfl) (by intro w' hg; go_simp; try with_reducible rfl) ?_
            refine doneB (by kernel_rfl) ?_
            go_simp
            go_wp2_with fail
            go_meet
            case rel => exact ⟨_, rfl, rfl, Obl.make _ _ _, hB1, Below.trans (show Below wr.heap.size wr u1 from ⟨hlw.os, hlw.tape, hlw.output, hlw.size, hlw.block⟩) ((Below.refl _ _).alloc hB1 _)⟩
          · intro K hK
            go_simp
            refine hK _ _ (show Below wr.heap.size wr.drew _ from ⟨rfl, rfl, rfl, by simp, fun k hk => Below.heap_alloc wr _ k hk⟩) ?_
            clear hK K
            refine onlyB 12 rfl (by kernel_rfl) (by rfl) ?_
            intro K hK
            go_simp
            rw [E1.out, E2.out]
            refine (new_any _ _ _).mono ?_
            intro e u1 hp
            obtain ⟨rfl, hl1'⟩ := hp.at_ HN.out
            clear hp
            simp only [al]
            have hlw : Below (wr.heap.size + 1) (wr.alloc (.cells #[.int .i64 0, .int .i64 0, .int .i64 0] 34)).drew u1 := by have := hl1'; simpa using this
            refine hK _ _ (hlw.mono (by omega)) ?_
            clear hK K
            have OG : Obl u1 wr.heap.size 34 #[.int .i64 0, .int .i64 0, .int .i64 0] := (Obl.make wr 34 #[.int .i64 0, .int .i64 0, .int .i64 0]).drew.below hlw (by omega)
            refine takeB 13 rfl (by kernel_rfl) (fun _ _ _ h => h) (by rfl) (by intro w' hg; go_simp; try with_reducible rfl) ?_
            refine takeB 14 rfl (by kernel_rfl) (fun _ _ _ h => h) (by rfl) (by intro w' hg; go_simp; try with_reducible rfl) ?_
            refine takeB 15 rfl (by kernel_rfl) (fun _ _ _ h => h) (by rfl) (by intro w' hg; go_simp; try with_reducible rfl) ?_
            refine onlyB 17 rfl (by kernel_rfl) (by rfl) ?_
            intro K hK
            have p0 := OG.cell 0
            have p1 := OG.cell 1
            have p2 := OG.cell 2
            have z0 := OG.free 0
            have z1 := OG.free 1
            have z2 := OG.free 2
            simp at p0 p1 p2
            go_simp
            have hst : Below wr.heap.size u1 (((u1.setCell ⟨wr.heap.size, 0, none⟩ (.int .i64 ((x1 : Int) % 3))).setCell ⟨wr.heap.size, 1, none⟩ (.int .i64 ((x2 : Int) % 3))).setCell ⟨wr.heap.size, 2, none⟩ (.int .i64 0)) := (((Below.refl _ _).setCell (by simp) _).setCell (by simp) _).setCell (by simp) _
            refine hK _ _ hst ?_
            clear hK K
            refine takeB 18 rfl (by kernel_rfl) (fun _ _ _ h => h) (by rfl) (by intro w' hg; go_simp; try with_reducible rfl) ?_
            refine doneB (by kernel_rfl) ?_
            go_simp
            go_wp2_with fail
            go_meet
            case rel => exact ⟨_, rfl, rfl, ((OG.put 0 _).put 1 _).put 2 _, Nat.le_refl _, Below.trans (Below.trans ((Below.refl wr.heap.size wr).alloc (Nat.le_refl _) (.cells #[.int .i64 0, .int .i64 0, .int .i64 0] 34)) (below_undrew (hlw.mono (Nat.le_succ _)))) hst⟩
        case rest =>
          obtain ⟨g, rfl, rfl, OX, hg, hbx⟩ := hcut
          have hX : 0 ≤ (x1 : Int) % 3 ∧ (x1 : Int) % 3 ≤ 2 := by omega
          have hY : 0 ≤ (x2 : Int) % 3 ∧ (x2 : Int) % 3 ≤ 2 := by omega
          clear E1 E2 HN hc1 hc2 hc1' hc2'
          generalize (x1 : Int) % 3 = X at *
          generalize (x2 : Int) % 3 = Y at *
          clear hx1 hx2
          have hownc := own_below hown hbx
          have hbc := hb.trans (hbx.mono hB)
          have hBc := hbc.size
          have hLk : L.length = k := by have := hown.1; rw [tv_length] at this; omega
          clear hown hb
          go_wp2_with fail
          go_loopw [11, 61] (fun s11 s61 wv => ∃ j : Nat, s11 = .bool ((L.take j).any (Id.same X Y)) ∧ s61 = .int .i64 (j : Int) ∧ j ≤ k ∧ Below wc.heap.size wc wv) (fun _ s61 _ => k - (intOf s61).toNat)
          case atStart => exact ⟨0, rfl, rfl, by omega, Below.refl _ _⟩
          case round =>
            obtain ⟨j, rfl, rfl, hj, hbv⟩ := hrel
            by_cases hjk : j < k
            · obtain ⟨gD, rfl, hgD, hgD2⟩ := own_addr hownc (by omega)
              have hjl : j < L.length := by omega
              obtain ⟨t1, t2, t3⟩ := tv_at hjl
              have c1 := (hbv.cell (p := ⟨gD, j * 3, none⟩) hgD2).trans (own_cell hownc t1)
              have c2 := (hbv.cell (p := ⟨gD, j * 3 + 1, none⟩) hgD2).trans (own_cell hownc t2)
              have c3 := (hbv.cell (p := ⟨gD, j * 3 + 2, none⟩) hgD2).trans (own_cell hownc t3)
              have hOX := OX.below hbv OX.lt
              have q0 := hOX.cell 0
              have q1 := hOX.cell 1
              simp at q0 q1
              have hgl := hOX.lt
              have hnext : (L.take (j + 1)).any (Id.same X Y) = ((L.take j).any (Id.same X Y) || (decide (L[j].1 = X) && decide (L[j].2.1 = Y))) := by
                rw [List.take_succ_eq_append_getElem hjl, List.any_append]
                simp [Id.same]
              have HX := hide hnext
              have hBv := hbv.size
              have HC := hide (hbv.alloc hBv (.cells #[.int .i64 L[j].1, .int .i64 L[j].2.1, .int .i64 L[j].2.2] 34))
              clear hnext t1 t2 t3
              generalize L[j].1 = p1 at *
              generalize L[j].2.1 = p2 at *
              generalize L[j].2.2 = p3 at *
              cases hkn : (L.take j).any (Id.same X Y) with
              | true =>
                rw [hkn, Bool.true_or] at HX
                clear hkn
                go_wp2_with fail
                go_roundw
                case rel => exact ⟨j + 1, by rw [HX.out], by go_num, by omega, HC.out⟩
                case measure => simp [intOf]; omega
              | false =>
                rw [hkn, Bool.false_or] at HX
                clear hkn
                by_cases e1 : p1 = X
                · have t1 : (p1 == X) = true := by simpa using e1
                  by_cases e2 : p2 = Y
                  · have t2 : (p2 == Y) = true := by simpa using e2
                    rw [decide_eq_true e1, decide_eq_true e2] at HX
                    clear e1 e2
                    go_wp2_with fail
                    go_roundw
                    case rel => exact ⟨j + 1, by rw [HX.out]; rfl, by go_num, by omega, HC.out⟩
                    case measure => simp [intOf]; omega
                  · have t2 : (p2 == Y) = false := by simpa using e2
                    rw [decide_eq_true e1, decide_eq_false e2] at HX
                    clear e1 e2
                    go_wp2_with fail
                    go_roundw
                    case rel => exact ⟨j + 1, by rw [HX.out]; rfl, by go_num, by omega, HC.out⟩
                    case measure => simp [intOf]; omega
                · have t1 : (p1 == X) = false := by simpa using e1
                  rw [decide_eq_false e1] at HX
                  clear e1
                  go_wp2_with fail
                  go_roundw
                  case rel => exact ⟨j + 1, by rw [HX.out]; rfl, by go_num, by omega, HC.out⟩
                  case measure => simp [intOf]; omega
            · obtain rfl : j = k := by omega
              rw [List.take_of_length_le (by omega)]
              have hownv := own_below hownc hbv
              have hb0v := hbc.trans (hbv.mono hBc)
              have hB0v := hb0v.size
              have OXv := OX.below hbv OX.lt
              have q0 := OXv.cell 0
              have q1 := OXv.cell 1
              have q2 := OXv.cell 2
              simp at q0 q1 q2
              cases hkn : L.any (Id.same X Y) with
              | true =>
                clear hkn
                go_wp2_with fail
                go_roundw
                case rel => exact ⟨i + 1, j, c, D, L, rfl, by go_num, by omega, by omega, by omega, by omega, hownv, hb0v, HF⟩
                case measure => simp [intOf]; omega
              | false =>
                have HF2 := hide (Id.fresh_snoc HF.out hX hY hkn)
                clear hkn
                go_wp2_with (at_builtin; (refine wpList_append_rd rfl (.tmp 83) (.tmp 85) _ rfl allTy rfl (hownv.alloc _) rfl (Row.one _ (.int .i64 X) [.int .i64 Y, .int .i64 0] _) (by simp [Value.oneCell']) (by unfold maxLen; omega) (by omega) (by simp; omega) ?_; intro A3 c3 w3 hown3 hgrow3 hat3))
                have hb3 : Below w.heap.size w w3 := below_own (hb0v.alloc hB0v _) (hownv.alloc _) hgrow3 (by simp; omega)
                have hown3' : w3.ownsRow w.heap.size 34 3 (.slice A3 (j + 1) c3) (j + 1) (tv (L ++ [(X, Y, 0)])) := by rw [← tv_snoc]; exact hown3
                go_roundw
                case rel => exact ⟨i + 1, j + 1, c3, A3, L ++ [(X, Y, 0)], rfl, by go_num, by omega, by omega, by omega, by omega, hown3', hb3, HF2⟩
                case measure => simp [intOf]; omega
      · have hgc : ¬ i < n ∨ (i < n ∧ ¬ i < m) ∨ (i < n ∧ i < m ∧ ¬ i < 5) := by omega
        rcases hgc with g1 | ⟨g1, g2⟩ | ⟨g1, g2, g3⟩
        all_goals
          go_wp2_with fail
          go_meet
          case rel => exact ⟨k, c, D, L, rfl, by omega, hown, hb, HF⟩
  case rest =>
    obtain ⟨k, c, D, L0, rfl, hk5, hown0, hb0, HF⟩ := hcut
    clear hn0 hb1 h1 h2
    have hmm := @run_makeMap Tryd.prog
    have HI0 := hide (Id.inv_start HF.out)
    have hB0 := hb0.size
    have hM0 : MapSet Tryd.prog 22 4 .u64 (wc.alloc (.map #[] 0)) wc.heap.size 0 [] := MapSet.made wc
    have hown0' := hown0.alloc (.map #[] 0)
    have hb0' := hb0.alloc hB0 (.map #[] 0)
    have hLk0 : L0.length = k := by have := hown0.1; rw [tv_length] at this; omega
    go_wp2_with fail
    clear hmm
    go_loopw [90] (fun s90 wr => ∃ (i cnt : Nat) (L : List (Int × Int × Int)) (S : List Int), s90 = .int .i64 (i : Int) ∧ i ≤ r ∧ i ≤ 30 ∧ L.length = k ∧ wr.ownsRow w.heap.size 34 3 (.slice D k c) k (tv L) ∧ MapSet Tryd.prog 22 4 .u64 wr wc.heap.size cnt S ∧ cnt ≤ 15 * i ∧ Below w.heap.size w wr ∧ Hid (Id.inv i L S)) (fun s90 _ => r - (intOf s90).toNat)
    case atStart => exact ⟨0, 0, L0, [], rfl, by omega, by omega, hLk0, hown0', hM0, by omega, hb0', HI0⟩
    case round =>
      clear hM0 hown0' hb0' HI0 hown0 hb0 HF hLk0
      obtain ⟨i, cnt, L, S, rfl, hir, hi30, hLk, hown, hM, hcnt, hb, HI⟩ := hrel
      have hB := hb.size
      by_cases hlt : i < r
      · obtain ⟨b3, o3, hl3, rfl, hbb3, hc3⟩ := h3.at_ hlt
        have hc3' : wr.cell? ⟨b3, o3 + i, none⟩ = some (.int .u8 (l3[i].toNat : Int)) := (hb.cell (p := ⟨b3, o3 + i, none⟩) hbb3).trans hc3
        have hx3 := l3[i].toNat_lt
        generalize l3[i].toNat = x3 at *
        by_cases hk0 : k = 0
        · subst hk0
          go_wp2
          go_ret
          exact ⟨rfl, hb⟩
        · have ek : ((k : Int) == 0) = false := by simp; omega
          by_cases hi30' : 30 ≤ i
          · have d30 : decide ((30 : Int) ≤ (i : Int)) = true := by simp; omega
            go_wp2
            go_ret
            exact ⟨rfl, hb⟩
          · have d30 : decide ((30 : Int) ≤ (i : Int)) = false := by simp; omega
            obtain ⟨g, rfl, hg, hgl⟩ := own_addr hown (by omega)
            obtain ⟨K, hK, hKk⟩ : ∃ K : Nat, (x3 : Int) % (k : Int) = (K : Int) ∧ K < k := ⟨x3 % k, by omega, Nat.mod_lt _ (by omega)⟩
            obtain ⟨M, hM16, hM15⟩ : ∃ M : Nat, (x3 : Int) / 16 = (M : Int) ∧ M ≤ 15 := ⟨x3 / 16, by omega, by omega⟩
            have hKL : K < L.length := by omega
            obtain ⟨t1, t2, t3⟩ := tv_at hKL
            have c1 := own_cell hown t1
            have c2 := own_cell hown t2
            have c3 := own_cell hown t3
            have HI2 := hide (Id.inv_next HI.out hi30 hKL hM15)
            have HNw := hide (fun j hj => Id.inv_new HI.out hi30 hKL (j := j) hj)
            have hbd := HI.out.1 _ (List.getElem_mem hKL)
            obtain ⟨k1, k2, k3, k4⟩ := hbd
            have HNx := hide (Id.next_ok (n := L[K].1) (b := L[K].2.1) (s := L[K].2.2) (k := M) hM16 (by omega) (by omega) (by omega) (by omega))
            have Hset := hide (tv_set hKL (L[K].1, L[K].2.1, L[K].2.2 + (M : Int)))
            have HM16 := hide hM16
            have HlenS : Hid ((L.set K (L[K].1, L[K].2.1, L[K].2.2 + (M : Int))).length = k) := hide (by rw [List.length_set]; exact hLk)
            clear t1 t2 t3 hM16 HI
            generalize L.set K (L[K].1, L[K].2.1, L[K].2.2 + (M : Int)) = L' at *
            simp only at Hset
            generalize L[K].1 = p1 at *
            generalize L[K].2.1 = p2 at *
            generalize L[K].2.2 = p3 at *
            go_upto_region 24 with fail
            rw [hK]
            clear hK
            go_wp2_with fail
            refine (next_any (p1, p2, p3) ((x3 : Int) / 16) _).mono ?_
            intro e w2 hp
            obtain ⟨A2, c2', he, hc2, hm2, hn2, hb2⟩ := hp.at_ HNx.out
            clear hp
            rw [Id.ids_length] at he hc2 hn2
            subst he
            simp only [al]
            have hM2 := hM.below hb2 hM.lt
            have hown2 := own_below hown hb2
            have hb02 := hb.trans (hb2.mono hB)
            have hB2 := hb02.size
            have OQ := Obl.make w2 34 #[.int .i64 p1, .int .i64 p2, .int .i64 (p3 + (M : Int))]
            have hM3 := hM2.alloc (.cells #[.int .i64 p1, .int .i64 p2, .int .i64 (p3 + (M : Int))] 34)
            have hown3 := hown2.alloc (.cells #[.int .i64 p1, .int .i64 p2, .int .i64 (p3 + (M : Int))] 34)
            have hb03 := hb02.alloc hB2 (.cells #[.int .i64 p1, .int .i64 p2, .int .i64 (p3 + (M : Int))] 34)
            have hn3 := hn2.alloc (Nat.le_refl _) (.cells #[.int .i64 p1, .int .i64 p2, .int .i64 (p3 + (M : Int))] 34)
            have tq : ((M : Int) == (x3 : Int) / 16) = true := by rw [HM16.out]; simp
            have tq' : ((M : Int) != (x3 : Int) / 16) = false := by rw [HM16.out]; simp
            have hM0 : Hid (∃ cnt', cnt' ≤ cnt + 0 ∧ MapSet Tryd.prog 22 4 .u64 (w2.alloc (.cells #[.int .i64 p1, .int .i64 p2, .int .i64 (p3 + (M : Int))] 34)) wc.heap.size cnt' (S ++ Id.ids p1 p2 p3 0)) := hide ⟨cnt, Nat.le_refl _, by rw [show Id.ids p1 p2 p3 0 = [] from rfl, List.append_nil]; exact hM3⟩
            clear hM hM2 hown hown2 hn2 hb hb2 hb02 c1 c2 c3 hc3 hc3' h3
            go_wp2_with fail
            have hB3 := hb03.size
            generalize hw3 : w2.alloc (.cells #[.int .i64 p1, .int .i64 p2, .int .i64 (p3 + (M : Int))] 34) = w3 at *
            clear hw3
            have hbm : w.heap.size ≤ wc.heap.size := hB0
            have hgM : g ≠ wc.heap.size := hM3.ne_own hown3
            have hqM : w2.heap.size ≠ wc.heap.size := hM3.ne_block OQ
            have hb3l : b3 < w.heap.size := hbb3
            clear hM3 tq tq' HM16
            go_loopw [131] (fun s131 wv => ∃ (j cnt' : Nat), s131 = .int .i64 (j : Int) ∧ j ≤ M ∧ cnt' ≤ cnt + j ∧ MapSet Tryd.prog 22 4 .u64 wv wc.heap.size cnt' (S ++ Id.ids p1 p2 p3 j) ∧ w3.grownBy wv (some wc.heap.size)) (fun s131 _ => M - (intOf s131).toNat)
            case atStart => obtain ⟨cnt', h1, h2⟩ := hM0.out; exact ⟨0, cnt', rfl, by omega, h1, h2, World.grownBy.refl _ _⟩
            case round =>
              obtain ⟨j, cnt', rfl, hj, hcnt', hMv, hgv⟩ := hrel
              by_cases hjM : j < M
              · obtain ⟨bI, oI, hlI, rfl, hbI, hcI⟩ := hn3.at_ hjM
                rw [Id.ids_at] at hcI
                have hneI : bI ≠ wc.heap.size := (hM0.out.choose_spec).2.cell_none hcI
                obtain ⟨I, hI, hI64⟩ : ∃ I : Nat, p1 * 72057594037927936 + p2 * 1099511627776 + (p3 + 1 + (j : Int)) = (I : Int) ∧ I < 9223372036854775808 :=
                  ⟨(p1 * 72057594037927936 + p2 * 1099511627776 + (p3 + 1 + (j : Int))).toNat, by omega, by omega⟩
                have hnot : decide ((I : Int) ∈ S ++ Id.ids p1 p2 p3 j) = false := by
                  rw [← hI]; exact decide_eq_false (HNw.out j (by omega))
                have hval : Hid (Id.valid I = true) := hide (by
                  have e1 : ((I / 72057594037927936 : Nat) : Int) = p1 := by omega
                  have e2 : ((I / 1099511627776 % 65536 : Nat) : Int) = p2 := by omega
                  have e3 : ((I % 1099511627776 : Nat) : Int) = p3 + 1 + j := by omega
                  unfold Id.valid
                  rw [e1, e2, e3, Id.ogn_iff.2 (by omega), Id.okS_iff.2 (by omega)]; rfl)
                have hids : Hid (S ++ Id.ids p1 p2 p3 j ++ [(I : Int)] = S ++ Id.ids p1 p2 p3 (j + 1)) := hide (by
                  rw [Id.ids_succ, ← hI, List.append_assoc])
                rw [hI] at hcI
                have hcv : (_ : World).cell? ⟨bI, oI + j, none⟩ = some (.int .u64 (I : Int)) := hgv.cell hcI (by simpa using hneI)
                have hwf : (Lit.int .u64 (I : Int)).wf = true := wf_u64_nat I (by omega)
                clear hI
                go_wp2_with (at_lookup; (refine wpList_lookup_set rfl (.tmp 135) (.tmp 136) 45 rfl Tryd.underlying22 Tryd.underlying45 Tryd.underlying4 (boolZero _) hMv rfl rfl hwf ?_; rw [hnot]))
                refine (valid_any I _ (by omega)).mono ?_
                rintro e w5 ⟨rfl, rfl⟩
                rw [hval.out]
                clear hnot
                go_wp2_with (at_mapUpdate; (refine wpList_put_set rfl (.tmp 143) (.tmp 144) (.const (.bool true)) 45 rfl Tryd.underlying22 Tryd.underlying45 Tryd.underlying4 hMv (by unfold maxLen; omega) rfl rfl rfl hwf ?_; intro w5 hM5 hg5))
                rw [hids.out] at hM5
                go_roundw
                case rel => (repeat apply Exists.intro); exact ⟨⟨j + 1, cnt' + 1, by go_num, by omega, by omega, hM5, grown_trans hgv hg5⟩, rfl⟩
                case measure => simp [intOf]; omega
              · obtain rfl : j = M := by omega
                have hown4 := hown3.kept hgv (.inr (by simpa [Value.ownBlock] using hgM))
                have hb04 := hb03.grown hgv hB3 (fun k hk => by cases hk; exact hbm)
                have OQ4 := OQ.grown hgv (by simpa using hqM)
                have q0 := OQ4.cell 0
                have q1 := OQ4.cell 1
                have q2 := OQ4.cell 2
                simp at q0 q1 q2
                obtain ⟨t1, t2, t3⟩ := tv_at hKL
                have c1 := own_cell hown4 t1
                have c2 := own_cell hown4 t2
                have c3 := own_cell hown4 t3
                have z1 := own_free hown4 (K * 3)
                have z2 := own_free hown4 (K * 3 + 1)
                have z3 := own_free hown4 (K * 3 + 2)
                have hown5 := own_set (own_set (own_set hown4 (i := K * 3) (.int .i64 p1)) (i := K * 3 + 1) (.int .i64 p2)) (i := K * 3 + 2) (.int .i64 (p3 + (j : Int)))
                rw [Hset.out] at hown5
                have hM5 := ((hMv.put_other hgM.symm (K * 3) (.int .i64 p1)).put_other hgM.symm (K * 3 + 1) (.int .i64 p2)).put_other hgM.symm (K * 3 + 2) (.int .i64 (p3 + (j : Int)))
                have hb05 := ((hb04.setCell (p := ⟨g, K * 3, none⟩) hg (.int .i64 p1)).setCell (p := ⟨g, K * 3 + 1, none⟩) hg (.int .i64 p2)).setCell (p := ⟨g, K * 3 + 2, none⟩) hg (.int .i64 (p3 + (j : Int)))
                clear hown3 hown4 hb03 hb04 t1 t2 t3 OQ hn3
                generalize L[K].1 = y1 at *
                generalize L[K].2.1 = y2 at *
                generalize L[K].2.2 = y3 at *
                go_wp2_with fail
                go_roundw
                case rel => exact ⟨i + 1, cnt', L', S ++ Id.ids p1 p2 p3 j, by go_num, by omega, by omega, HlenS.out, hown5, hM5, by omega, hb05, HI2⟩
                case measure => simp [intOf]; omega
      · obtain rfl : i = r := by omega
        go_wp2
        go_ret
        exact ⟨rfl, hb⟩
end Go.Proofs.YtgdhlghklnlahaaDoor
