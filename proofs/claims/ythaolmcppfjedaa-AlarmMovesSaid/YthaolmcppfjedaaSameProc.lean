/- clusterkernelsame.Process on processes of the same numbers whose lists read alike: they are the same. (Written by tools/mksameproc.py.) -/
import Derived.Test.YthaolmcppfjedaaSameFull
import Derived.Test.YthaolmcppfjedaaTbCont
import Derived.Deep.QuietTactic
import Derived.BigQuiet
namespace Go.Proofs.Ythaolmcppfjedaa
open Go.RowKit

set_option maxRecDepth 100000 in
set_option maxHeartbeats 4000000 in
theorem texts_same (A D : Option Addr) (n c d C : Nat) (T : List (List UInt8)) (w : World) (ha : Strs w C A n T) (hb : Strs w C D n T) (hn : n ≤ 1000000) : Calls Try.prog 19 #[.slice A n c, .slice D n d] w (BoolPost true w) := by
  have hn' : (n : Int) ≤ 1000000 := by omega
  go_enter Try.func19, Try.ntmps19
  go_wp2_with fail
  go_loopw [13] (fun s13 wr => ∃ k : Nat, s13 = .int .i64 (k : Int) ∧ k ≤ n ∧ ∃ q, wr = w.drewN q) (fun s13 _ => n - (intOf s13).toNat)
  case atStart => exact ⟨0, rfl, by omega, 0, rfl⟩
  case round =>
    obtain ⟨k, rfl, hk, q, rfl⟩ := hrel
    by_cases hlt : k < n
    · have hlt' : (k : Int) < (n : Int) := by omega
      obtain ⟨ba, oa, hla, rfl, _, hca⟩ := ha.at_ hlt
      obtain ⟨bb, ob, hlb, rfl, _, hcb⟩ := hb.at_ hlt
      obtain ⟨v, hv⟩ : ∃ v, T[k] = v := ⟨_, rfl⟩
      rw [hv] at hca hcb
      have hvv : (v == v) = true := by simp
      clear hv
      go_wp2_with fail
      go_quiet (fail)
      go_wp2
      go_roundw
      case rel => exact ⟨k + 1, by go_num, by omega, _, rfl⟩
      case measure => simp [intOf]; omega
    · obtain rfl : k = n := by omega
      go_wp2
      go_ret
      exact ⟨rfl, ⟨rfl, rfl, rfl, Nat.le_refl _, fun _ _ => rfl⟩⟩

/-- All numbers of the process are the same. -/
structure AlikeP (a b : Ob) : Prop where
  state : a.state = b.state
  parent : a.parent = b.parent
  ppages : a.ppages = b.ppages
  cpu : a.cpu = b.cpu
  pending : a.pending = b.pending
  alarm : a.alarm = b.alarm
  status : a.status = b.status
theorem ins_mid {w : World} {B n : Nat} {A : Option Addr} {l : List Cd.Ins} (h : Inss w B A n l) {i : Nat} (hi : i < n) : ∃ b o, ∃ hl : i < l.length, A = some ⟨b, o, none⟩ ∧ w.cell? ⟨b, o + i * 4, none⟩ = some (.int .i64 l[i].op) ∧ w.cell? ⟨b, o + i * 4 + 1, none⟩ = some (.int .i64 l[i].a) ∧ w.cell? ⟨b, o + i * 4 + 2, none⟩ = some (.int .i64 l[i].b) ∧ w.cell? ⟨b, o + i * 4 + 3, none⟩ = some (.int .i64 l[i].c) := by
  obtain ⟨b, o, hl, e, _, h0, h1, h2, h3⟩ := h.at_ hi
  exact ⟨b, o, hl, e, h0, h1, h2, h3⟩
theorem Holds.drewN {w : World} {B : Nat} {o : Ob} {X : Cont} (h : Holds w B o X) (q : Nat) : Holds (w.drewN q) B o X := h.below ⟨rfl, rfl, rfl, Nat.le_refl _, fun _ _ => rfl⟩
set_option maxRecDepth 100000 in
set_option maxHeartbeats 32000000 in
theorem sameProc_full (a b : Ob) (X : Cont) (W : World) (hn : AlikeP a b) (ha : Holds W W.heap.size a X) (hb : Holds W W.heap.size b X) (hX : X.Short) : Calls Try.prog 12 #[.agg (pcell a), .agg (pcell b)] W (BoolPost true W) := by
  obtain ⟨w1, hw, OA, OB, hbel⟩ := start_two W 34 (pcell a) (pcell b)
  have HB := hide hbel
  have HA := hide (ha.below hbel)
  have HD := hide (hb.below hbel)
  have HX := hide hX
  obtain ⟨nchildren, hnchildren⟩ : ∃ n, X.children.length = n := ⟨_, rfl⟩
  have eachildren : a.children.n = nchildren := by rw [← hnchildren]; exact ha.children.len.symm
  have ebchildren : b.children.n = nchildren := by rw [← hnchildren]; exact hb.children.len.symm
  obtain ⟨ncode, hncode⟩ : ∃ n, X.code.length = n := ⟨_, rfl⟩
  have eacode : a.code.n = ncode := by rw [← hncode]; exact ha.code.len.symm
  have ebcode : b.code.n = ncode := by rw [← hncode]; exact hb.code.len.symm
  obtain ⟨nstrs, hnstrs⟩ : ∃ n, X.strs.length = n := ⟨_, rfl⟩
  have eastrs : a.strs.n = nstrs := by rw [← hnstrs]; exact ha.strs.len.symm
  have ebstrs : b.strs.n = nstrs := by rw [← hnstrs]; exact hb.strs.len.symm
  obtain ⟨npages, hnpages⟩ : ∃ n, X.pages.length = n := ⟨_, rfl⟩
  have eapages : a.pages.n = npages := by rw [← hnpages]; exact ha.pages.len.symm
  have ebpages : b.pages.n = npages := by rw [← hnpages]; exact hb.pages.len.symm
  obtain ⟨ntable, hntable⟩ : ∃ n, X.table.length = n := ⟨_, rfl⟩
  have eatable : a.table.n = ntable := by rw [← hntable]; exact ha.table.len.symm
  have ebtable : b.table.n = ntable := by rw [← hntable]; exact hb.table.len.symm
  have k0 : w1.cell? ⟨W.heap.size, 0, none⟩ = some (.int .i64 a.state) := OA.cell 0
  have m0 : w1.cell? ⟨W.heap.size + 1, 0, none⟩ = some (.int .i64 a.state) := (OB.cell 0).trans (by show some (Value.int .i64 b.state) = _; rw [hn.state])
  have k1 : w1.cell? ⟨W.heap.size, 1, none⟩ = some (.int .u64 a.parent) := OA.cell 1
  have m1 : w1.cell? ⟨W.heap.size + 1, 1, none⟩ = some (.int .u64 a.parent) := (OB.cell 1).trans (by show some (Value.int .u64 b.parent) = _; rw [hn.parent])
  have k5 : w1.cell? ⟨W.heap.size, 5, none⟩ = some (.int .i64 a.ppages) := OA.cell 5
  have m5 : w1.cell? ⟨W.heap.size + 1, 5, none⟩ = some (.int .i64 a.ppages) := (OB.cell 5).trans (by show some (Value.int .i64 b.ppages) = _; rw [hn.ppages])
  have k17 : w1.cell? ⟨W.heap.size, 17, none⟩ = some (.int .i64 a.pending) := OA.cell 17
  have m17 : w1.cell? ⟨W.heap.size + 1, 17, none⟩ = some (.int .i64 a.pending) := (OB.cell 17).trans (by show some (Value.int .i64 b.pending) = _; rw [hn.pending])
  have k18 : w1.cell? ⟨W.heap.size, 18, none⟩ = some (.int .i64 a.alarm) := OA.cell 18
  have m18 : w1.cell? ⟨W.heap.size + 1, 18, none⟩ = some (.int .i64 a.alarm) := (OB.cell 18).trans (by show some (Value.int .i64 b.alarm) = _; rw [hn.alarm])
  have k19 : w1.cell? ⟨W.heap.size, 19, none⟩ = some (.int .i64 a.status) := OA.cell 19
  have m19 : w1.cell? ⟨W.heap.size + 1, 19, none⟩ = some (.int .i64 a.status) := (OB.cell 19).trans (by show some (Value.int .i64 b.status) = _; rw [hn.status])
  have k2 : w1.cell? ⟨W.heap.size, 2, none⟩ = some (.slice a.children.A nchildren a.children.c) := (OA.cell 2).trans (by show some (Value.slice a.children.A a.children.n a.children.c) = _; rw [eachildren])
  have m2 : w1.cell? ⟨W.heap.size + 1, 2, none⟩ = some (.slice b.children.A nchildren b.children.c) := (OB.cell 2).trans (by show some (Value.slice b.children.A b.children.n b.children.c) = _; rw [ebchildren])
  have k3 : w1.cell? ⟨W.heap.size, 3, none⟩ = some (.slice a.code.A ncode a.code.c) := (OA.cell 3).trans (by show some (Value.slice a.code.A a.code.n a.code.c) = _; rw [eacode])
  have m3 : w1.cell? ⟨W.heap.size + 1, 3, none⟩ = some (.slice b.code.A ncode b.code.c) := (OB.cell 3).trans (by show some (Value.slice b.code.A b.code.n b.code.c) = _; rw [ebcode])
  have k4 : w1.cell? ⟨W.heap.size, 4, none⟩ = some (.slice a.strs.A nstrs a.strs.c) := (OA.cell 4).trans (by show some (Value.slice a.strs.A a.strs.n a.strs.c) = _; rw [eastrs])
  have m4 : w1.cell? ⟨W.heap.size + 1, 4, none⟩ = some (.slice b.strs.A nstrs b.strs.c) := (OB.cell 4).trans (by show some (Value.slice b.strs.A b.strs.n b.strs.c) = _; rw [ebstrs])
  have k15 : w1.cell? ⟨W.heap.size, 15, none⟩ = some (.slice a.pages.A npages a.pages.c) := (OA.cell 15).trans (by show some (Value.slice a.pages.A a.pages.n a.pages.c) = _; rw [eapages])
  have m15 : w1.cell? ⟨W.heap.size + 1, 15, none⟩ = some (.slice b.pages.A npages b.pages.c) := (OB.cell 15).trans (by show some (Value.slice b.pages.A b.pages.n b.pages.c) = _; rw [ebpages])
  have k16 : w1.cell? ⟨W.heap.size, 16, none⟩ = some (.slice a.table.A ntable a.table.c) := (OA.cell 16).trans (by show some (Value.slice a.table.A a.table.n a.table.c) = _; rw [eatable])
  have m16 : w1.cell? ⟨W.heap.size + 1, 16, none⟩ = some (.slice b.table.A ntable b.table.c) := (OB.cell 16).trans (by show some (Value.slice b.table.A b.table.n b.table.c) = _; rw [ebtable])
  have Achildren : Hid (Nums .u64 w1 W.heap.size a.children.A nchildren X.children) := hide (by rw [← eachildren]; exact HA.out.children)
  have Bchildren : Hid (Nums .u64 w1 W.heap.size b.children.A nchildren X.children) := hide (by rw [← ebchildren]; exact HD.out.children)
  have Acode : Hid (Inss w1 W.heap.size a.code.A ncode X.code) := hide (by rw [← eacode]; exact HA.out.code)
  have Bcode : Hid (Inss w1 W.heap.size b.code.A ncode X.code) := hide (by rw [← ebcode]; exact HD.out.code)
  have Astrs : Hid (Strs w1 W.heap.size a.strs.A nstrs X.strs) := hide (by rw [← eastrs]; exact HA.out.strs)
  have Bstrs : Hid (Strs w1 W.heap.size b.strs.A nstrs X.strs) := hide (by rw [← ebstrs]; exact HD.out.strs)
  have Apages : Hid (Refs w1 W.heap.size a.pages.A npages X.pages) := hide (by rw [← eapages]; exact HA.out.pages)
  have Bpages : Hid (Refs w1 W.heap.size b.pages.A npages X.pages) := hide (by rw [← ebpages]; exact HD.out.pages)
  have Atable : Hid (Slots w1 W.heap.size a.table.A ntable X.table) := hide (by rw [← eatable]; exact HA.out.table)
  have Btable : Hid (Slots w1 W.heap.size b.table.A ntable X.table) := hide (by rw [← ebtable]; exact HD.out.table)
  have schildren : nchildren ≤ 100000 := by rw [← hnchildren]; exact HX.out.1
  have tchildren : (nchildren : Int) ≤ 100000 := by omega
  have scode : ncode ≤ 100000 := by rw [← hncode]; exact HX.out.2.1
  have tcode : (ncode : Int) ≤ 100000 := by omega
  have sstrs : nstrs ≤ 100000 := by rw [← hnstrs]; exact HX.out.2.2.1
  have tstrs : (nstrs : Int) ≤ 100000 := by omega
  have spages : npages ≤ 100000 := by rw [← hnpages]; exact HX.out.2.2.2.1
  have tpages : (npages : Int) ≤ 100000 := by omega
  have stable : ntable ≤ 100000 := by rw [← hntable]; exact HX.out.2.2.2.2.1
  have ttable : (ntable : Int) ≤ 100000 := by omega
  generalize a.state = x0 at k0 m0
  generalize a.parent = x1 at k1 m1
  generalize a.ppages = x5 at k5 m5
  generalize a.pending = x17 at k17 m17
  generalize a.alarm = x18 at k18 m18
  generalize a.status = x19 at k19 m19
  have HC : Hid (decide (a.cpu = b.cpu) = true) := hide (decide_eq_true hn.cpu)
  clear hbel hn ha hb hX HA HD eachildren ebchildren hnchildren eacode ebcode hncode eastrs ebstrs hnstrs eapages ebpages hnpages eatable ebtable hntable
  go_enter Try.func12, Try.ntmps12
  dsimp only [List.append]
  go_wp2_with (first | (refine wpList_val (by rfl) (exec_load_pcpu rfl rfl OA) ?_) | (refine wpList_val (by rfl) (exec_load_pcpu rfl rfl OB) ?_) | (refine wpList_val (by rfl) (exec_neq_cpu rfl rfl rfl (x := a.cpu) (y := b.cpu) rfl rfl) ?_; rw [HC.out]) | fail)
  go_loopw [90] (fun s wr => ∃ k : Nat, s = .int .i64 (k : Int) ∧ k ≤ ncode ∧ ∃ q, wr = w1.drewN q) (fun s _ => ncode - (intOf s).toNat)
  case atStart => exact ⟨0, rfl, by omega, by first | exact ⟨0, rfl⟩ | exact ⟨_, rfl⟩⟩
  case round =>
    obtain ⟨k, rfl, hk, q, rfl⟩ := hrel
    by_cases hlt : k < ncode
    · have hlt' : (k : Int) < (ncode : Int) := by omega
      obtain ⟨ba, oa, hla, ra, c0, c1, c2, c3⟩ := ins_mid Acode.out hlt
      obtain ⟨bb, ob, hlb, rb, d0, d1, d2, d3⟩ := ins_mid Bcode.out hlt
      rw [ra] at k3
      rw [rb] at m3
      generalize X.code[k] = y at c0 d0 c1 d1 c2 d2 c3 d3
      have e0 : (y.op == y.op) = true := by simp
      have e1 : (y.a == y.a) = true := by simp
      have e2 : (y.b == y.b) = true := by simp
      have e3 : (y.c == y.c) = true := by simp
      clear ra rb
      go_wp2_with fail
      go_quiet (fail)
      go_wp2
      go_roundw
      case rel => exact ⟨k + 1, by go_num, by omega, _, rfl⟩
      case measure => simp [intOf]; omega
    · obtain rfl : k = ncode := by omega
      go_wp2_with fail
      go_loopw [110] (fun s wr => ∃ k : Nat, s = .int .i64 (k : Int) ∧ k ≤ npages ∧ ∃ q, wr = w1.drewN q) (fun s _ => npages - (intOf s).toNat)
      case atStart => exact ⟨0, rfl, by omega, by first | exact ⟨0, rfl⟩ | exact ⟨_, rfl⟩⟩
      case round =>
        obtain ⟨k, rfl, hk, q, rfl⟩ := hrel
        by_cases hlt : k < npages
        · have hlt' : (k : Int) < (npages : Int) := by omega
          obtain ⟨ba, oa, hla, ra, _, c0, c1⟩ := Apages.out.at_ hlt
          obtain ⟨bb, ob, hlb, rb, _, d0, d1⟩ := Bpages.out.at_ hlt
          rw [ra] at k15
          rw [rb] at m15
          generalize X.pages[k] = y at c0 d0 c1 d1
          have e0 : (y.id == y.id) = true := by simp
          have e1 : (y.sh == y.sh) = true := by simp
          clear ra rb
          go_wp2_with fail
          go_quiet (fail)
          go_wp2
          go_roundw
          case rel => exact ⟨k + 1, by go_num, by omega, _, rfl⟩
          case measure => simp [intOf]; omega
        · obtain rfl : k = npages := by omega
          go_wp2_with fail
          go_loopw [128] (fun s wr => ∃ k : Nat, s = .int .i64 (k : Int) ∧ k ≤ ntable ∧ ∃ q, wr = w1.drewN q) (fun s _ => ntable - (intOf s).toNat)
          case atStart => exact ⟨0, rfl, by omega, by first | exact ⟨0, rfl⟩ | exact ⟨_, rfl⟩⟩
          case round =>
            obtain ⟨k, rfl, hk, q, rfl⟩ := hrel
            by_cases hlt : k < ntable
            · have hlt' : (k : Int) < (ntable : Int) := by omega
              obtain ⟨ba, oa, hla, ra, _, c0, c1, c2, c3⟩ := Atable.out.at_ hlt
              obtain ⟨bb, ob, hlb, rb, _, d0, d1, d2, d3⟩ := Btable.out.at_ hlt
              rw [ra] at k16
              rw [rb] at m16
              generalize X.table[k] = y at c0 d0 c1 d1 c2 d2 c3 d3
              have e0 : (y.kind == y.kind) = true := by simp
              have e1 : (y.desc == y.desc) = true := by simp
              have e2 : (y.target == y.target) = true := by simp
              have e3 : (y.fin == y.fin) = true := by simp
              clear ra rb
              go_wp2_with fail
              go_quiet (fail)
              go_wp2
              go_roundw
              case rel => exact ⟨k + 1, by go_num, by omega, _, rfl⟩
              case measure => simp [intOf]; omega
            · obtain rfl : k = ntable := by omega
              go_wp2_with fail
              refine (ids_same _ _ _ _ _ W.heap.size X.children _ (Achildren.out.drewN _) (Bchildren.out.drewN _) (by omega)).mono ?_
              rintro e w2 ⟨rfl, hb2⟩
              have HB2 := hide ((HB.out.trans ⟨rfl, rfl, rfl, Nat.le_refl _, fun _ _ => rfl⟩ : Below W.heap.size W (w1.drewN _)).trans (hb2.mono HB.out.size))
              have As2 := hide ((Astrs.out.drewN _).belowLe hb2 HB.out.size)
              have Bs2 := hide ((Bstrs.out.drewN _).belowLe hb2 HB.out.size)
              have k4' : w2.cell? ⟨W.heap.size, 4, none⟩ = some (.slice a.strs.A nstrs a.strs.c) := (hb2.cell (p := ⟨W.heap.size, 4, none⟩) OA.lt).trans k4
              have m4' : w2.cell? ⟨W.heap.size + 1, 4, none⟩ = some (.slice b.strs.A nstrs b.strs.c) := (hb2.cell (p := ⟨W.heap.size + 1, 4, none⟩) OB.lt).trans m4
              clear hb2
              go_wp2_with fail
              refine (texts_same _ _ _ _ _ W.heap.size X.strs _ As2.out Bs2.out (by omega)).mono ?_
              rintro e w3 ⟨rfl, hb3⟩
              have HB3 := hide (HB2.out.trans (hb3.mono HB2.out.size))
              clear hb3
              go_wp2_with fail
              go_ret
              exact ⟨rfl, HB3.out⟩
end Go.Proofs.Ythaolmcppfjedaa
