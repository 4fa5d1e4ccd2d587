/- clusterkernelsame.Process on processes of the same numbers whose lists read alike: they are the same. (Written by tools/mksameproc.py.) | What Hold and Drop answer, and what the reference answers, are the same objects; made objects and what their lists hold. -/
import Derived.Test.YtejhnfeligifgaaSameFull
import Derived.Test.YtejhnfeligifgaaTcCop
import Derived.Deep.QuietTactic
import Derived.BigQuiet
import Derived.Test.YtejhnfeligifgaaTcHold
import Derived.Test.YtejhnfeligifgaaObOwn
import Derived.Test.YtejhnfeligifgaaKeepOb
namespace Go.Proofs.Ytejhnfeligifgaa
open Go.RowKit

set_option maxRecDepth 100000 in
set_option maxHeartbeats 4000000 in
theorem texts_same (A D : Option Addr) (n c d C : Nat) (T : List (List UInt8)) (w : World) (ha : Strs w C A n T) (hb : Strs w C D n T) (hn : n ≤ 1000000) : Calls Try.prog 80 #[.slice A n c, .slice D n d] w (BoolPost true w) := by
  have hn' : (n : Int) ≤ 1000000 := by omega
  go_enter Try.func80, Try.ntmps80
  go_wp2_with fail
  go_loopw [13] (fun s13 wr => ∃ k : Nat, s13 = .int .i64 (k : Int) ∧ k ≤ n ∧ ∃ q, wr = w.drewN q) (fun s13 _ => n - (intOf s13).toNat)
  case atStart => exact ⟨0, rfl, by omega, 0, rfl⟩
  case round =>
    obtain ⟨k, rfl, hk, q, rfl⟩ := hrel
    by_cases hlt : k < n
    · have hlt' : (k : Int) < (n : Int) := by omega
      obtain ⟨ba, oa, hla, rfl, _, hca⟩ := ha.at_ hlt
      obtain ⟨bb, ob, hlb, rfl, _, hcb⟩ := hb.at_ hlt
      obtain ⟨v, hv⟩ : ∃ v, T[k] = v := ⟨_, rfl⟩
      rw [hv] at hca hcb
      have hvv : (v == v) = true := by simp
      clear hv
      go_wp2_with fail
      go_quiet (fail)
      go_wp2
      go_roundw
      case rel => exact ⟨k + 1, by go_num, by omega, _, rfl⟩
      case measure => simp [intOf]; omega
    · obtain rfl : k = n := by omega
      go_wp2
      go_ret
      exact ⟨rfl, ⟨rfl, rfl, rfl, Nat.le_refl _, fun _ _ => rfl⟩⟩

/-- All numbers of the process are the same. -/
structure AlikeP (a b : Ob) : Prop where
  state : a.state = b.state
  parent : a.parent = b.parent
  ppages : a.ppages = b.ppages
  cpu : a.cpu = b.cpu
  pending : a.pending = b.pending
  alarm : a.alarm = b.alarm
  status : a.status = b.status
theorem ins_mid {w : World} {B n : Nat} {A : Option Addr} {l : List Cd.Ins} (h : Inss w B A n l) {i : Nat} (hi : i < n) : ∃ b o, ∃ hl : i < l.length, A = some ⟨b, o, none⟩ ∧ w.cell? ⟨b, o + i * 4, none⟩ = some (.int .i64 l[i].op) ∧ w.cell? ⟨b, o + i * 4 + 1, none⟩ = some (.int .i64 l[i].a) ∧ w.cell? ⟨b, o + i * 4 + 2, none⟩ = some (.int .i64 l[i].b) ∧ w.cell? ⟨b, o + i * 4 + 3, none⟩ = some (.int .i64 l[i].c) := by
  obtain ⟨b, o, hl, e, _, h0, h1, h2, h3⟩ := h.at_ hi
  exact ⟨b, o, hl, e, h0, h1, h2, h3⟩
theorem Holds.drewN {w : World} {B : Nat} {o : Ob} {X : Cont} (h : Holds w B o X) (q : Nat) : Holds (w.drewN q) B o X := h.below ⟨rfl, rfl, rfl, Nat.le_refl _, fun _ _ => rfl⟩
set_option maxRecDepth 100000 in
set_option maxHeartbeats 32000000 in
theorem sameProc_full (a b : Ob) (X : Cont) (W : World) (hn : AlikeP a b) (ha : Holds W W.heap.size a X) (hb : Holds W W.heap.size b X) (hX : X.Short) : Calls Try.prog 59 #[.agg (pcell a), .agg (pcell b)] W (BoolPost true W) := by
  obtain ⟨w1, hw, OA, OB, hbel⟩ := start_two W 56 (pcell a) (pcell b)
  have HB := hide hbel
  have HA := hide (ha.below hbel)
  have HD := hide (hb.below hbel)
  have HX := hide hX
  obtain ⟨nchildren, hnchildren⟩ : ∃ n, X.children.length = n := ⟨_, rfl⟩
  have eachildren : a.children.n = nchildren := by rw [← hnchildren]; exact ha.children.len.symm
  have ebchildren : b.children.n = nchildren := by rw [← hnchildren]; exact hb.children.len.symm
  obtain ⟨ncode, hncode⟩ : ∃ n, X.code.length = n := ⟨_, rfl⟩
  have eacode : a.code.n = ncode := by rw [← hncode]; exact ha.code.len.symm
  have ebcode : b.code.n = ncode := by rw [← hncode]; exact hb.code.len.symm
  obtain ⟨nstrs, hnstrs⟩ : ∃ n, X.strs.length = n := ⟨_, rfl⟩
  have eastrs : a.strs.n = nstrs := by rw [← hnstrs]; exact ha.strs.len.symm
  have ebstrs : b.strs.n = nstrs := by rw [← hnstrs]; exact hb.strs.len.symm
  obtain ⟨npages, hnpages⟩ : ∃ n, X.pages.length = n := ⟨_, rfl⟩
  have eapages : a.pages.n = npages := by rw [← hnpages]; exact ha.pages.len.symm
  have ebpages : b.pages.n = npages := by rw [← hnpages]; exact hb.pages.len.symm
  obtain ⟨ntable, hntable⟩ : ∃ n, X.table.length = n := ⟨_, rfl⟩
  have eatable : a.table.n = ntable := by rw [← hntable]; exact ha.table.len.symm
  have ebtable : b.table.n = ntable := by rw [← hntable]; exact hb.table.len.symm
  have k0 : w1.cell? ⟨W.heap.size, 0, none⟩ = some (.int .i64 a.state) := OA.cell 0
  have m0 : w1.cell? ⟨W.heap.size + 1, 0, none⟩ = some (.int .i64 a.state) := (OB.cell 0).trans (by show some (Value.int .i64 b.state) = _; rw [hn.state])
  have k1 : w1.cell? ⟨W.heap.size, 1, none⟩ = some (.int .u64 a.parent) := OA.cell 1
  have m1 : w1.cell? ⟨W.heap.size + 1, 1, none⟩ = some (.int .u64 a.parent) := (OB.cell 1).trans (by show some (Value.int .u64 b.parent) = _; rw [hn.parent])
  have k5 : w1.cell? ⟨W.heap.size, 5, none⟩ = some (.int .i64 a.ppages) := OA.cell 5
  have m5 : w1.cell? ⟨W.heap.size + 1, 5, none⟩ = some (.int .i64 a.ppages) := (OB.cell 5).trans (by show some (Value.int .i64 b.ppages) = _; rw [hn.ppages])
  have k17 : w1.cell? ⟨W.heap.size, 17, none⟩ = some (.int .i64 a.pending) := OA.cell 17
  have m17 : w1.cell? ⟨W.heap.size + 1, 17, none⟩ = some (.int .i64 a.pending) := (OB.cell 17).trans (by show some (Value.int .i64 b.pending) = _; rw [hn.pending])
  have k18 : w1.cell? ⟨W.heap.size, 18, none⟩ = some (.int .i64 a.alarm) := OA.cell 18
  have m18 : w1.cell? ⟨W.heap.size + 1, 18, none⟩ = some (.int .i64 a.alarm) := (OB.cell 18).trans (by show some (Value.int .i64 b.alarm) = _; rw [hn.alarm])
  have k19 : w1.cell? ⟨W.heap.size, 19, none⟩ = some (.int .i64 a.status) := OA.cell 19
  have m19 : w1.cell? ⟨W.heap.size + 1, 19, none⟩ = some (.int .i64 a.status) := (OB.cell 19).trans (by show some (Value.int .i64 b.status) = _; rw [hn.status])
  have k2 : w1.cell? ⟨W.heap.size, 2, none⟩ = some (.slice a.children.A nchildren a.children.c) := (OA.cell 2).trans (by show some (Value.slice a.children.A a.children.n a.children.c) = _; rw [eachildren])
  have m2 : w1.cell? ⟨W.heap.size + 1, 2, none⟩ = some (.slice b.children.A nchildren b.children.c) := (OB.cell 2).trans (by show some (Value.slice b.children.A b.children.n b.children.c) = _; rw [ebchildren])
  have k3 : w1.cell? ⟨W.heap.size, 3, none⟩ = some (.slice a.code.A ncode a.code.c) := (OA.cell 3).trans (by show some (Value.slice a.code.A a.code.n a.code.c) = _; rw [eacode])
  have m3 : w1.cell? ⟨W.heap.size + 1, 3, none⟩ = some (.slice b.code.A ncode b.code.c) := (OB.cell 3).trans (by show some (Value.slice b.code.A b.code.n b.code.c) = _; rw [ebcode])
  have k4 : w1.cell? ⟨W.heap.size, 4, none⟩ = some (.slice a.strs.A nstrs a.strs.c) := (OA.cell 4).trans (by show some (Value.slice a.strs.A a.strs.n a.strs.c) = _; rw [eastrs])
  have m4 : w1.cell? ⟨W.heap.size + 1, 4, none⟩ = some (.slice b.strs.A nstrs b.strs.c) := (OB.cell 4).trans (by show some (Value.slice b.strs.A b.strs.n b.strs.c) = _; rw [ebstrs])
  have k15 : w1.cell? ⟨W.heap.size, 15, none⟩ = some (.slice a.pages.A npages a.pages.c) := (OA.cell 15).trans (by show some (Value.slice a.pages.A a.pages.n a.pages.c) = _; rw [eapages])
  have m15 : w1.cell? ⟨W.heap.size + 1, 15, none⟩ = some (.slice b.pages.A npages b.pages.c) := (OB.cell 15).trans (by show some (Value.slice b.pages.A b.pages.n b.pages.c) = _; rw [ebpages])
  have k16 : w1.cell? ⟨W.heap.size, 16, none⟩ = some (.slice a.table.A ntable a.table.c) := (OA.cell 16).trans (by show some (Value.slice a.table.A a.table.n a.table.c) = _; rw [eatable])
  have m16 : w1.cell? ⟨W.heap.size + 1, 16, none⟩ = some (.slice b.table.A ntable b.table.c) := (OB.cell 16).trans (by show some (Value.slice b.table.A b.table.n b.table.c) = _; rw [ebtable])
  have Achildren : Hid (Nums .u64 w1 W.heap.size a.children.A nchildren X.children) := hide (by rw [← eachildren]; exact HA.out.children)
  have Bchildren : Hid (Nums .u64 w1 W.heap.size b.children.A nchildren X.children) := hide (by rw [← ebchildren]; exact HD.out.children)
  have Acode : Hid (Inss w1 W.heap.size a.code.A ncode X.code) := hide (by rw [← eacode]; exact HA.out.code)
  have Bcode : Hid (Inss w1 W.heap.size b.code.A ncode X.code) := hide (by rw [← ebcode]; exact HD.out.code)
  have Astrs : Hid (Strs w1 W.heap.size a.strs.A nstrs X.strs) := hide (by rw [← eastrs]; exact HA.out.strs)
  have Bstrs : Hid (Strs w1 W.heap.size b.strs.A nstrs X.strs) := hide (by rw [← ebstrs]; exact HD.out.strs)
  have Apages : Hid (Refs w1 W.heap.size a.pages.A npages X.pages) := hide (by rw [← eapages]; exact HA.out.pages)
  have Bpages : Hid (Refs w1 W.heap.size b.pages.A npages X.pages) := hide (by rw [← ebpages]; exact HD.out.pages)
  have Atable : Hid (Slots w1 W.heap.size a.table.A ntable X.table) := hide (by rw [← eatable]; exact HA.out.table)
  have Btable : Hid (Slots w1 W.heap.size b.table.A ntable X.table) := hide (by rw [← ebtable]; exact HD.out.table)
  have schildren : nchildren ≤ 100000 := by rw [← hnchildren]; exact HX.out.1
  have tchildren : (nchildren : Int) ≤ 100000 := by omega
  have scode : ncode ≤ 100000 := by rw [← hncode]; exact HX.out.2.1
  have tcode : (ncode : Int) ≤ 100000 := by omega
  have sstrs : nstrs ≤ 100000 := by rw [← hnstrs]; exact HX.out.2.2.1
  have tstrs : (nstrs : Int) ≤ 100000 := by omega
  have spages : npages ≤ 100000 := by rw [← hnpages]; exact HX.out.2.2.2.1
  have tpages : (npages : Int) ≤ 100000 := by omega
  have stable : ntable ≤ 100000 := by rw [← hntable]; exact HX.out.2.2.2.2.1
  have ttable : (ntable : Int) ≤ 100000 := by omega
  generalize a.state = x0 at k0 m0
  generalize a.parent = x1 at k1 m1
  generalize a.ppages = x5 at k5 m5
  generalize a.pending = x17 at k17 m17
  generalize a.alarm = x18 at k18 m18
  generalize a.status = x19 at k19 m19
  have HC : Hid (decide (a.cpu = b.cpu) = true) := hide (decide_eq_true hn.cpu)
  clear hbel hn ha hb hX HA HD eachildren ebchildren hnchildren eacode ebcode hncode eastrs ebstrs hnstrs eapages ebpages hnpages eatable ebtable hntable
  go_enter Try.func59, Try.ntmps59
  dsimp only [List.append]
  go_wp2_with (first | (refine wpList_val (by rfl) (exec_load_pcpu rfl rfl OA) ?_) | (refine wpList_val (by rfl) (exec_load_pcpu rfl rfl OB) ?_) | (refine wpList_val (by rfl) (exec_neq_cpu rfl rfl rfl (x := a.cpu) (y := b.cpu) rfl rfl) ?_; rw [HC.out]) | fail)
  go_loopw [90] (fun s wr => ∃ k : Nat, s = .int .i64 (k : Int) ∧ k ≤ ncode ∧ ∃ q, wr = w1.drewN q) (fun s _ => ncode - (intOf s).toNat)
  case atStart => exact ⟨0, rfl, by omega, by first | exact ⟨0, rfl⟩ | exact ⟨_, rfl⟩⟩
  case round =>
    obtain ⟨k, rfl, hk, q, rfl⟩ := hrel
    by_cases hlt : k < ncode
    · have hlt' : (k : Int) < (ncode : Int) := by omega
      obtain ⟨ba, oa, hla, ra, c0, c1, c2, c3⟩ := ins_mid Acode.out hlt
      obtain ⟨bb, ob, hlb, rb, d0, d1, d2, d3⟩ := ins_mid Bcode.out hlt
      rw [ra] at k3
      rw [rb] at m3
      generalize X.code[k] = y at c0 d0 c1 d1 c2 d2 c3 d3
      have e0 : (y.op == y.op) = true := by simp
      have e1 : (y.a == y.a) = true := by simp
      have e2 : (y.b == y.b) = true := by simp
      have e3 : (y.c == y.c) = true := by simp
      clear ra rb
      go_wp2_with fail
      go_quiet (fail)
      go_wp2
      go_roundw
      case rel => exact ⟨k + 1, by go_num, by omega, _, rfl⟩
      case measure => simp [intOf]; omega
    · obtain rfl : k = ncode := by omega
      go_wp2_with fail
      go_loopw [110] (fun s wr => ∃ k : Nat, s = .int .i64 (k : Int) ∧ k ≤ npages ∧ ∃ q, wr = w1.drewN q) (fun s _ => npages - (intOf s).toNat)
      case atStart => exact ⟨0, rfl, by omega, by first | exact ⟨0, rfl⟩ | exact ⟨_, rfl⟩⟩
      case round =>
        obtain ⟨k, rfl, hk, q, rfl⟩ := hrel
        by_cases hlt : k < npages
        · have hlt' : (k : Int) < (npages : Int) := by omega
          obtain ⟨ba, oa, hla, ra, _, c0, c1⟩ := Apages.out.at_ hlt
          obtain ⟨bb, ob, hlb, rb, _, d0, d1⟩ := Bpages.out.at_ hlt
          rw [ra] at k15
          rw [rb] at m15
          generalize X.pages[k] = y at c0 d0 c1 d1
          have e0 : (y.id == y.id) = true := by simp
          have e1 : (y.sh == y.sh) = true := by simp
          clear ra rb
          go_wp2_with fail
          go_quiet (fail)
          go_wp2
          go_roundw
          case rel => exact ⟨k + 1, by go_num, by omega, _, rfl⟩
          case measure => simp [intOf]; omega
        · obtain rfl : k = npages := by omega
          go_wp2_with fail
          go_loopw [128] (fun s wr => ∃ k : Nat, s = .int .i64 (k : Int) ∧ k ≤ ntable ∧ ∃ q, wr = w1.drewN q) (fun s _ => ntable - (intOf s).toNat)
          case atStart => exact ⟨0, rfl, by omega, by first | exact ⟨0, rfl⟩ | exact ⟨_, rfl⟩⟩
          case round =>
            obtain ⟨k, rfl, hk, q, rfl⟩ := hrel
            by_cases hlt : k < ntable
            · have hlt' : (k : Int) < (ntable : Int) := by omega
              obtain ⟨ba, oa, hla, ra, _, c0, c1, c2, c3⟩ := Atable.out.at_ hlt
              obtain ⟨bb, ob, hlb, rb, _, d0, d1, d2, d3⟩ := Btable.out.at_ hlt
              rw [ra] at k16
              rw [rb] at m16
              generalize X.table[k] = y at c0 d0 c1 d1 c2 d2 c3 d3
              have e0 : (y.kind == y.kind) = true := by simp
              have e1 : (y.desc == y.desc) = true := by simp
              have e2 : (y.target == y.target) = true := by simp
              have e3 : (y.fin == y.fin) = true := by simp
              clear ra rb
              go_wp2_with fail
              go_quiet (fail)
              go_wp2
              go_roundw
              case rel => exact ⟨k + 1, by go_num, by omega, _, rfl⟩
              case measure => simp [intOf]; omega
            · obtain rfl : k = ntable := by omega
              go_wp2_with fail
              refine (ids_same _ _ _ _ _ W.heap.size X.children _ (Achildren.out.drewN _) (Bchildren.out.drewN _) (by omega)).mono ?_
              rintro e w2 ⟨rfl, hb2⟩
              have HB2 := hide ((HB.out.trans ⟨rfl, rfl, rfl, Nat.le_refl _, fun _ _ => rfl⟩ : Below W.heap.size W (w1.drewN _)).trans (hb2.mono HB.out.size))
              have As2 := hide ((Astrs.out.drewN _).belowLe hb2 HB.out.size)
              have Bs2 := hide ((Bstrs.out.drewN _).belowLe hb2 HB.out.size)
              have k4' : w2.cell? ⟨W.heap.size, 4, none⟩ = some (.slice a.strs.A nstrs a.strs.c) := (hb2.cell (p := ⟨W.heap.size, 4, none⟩) OA.lt).trans k4
              have m4' : w2.cell? ⟨W.heap.size + 1, 4, none⟩ = some (.slice b.strs.A nstrs b.strs.c) := (hb2.cell (p := ⟨W.heap.size + 1, 4, none⟩) OB.lt).trans m4
              clear hb2
              go_wp2_with fail
              refine (texts_same _ _ _ _ _ W.heap.size X.strs _ As2.out Bs2.out (by omega)).mono ?_
              rintro e w3 ⟨rfl, hb3⟩
              have HB3 := hide (HB2.out.trans (hb3.mono HB2.out.size))
              clear hb3
              go_wp2_with fail
              go_ret
              exact ⟨rfl, HB3.out⟩
end Go.Proofs.Ytejhnfeligifgaa
namespace Go.Proofs.Ytejhnfeligifgaa
open Go.RowKit

theorem same_held (a b : Ob) (X : Cont) (W : World) (hn : Alike a b) (hp : AlikeP a b) (ha : Holds W W.heap.size a X) (hb : Holds W W.heap.size b X) (hX : X.Short) :
    Calls Try.prog 30 #[.agg (oc a), .agg (oc b)] W (BoolPost true W) := by
  have hP : ∀ w, Below W.heap.size W w → Calls Try.prog 59 #[.agg (pcell a), .agg (pcell b)] w (BoolPost true w) := fun w hw => sameProc_full a b X w hp (ha.later hw) (hb.later hw) hX
  obtain ⟨s1, s2, s3, s4, s5, s6, s7, s8, s9, s10, s11, s12⟩ := hX
  have hB : Both W a b X.words X.data X.q0 X.q1 X.backlog := ⟨ha.words, hb.words, ha.data, hb.data, ha.q0, hb.q0, ha.q1, hb.q1, ha.backlog, hb.backlog, by omega⟩
  obtain ⟨l, hl⟩ := ha.names
  obtain ⟨r, hr⟩ := hb.names
  by_cases h0 : X.names.length = 0
  · exact same_ob a b _ _ _ _ _ W hn (by rw [← hl.len, h0]) (by rw [← hr.len, h0]) hB hP
  · exact same_full a b _ _ _ _ _ l r X.names W hn hl hr ⟨by omega, fun x hx => by have := s12 x hx; omega⟩ h0 hB hP
/-- The answer of a function that counts. -/
def HoldIs (w : World) (a o : Ob) (s : Tb.Slot) (v r : Int) (X : Cont) : Prop := (r ≠ 0 ∧ a = Ob.zero) ∨ (r = 0 ∧ ∃ c, a = (o.relist c).setCnt s v ∧ Holds w w.heap.size c X)
theorem HoldIs.later {w w' : World} {a o : Ob} {s : Tb.Slot} {v r : Int} {X : Cont} (h : HoldIs w a o s v r X) (hb : Below w.heap.size w w') : HoldIs w' a o s v r X := h.imp id fun h => ⟨h.1, h.2.imp fun _ h => ⟨h.1, h.2.later hb⟩⟩
def RefIs (b o : Ob) (s : Tb.Slot) (v r : Int) : Prop := (r ≠ 0 ∧ b = Ob.zero) ∨ (r = 0 ∧ b = o.setCnt s v)
theorem setCnt_holds {w : World} {B : Nat} {o : Ob} {X : Cont} (h : Holds w B o X) (s : Tb.Slot) (v : Int) : Holds w B (o.setCnt s v) X := by
  unfold Ob.setCnt
  split
  · exact ⟨h.children, h.code, h.strs, h.pages, h.table, h.words, h.data, h.backlog, h.q0, h.q1, h.names⟩
  · split
    · exact ⟨h.children, h.code, h.strs, h.pages, h.table, h.words, h.data, h.backlog, h.q0, h.q1, h.names⟩
    · split
      · split
        · exact ⟨h.children, h.code, h.strs, h.pages, h.table, h.words, h.data, h.backlog, h.q0, h.q1, h.names⟩
        · exact ⟨h.children, h.code, h.strs, h.pages, h.table, h.words, h.data, h.backlog, h.q0, h.q1, h.names⟩
      · exact ⟨h.children, h.code, h.strs, h.pages, h.table, h.words, h.data, h.backlog, h.q0, h.q1, h.names⟩
theorem setCnt_alike (o c : Ob) (s : Tb.Slot) (v : Int) : Alike ((o.relist c).setCnt s v) (o.setCnt s v) ∧ AlikeP ((o.relist c).setCnt s v) (o.setCnt s v) := by
  unfold Ob.setCnt
  split
  · exact ⟨⟨rfl, rfl, rfl, rfl, rfl, rfl, rfl, rfl, rfl, rfl⟩, ⟨rfl, rfl, rfl, rfl, rfl, rfl, rfl⟩⟩
  · split
    · exact ⟨⟨rfl, rfl, rfl, rfl, rfl, rfl, rfl, rfl, rfl, rfl⟩, ⟨rfl, rfl, rfl, rfl, rfl, rfl, rfl⟩⟩
    · split
      · split
        · exact ⟨⟨rfl, rfl, rfl, rfl, rfl, rfl, rfl, rfl, rfl, rfl⟩, ⟨rfl, rfl, rfl, rfl, rfl, rfl, rfl⟩⟩
        · exact ⟨⟨rfl, rfl, rfl, rfl, rfl, rfl, rfl, rfl, rfl, rfl⟩, ⟨rfl, rfl, rfl, rfl, rfl, rfl, rfl⟩⟩
      · exact ⟨⟨rfl, rfl, rfl, rfl, rfl, rfl, rfl, rfl, rfl, rfl⟩, ⟨rfl, rfl, rfl, rfl, rfl, rfl, rfl⟩⟩
theorem Ob.zero_bald0 : Ob.zero.Bald := by constructor <;> rfl
theorem same_hold {w : World} {a b o : Ob} {s : Tb.Slot} {v r : Int} {X : Cont} (ha : HoldIs w a o s v r X) (hb : RefIs b o s v r) (ho : Holds w w.heap.size o X) (hX : X.Short) :
    Calls Try.prog 30 #[.agg (oc a), .agg (oc b)] w (BoolPost true w) := by
  rcases ha with ⟨h1, rfl⟩ | ⟨h1, c, rfl, hc⟩
  · rcases hb with ⟨_, rfl⟩ | ⟨h2, _⟩
    · exact same_held Ob.zero Ob.zero Cont.none w ⟨rfl, rfl, rfl, rfl, rfl, rfl, rfl, rfl, rfl, rfl⟩ ⟨rfl, rfl, rfl, rfl, rfl, rfl, rfl⟩ (Holds.bald (Ob.zero_bald0) w _) (Holds.bald (Ob.zero_bald0) w _) Cont.none_short
    · exact absurd h2 h1
  · rcases hb with ⟨h2, _⟩ | ⟨_, rfl⟩
    · exact absurd h1 h2
    · exact same_held _ _ X w (setCnt_alike o c s v).1 (setCnt_alike o c s v).2 (setCnt_holds hc.relist s v) (setCnt_holds ho s v) hX
/-- Hold, Drop: an object and an error, as one case. -/
theorem hold_post {o : Ob} {s : Tb.Slot} {v r : Int} {X : Cont} {w w' : World} {e : Ending} (h : HeldPost r o s v X w e w') : ∃ a, e = .returned (.tuple #[.agg (oc a), .int .i64 r]) ∧ HoldIs w' a o s v r X ∧ Below w.heap.size w w' := by
  obtain ⟨h | h, hb⟩ := h
  · exact ⟨Ob.zero, h.2, .inl ⟨h.1, rfl⟩, hb⟩
  · obtain ⟨rfl, c, he, hc⟩ := h
    exact ⟨_, he, .inr ⟨rfl, c, rfl, hc⟩, hb⟩
theorem rheld_post {o : Ob} {s : Tb.Slot} {v r : Int} {w w' : World} {e : Ending} (h : RHeld r (o.setCnt s v) w e w') : ∃ a, e = .returned (.tuple #[.agg (oc a), .int .i64 r]) ∧ RefIs a o s v r ∧ Below w.heap.size w w' := by
  obtain ⟨h | h, hb⟩ := h
  · exact ⟨Ob.zero, h.2, .inl ⟨h.1, rfl⟩, hb⟩
  · obtain ⟨rfl, he⟩ := h
    exact ⟨_, he, .inr ⟨rfl, rfl⟩, hb⟩
def goneIf (r : Int) (o : Ob) (s : Tb.Slot) (v : Int) : Bool := if r = 0 then (o.setCnt s v).gone else false
theorem drop_post {o : Ob} {s : Tb.Slot} {v r : Int} {X : Cont} {w w' : World} {e : Ending} (h : DropPost r o s v X w e w') : ∃ a, e = .returned (.tuple #[.agg (oc a), .bool (goneIf r o s v), .int .i64 r]) ∧ HoldIs w' a o s v r X ∧ Below w.heap.size w w' := by
  obtain ⟨h | h, hb⟩ := h
  · exact ⟨Ob.zero, by rw [h.2, goneIf, if_neg h.1], .inl ⟨h.1, rfl⟩, hb⟩
  · obtain ⟨rfl, c, he, hc⟩ := h
    exact ⟨_, he, .inr ⟨rfl, c, rfl, hc⟩, hb⟩
theorem rdrop_post {o : Ob} {s : Tb.Slot} {v r : Int} {w w' : World} {e : Ending} (h : RDrop r (o.setCnt s v) w e w') : ∃ a, e = .returned (.tuple #[.agg (oc a), .bool (goneIf r o s v), .int .i64 r]) ∧ RefIs a o s v r ∧ Below w.heap.size w w' := by
  obtain ⟨h | h, hb⟩ := h
  · exact ⟨Ob.zero, by rw [h.2, goneIf, if_neg h.1], .inl ⟨h.1, rfl⟩, hb⟩
  · obtain ⟨rfl, he⟩ := h
    exact ⟨_, he, .inr ⟨rfl, rfl⟩, hb⟩
/-- Counts of 64 bits. -/
def Ob.In64 (o : Ob) : Prop := (-9223372036854775808 ≤ o.refs ∧ o.refs ≤ 9223372036854775807) ∧ (-9223372036854775808 ≤ o.readers ∧ o.readers ≤ 9223372036854775807) ∧ (-9223372036854775808 ≤ o.writers ∧ o.writers ≤ 9223372036854775807) ∧ (-9223372036854775808 ≤ o.e0 ∧ o.e0 ≤ 9223372036854775807) ∧ (-9223372036854775808 ≤ o.e1 ∧ o.e1 ≤ 9223372036854775807)
theorem Ob.In64.cnt {o : Ob} (h : o.In64) (s : Tb.Slot) : -9223372036854775808 ≤ o.cnt s ∧ o.cnt s ≤ 9223372036854775807 := by
  obtain ⟨h1, h2, h3, h4, h5⟩ := h
  unfold Ob.cnt
  split
  · exact h2
  · split
    · exact h3
    · split
      · split
        · exact h4
        · exact h5
      · exact h1
theorem Ob.Small.in64 {o : Ob} (h : o.Small) : o.In64 := by unfold Ob.Small at h; unfold Ob.In64; omega
/-- A made object's lists. -/
theorem OwnOb.holds {w : World} {base : Nat} {o : Ob} (h : OwnOb w base o) : ∃ X : Cont, X.Short ∧ Holds w w.heap.size o X := by
  obtain ⟨L, hL⟩ := h.words
  obtain ⟨D, hD⟩ := h.data
  obtain ⟨I, hI⟩ := h.backlog
  obtain ⟨P, hP⟩ := h.q0
  obtain ⟨Q, hQ⟩ := h.q1
  obtain ⟨N, hN, hNs, hNl⟩ := h.names
  obtain ⟨E, hE⟩ := hN.nms.ents
  obtain ⟨_, f1, f2, f3, f4, f5⟩ := h.fit
  obtain ⟨_, _, p3, ⟨p4, p5, _⟩, _, p7, p8, _, _, _⟩ := h.proc
  have hL' := Nums.of_own hL
  have hD' := Bytes.of_own hD
  have hI' := Nums.of_own hI
  have hP' := Bytes.of_own hP
  have hQ' := Bytes.of_own hQ
  have hEl := hE.len
  have hNn := hE.nms.1
  refine ⟨⟨[], [], [], [], [], L, D, I, P, Q, E⟩, ⟨by simp, by simp, by simp, by simp, by simp, ?_, ?_, ?_, ?_, ?_, ?_, ?_⟩, ⟨?_, ?_, ?_, ?_, ?_, hL', hD', hI', hP', hQ', N, hE⟩⟩
  · show L.length ≤ _; have := hL'.len; omega
  · show D.length ≤ _; have := hD'.len; omega
  · show I.length ≤ _; have := hI'.len; omega
  · show P.length ≤ _; have := hP'.len; omega
  · show Q.length ≤ _; have := hQ'.len; omega
  · show E.length ≤ _; omega
  · intro x hx
    change x ∈ E at hx
    obtain ⟨k, hk, rfl⟩ := List.mem_iff_getElem.1 hx
    obtain ⟨h1, h2, e1, e2⟩ := hE.ent (k := k) (by omega)
    have hle := (hNs N[k] (List.getElem_mem h1)).2
    have := e2.len
    omega
  · rw [p3]; exact Nums.nil
  · rw [p4]; exact Inss.nil
  · rw [p5]; exact Strs.nil
  · rw [p7]; exact Refs.nil
  · rw [p8]; exact Slots.nil
theorem OwnOb.in64 {w : World} {base : Nat} {o : Ob} (h : OwnOb w base o) : o.In64 := h.fit.1.in64
/-- The lists of an object that came in. -/
theorem came_holds {w : World} {o : Ob} {C : List Int} {K : List Cd.Ins} {T : List (List UInt8)} {R : List Sp.Ref} {t : List Tb.Slot} {L I : List Int} {D P Q : List UInt8} {l : List Nm} (h1 : Nums .u64 w w.heap.size o.children.A o.children.n C) (h2 : Inss w w.heap.size o.code.A o.code.n K) (h3 : Strs w w.heap.size o.strs.A o.strs.n T) (h4 : Refs w w.heap.size o.pages.A o.pages.n R) (h5 : Slots w w.heap.size o.table.A o.table.n t)
    (h6 : Nums .i64 w w.heap.size o.words.A o.words.n L) (h7 : Bytes w w.heap.size o.data.A o.data.n D) (h8 : Nums .u64 w w.heap.size o.backlog.A o.backlog.n I) (h9 : Bytes w w.heap.size o.q0.A o.q0.n P) (h10 : Bytes w w.heap.size o.q1.A o.q1.n Q) (h11 : Nms w w.heap.size o.names.A o.names.n l) : ∃ X : Cont, Holds w w.heap.size o X ∧ X.strs = T ∧ ∃ E, X.names = E ∧ Ents w w.heap.size o.names.A o.names.n l E := by
  obtain ⟨E, hE⟩ := h11.ents
  exact ⟨⟨C, K, T, R, t, L, D, I, P, Q, E⟩, ⟨h1, h2, h3, h4, h5, h6, h7, h8, h9, h10, l, hE⟩, rfl, E, rfl, hE⟩
theorem kept_short {w : World} {o : Ob} {l : List Nm} {T : List (List UInt8)} {X : Cont} {E : List Nx.Ent} (hk : Kept o l T) (h : Holds w w.heap.size o X) (he : X.names = E) (hE : Ents w w.heap.size o.names.A o.names.n l E) : X.Short := by
  have k1 := hk.children
  have k2 := hk.prog
  have k3 := hk.pages
  have k4 := hk.table
  have k5 := hk.words
  have k6 := hk.data
  have k7 := hk.backlog
  have k8 := hk.q0
  have k9 := hk.q1
  have k10 := hk.names
  have e1 := h.children.len
  have e2 := h.code.len
  have e3 := h.strs.len
  have e4 := h.pages.len
  have e5 := h.table.len
  have e6 := h.words.len
  have e7 := h.data.len
  have e8 := h.backlog.len
  have e9 := h.q0.len
  have e10 := h.q1.len
  have e11 := hE.len
  obtain ⟨k21, k22, _⟩ := k2
  refine ⟨by omega, by omega, by omega, by omega, by omega, by omega, by omega, by omega, by omega, by omega, by rw [he]; omega, ?_⟩
  rw [he]
  intro x hx
  obtain ⟨k, hkk, rfl⟩ := List.mem_iff_getElem.1 hx
  obtain ⟨h1, h2, q1, q2⟩ := hE.ent (k := k) (by omega)
  have hle := (hk.each l[k] (List.getElem_mem h1)).2
  have := q2.len
  omega
end Go.Proofs.Ytejhnfeligifgaa
