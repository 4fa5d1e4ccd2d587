/- clusterkernelsame.Object on objects that are alike and have no entries: they are the same. (Written by tools/mksameob.py.) | clusterkernelsame.Object on objects that are alike, with the same entries. (Written by tools/mksamefull.py.) -/
import Derived.Test.YtddbohnappogkaaSame
import Derived.Deep.QuietTactic
import Derived.BigQuiet
import Derived.Test.YtddbohnappogkaaNmEntry
import Derived.Test.YtddbohnappogkaaRegionX
namespace Go.Proofs.Ytddbohnappogkaa
open Go.RowKit

set_option maxRecDepth 100000 in
set_option maxHeartbeats 4000000 in
theorem ids_same (A D : Option Addr) (n c d C : Nat) (I : List Int) (w : World) (ha : Nums .u64 w C A n I) (hb : Nums .u64 w C D n I) (hn : n ≤ 1000000) : Calls Try.prog 29 #[.slice A n c, .slice D n d] w (BoolPost true w) := by
  have hn' : (n : Int) ≤ 1000000 := by omega
  go_enter Try.func29, Try.ntmps29
  go_wp2_with fail
  go_loopw [13] (fun s13 wr => ∃ k : Nat, s13 = .int .i64 (k : Int) ∧ k ≤ n ∧ ∃ q, wr = w.drewN q) (fun s13 _ => n - (intOf s13).toNat)
  case atStart => exact ⟨0, rfl, by omega, 0, rfl⟩
  case round =>
    obtain ⟨k, rfl, hk, q, rfl⟩ := hrel
    by_cases hlt : k < n
    · have hlt' : (k : Int) < (n : Int) := by omega
      obtain ⟨ba, oa, hla, rfl, _, hca⟩ := ha.at_ hlt
      obtain ⟨bb, ob, hlb, rfl, _, hcb⟩ := hb.at_ hlt
      obtain ⟨v, hv⟩ : ∃ v, I[k] = v := ⟨_, rfl⟩
      rw [hv] at hca hcb
      clear hv
      go_wp2_with fail
      go_quiet (fail)
      go_wp2
      go_roundw
      case rel => exact ⟨k + 1, by go_num, by omega, _, rfl⟩
      case measure => simp [intOf]; omega
    · obtain rfl : k = n := by omega
      go_wp2
      go_ret
      exact ⟨rfl, ⟨rfl, rfl, rfl, Nat.le_refl _, fun _ _ => rfl⟩⟩

/-- All numbers are the same, but for the process. -/
structure Alike (a b : Ob) : Prop where
  id : a.id = b.id
  kind : a.kind = b.kind
  refs : a.refs = b.refs
  offset : a.offset = b.offset
  target : a.target = b.target
  readers : a.readers = b.readers
  writers : a.writers = b.writers
  count : a.count = b.count
  e0 : a.e0 = b.e0
  e1 : a.e1 = b.e1
/-- What both objects' lists hold, but for entries. -/
structure Both (w : World) (a b : Ob) (L : List Int) (D P Q : List UInt8) (I : List Int) : Prop where
  wa : Nums .i64 w w.heap.size a.words.A a.words.n L
  wb : Nums .i64 w w.heap.size b.words.A b.words.n L
  da : Bytes w w.heap.size a.data.A a.data.n D
  db : Bytes w w.heap.size b.data.A b.data.n D
  pa : Bytes w w.heap.size a.q0.A a.q0.n P
  pb : Bytes w w.heap.size b.q0.A b.q0.n P
  qa : Bytes w w.heap.size a.q1.A a.q1.n Q
  qb : Bytes w w.heap.size b.q1.A b.q1.n Q
  ia : Nums .u64 w w.heap.size a.backlog.A a.backlog.n I
  ib : Nums .u64 w w.heap.size b.backlog.A b.backlog.n I
  short : L.length ≤ 1000000 ∧ I.length ≤ 1000000
theorem Both.below {w w' : World} {a b : Ob} {L : List Int} {D P Q : List UInt8} {I : List Int} (h : Both w a b L D P Q I) (hb : Below w.heap.size w w') : Both w' a b L D P Q I :=
  ⟨(h.wa.below hb).mono hb.size, (h.wb.below hb).mono hb.size, (h.da.below hb).mono hb.size, (h.db.below hb).mono hb.size, (h.pa.below hb).mono hb.size, (h.pb.below hb).mono hb.size, (h.qa.below hb).mono hb.size, (h.qb.below hb).mono hb.size, (h.ia.below hb).mono hb.size, (h.ib.below hb).mono hb.size, h.short⟩
theorem run_str {w : World} {B n c : Nat} {A : Option Addr} {l : List UInt8} (h : Bytes w B A n l) : (convert 36 9 (.slice A n c)).run Try.prog w = .ok (.string ⟨l.toArray⟩) w :=
  run_string_rd (P := Try.prog) w Try.underlying36 Try.underlying5 Try.underlying9 h
set_option maxRecDepth 100000 in
set_option maxHeartbeats 8000000 in
theorem same_ob (a b : Ob) (L : List Int) (D P Q : List UInt8) (I : List Int) (W : World) (hn : Alike a b) (ha : a.names.n = 0) (hb : b.names.n = 0) (hh : Both W a b L D P Q I)
    (hp : ∀ w, Below W.heap.size W w → Calls Try.prog 30 #[.agg (pcell a), .agg (pcell b)] w (BoolPost true w)) :
    Calls Try.prog 12 #[.agg (oc a), .agg (oc b)] W (BoolPost true W) := by
  obtain ⟨w1, hw, OA, OB, hbel⟩ := start_two W 41 (oc a) (oc b)
  have HL := hide hbel
  have HH := hide (hh.below hbel)
  have HP := hide hp
  have HNA := hide ha
  have HNB := hide hb
  have hLL : L.length ≤ 1000000 := hh.short.1
  have hLL' : (L.length : Int) ≤ 1000000 := by omega
  have ea := hh.wa.len
  have eb := hh.wb.len
  have k0 : w1.cell? ⟨W.heap.size, 0, none⟩ = some (.int .u64 a.id) := OA.cell 0
  have m0 : w1.cell? ⟨W.heap.size + 1, 0, none⟩ = some (.int .u64 a.id) := (OB.cell 0).trans (by show some (Value.int .u64 b.id) = _; rw [hn.id])
  have k1 : w1.cell? ⟨W.heap.size, 1, none⟩ = some (.int .i64 a.kind) := OA.cell 1
  have m1 : w1.cell? ⟨W.heap.size + 1, 1, none⟩ = some (.int .i64 a.kind) := (OB.cell 1).trans (by show some (Value.int .i64 b.kind) = _; rw [hn.kind])
  have k2 : w1.cell? ⟨W.heap.size, 2, none⟩ = some (.int .i64 a.refs) := OA.cell 2
  have m2 : w1.cell? ⟨W.heap.size + 1, 2, none⟩ = some (.int .i64 a.refs) := (OB.cell 2).trans (by show some (Value.int .i64 b.refs) = _; rw [hn.refs])
  have k25 : w1.cell? ⟨W.heap.size, 25, none⟩ = some (.int .i64 a.offset) := OA.cell 25
  have m25 : w1.cell? ⟨W.heap.size + 1, 25, none⟩ = some (.int .i64 a.offset) := (OB.cell 25).trans (by show some (Value.int .i64 b.offset) = _; rw [hn.offset])
  have k26 : w1.cell? ⟨W.heap.size, 26, none⟩ = some (.int .u64 a.target) := OA.cell 26
  have m26 : w1.cell? ⟨W.heap.size + 1, 26, none⟩ = some (.int .u64 a.target) := (OB.cell 26).trans (by show some (Value.int .u64 b.target) = _; rw [hn.target])
  have k27 : w1.cell? ⟨W.heap.size, 27, none⟩ = some (.int .i64 a.readers) := OA.cell 27
  have m27 : w1.cell? ⟨W.heap.size + 1, 27, none⟩ = some (.int .i64 a.readers) := (OB.cell 27).trans (by show some (Value.int .i64 b.readers) = _; rw [hn.readers])
  have k28 : w1.cell? ⟨W.heap.size, 28, none⟩ = some (.int .i64 a.writers) := OA.cell 28
  have m28 : w1.cell? ⟨W.heap.size + 1, 28, none⟩ = some (.int .i64 a.writers) := (OB.cell 28).trans (by show some (Value.int .i64 b.writers) = _; rw [hn.writers])
  have k34 : w1.cell? ⟨W.heap.size, 34, none⟩ = some (.int .i64 a.count) := OA.cell 34
  have m34 : w1.cell? ⟨W.heap.size + 1, 34, none⟩ = some (.int .i64 a.count) := (OB.cell 34).trans (by show some (Value.int .i64 b.count) = _; rw [hn.count])
  have k35 : w1.cell? ⟨W.heap.size, 35, none⟩ = some (.slice a.names.A 0 a.names.c) := (OA.cell 35).trans (by show some (Value.slice a.names.A a.names.n a.names.c) = _; rw [ha])
  have m35 : w1.cell? ⟨W.heap.size + 1, 35, none⟩ = some (.slice b.names.A 0 b.names.c) := (OB.cell 35).trans (by show some (Value.slice b.names.A b.names.n b.names.c) = _; rw [hb])
  have k23 : w1.cell? ⟨W.heap.size, 23, none⟩ = some (.slice a.words.A L.length a.words.c) := (OA.cell 23).trans (by show some (Value.slice a.words.A a.words.n a.words.c) = _; rw [ea])
  have m23 : w1.cell? ⟨W.heap.size + 1, 23, none⟩ = some (.slice b.words.A L.length b.words.c) := (OB.cell 23).trans (by show some (Value.slice b.words.A b.words.n b.words.c) = _; rw [eb])
  have HE : Hid (decide ([a.e0, a.e1] = [b.e0, b.e1]) = true) := hide (decide_eq_true (by rw [hn.e0, hn.e1]))
  have HEA := hide ea
  have HEB := hide eb
  generalize a.id = x0 at k0 m0
  generalize a.kind = x1 at k1 m1
  generalize a.refs = x2 at k2 m2
  generalize a.offset = x25 at k25 m25
  generalize a.target = x26 at k26 m26
  generalize a.readers = x27 at k27 m27
  generalize a.writers = x28 at k28 m28
  generalize a.count = x34 at k34 m34
  clear hbel ha hb hh hn hp ea eb
  go_enter Try.func12, Try.ntmps12
  dsimp only [List.append]
  go_wp2_with (first | (refine wpList_val (by rfl) (exec_load_ends rfl rfl OA) ?_) | (refine wpList_val (by rfl) (exec_load_ends rfl rfl OB) ?_) | (refine wpList_val (by rfl) (exec_neq_ends (L := [a.e0, a.e1]) (M := [b.e0, b.e1]) rfl rfl rfl rfl rfl) ?_; rw [HE.out]) | fail)
  go_loopw [89] (fun s wr => ∃ k : Nat, s = .int .i64 (k : Int) ∧ k ≤ L.length ∧ Obl wr W.heap.size 41 (oc a) ∧ Obl wr (W.heap.size + 1) 41 (oc b) ∧ Hid (Both wr a b L D P Q I) ∧ Hid (Below W.heap.size W wr)) (fun s _ => L.length - (intOf s).toNat)
  case atStart => exact ⟨0, rfl, by omega, OA, OB, HH, HL⟩
  case round =>
    clear OA OB HL hw HE HH
    clear k0 m0 k1 m1 k2 m2 k25 m25 k26 m26 k27 m27 k28 m28 k34 m34 k35 k23 m35 m23
    obtain ⟨k, rfl, hk, OA, OB, HH, HL⟩ := hrel
    by_cases hlt : k < L.length
    · have hlt' : (k : Int) < (L.length : Int) := by omega
      obtain ⟨b1, f1, hl, e1, hb1, c1⟩ := (HEA.out ▸ HH.out.wa : Nums .i64 wr wr.heap.size a.words.A L.length L).at_ hlt
      obtain ⟨b2, f2, _, e2, hb2, c2⟩ := (HEB.out ▸ HH.out.wb : Nums .i64 wr wr.heap.size b.words.A L.length L).at_ hlt
      have k23 : wr.cell? ⟨W.heap.size, 23, none⟩ = some (.slice a.words.A L.length a.words.c) := (OA.cell 23).trans (by show some (Value.slice a.words.A a.words.n a.words.c) = _; rw [HEA.out])
      have m23 : wr.cell? ⟨W.heap.size + 1, 23, none⟩ = some (.slice b.words.A L.length b.words.c) := (OB.cell 23).trans (by show some (Value.slice b.words.A b.words.n b.words.c) = _; rw [HEB.out])
      rw [e1] at k23
      rw [e2] at m23
      generalize L[k] = v at *
      clear e1 e2
      go_wp2_with fail
      go_region
      go_wp2_with fail
      go_roundw
      case rel => exact ⟨k + 1, by go_num, by omega, OA, OB, hide (HH.out.below ⟨rfl, rfl, rfl, Nat.le_refl _, fun _ _ => rfl⟩), hide ⟨HL.out.os, HL.out.tape, HL.out.output, HL.out.size, HL.out.block⟩⟩
      case measure => simp [intOf]; omega
    · obtain rfl : k = L.length := by omega
      have k35 : wr.cell? ⟨W.heap.size, 35, none⟩ = some (.slice a.names.A 0 a.names.c) := (OA.cell 35).trans (by show some (Value.slice a.names.A a.names.n a.names.c) = _; rw [HNA.out])
      have m35 : wr.cell? ⟨W.heap.size + 1, 35, none⟩ = some (.slice b.names.A 0 b.names.c) := (OB.cell 35).trans (by show some (Value.slice b.names.A b.names.n b.names.c) = _; rw [HNB.out])
      have hda : ∀ c, (convert 36 9 (.slice a.data.A a.data.n c)).run Try.prog wr = .ok (.string ⟨D.toArray⟩) wr := fun c => run_str HH.out.da
      have hdb : ∀ c, (convert 36 9 (.slice b.data.A b.data.n c)).run Try.prog wr = .ok (.string ⟨D.toArray⟩) wr := fun c => run_str HH.out.db
      have hpa : ∀ c, (convert 36 9 (.slice a.q0.A a.q0.n c)).run Try.prog wr = .ok (.string ⟨P.toArray⟩) wr := fun c => run_str HH.out.pa
      have hpb : ∀ c, (convert 36 9 (.slice b.q0.A b.q0.n c)).run Try.prog wr = .ok (.string ⟨P.toArray⟩) wr := fun c => run_str HH.out.pb
      have hqa : ∀ c, (convert 36 9 (.slice a.q1.A a.q1.n c)).run Try.prog wr = .ok (.string ⟨Q.toArray⟩) wr := fun c => run_str HH.out.qa
      have hqb : ∀ c, (convert 36 9 (.slice b.q1.A b.q1.n c)).run Try.prog wr = .ok (.string ⟨Q.toArray⟩) wr := fun c => run_str HH.out.qb
      have eqD : (D == D) = true := by simp
      have eqP : (P == P) = true := by simp
      have eqQ : (Q == Q) = true := by simp
      have k24 : wr.cell? ⟨W.heap.size, 24, none⟩ = some (.slice a.data.A a.data.n a.data.c) := OA.cell 24
      have m24 : wr.cell? ⟨W.heap.size + 1, 24, none⟩ = some (.slice b.data.A b.data.n b.data.c) := OB.cell 24
      have k30 : wr.cell? ⟨W.heap.size, 30, none⟩ = some (.slice a.q0.A a.q0.n a.q0.c) := OA.cell 30
      have m30 : wr.cell? ⟨W.heap.size + 1, 30, none⟩ = some (.slice b.q0.A b.q0.n b.q0.c) := OB.cell 30
      have k31 : wr.cell? ⟨W.heap.size, 31, none⟩ = some (.slice a.q1.A a.q1.n a.q1.c) := OA.cell 31
      have m31 : wr.cell? ⟨W.heap.size + 1, 31, none⟩ = some (.slice b.q1.A b.q1.n b.q1.c) := OB.cell 31
      have HI := hide HH.out.ia.len
      have HJ := hide HH.out.ib.len
      have k29 : wr.cell? ⟨W.heap.size, 29, none⟩ = some (.slice a.backlog.A I.length a.backlog.c) := (OA.cell 29).trans (by show some (Value.slice a.backlog.A a.backlog.n a.backlog.c) = _; rw [HI.out])
      have m29 : wr.cell? ⟨W.heap.size + 1, 29, none⟩ = some (.slice b.backlog.A I.length b.backlog.c) := (OB.cell 29).trans (by show some (Value.slice b.backlog.A b.backlog.n b.backlog.c) = _; rw [HJ.out])
      have hl1 := OB.lt
      go_wp2_with fail
      go_loop [107] (fun s => s = .int .i64 0) (fun _ => 0)
      case atStart => rfl
      case round =>
        subst hrel
        go_wp2_with (first | (go_at_call 29; refine (ids_same a.backlog.A b.backlog.A I.length a.backlog.c b.backlog.c wr.heap.size I _ (HI.out ▸ HH.out.ia) (HJ.out ▸ HH.out.ib) HH.out.short.2).mono ?_; rintro e w2 ⟨rfl, g2⟩) | (refine wpList_val (by rfl) (exec_load_proc rfl rfl (OA.below g2 OA.lt)) ?_) | (refine wpList_val (by rfl) (exec_load_proc rfl rfl (OB.below g2 OB.lt)) ?_) | (go_at_call 30; refine (HP.out _ (HL.out.trans (g2.mono HL.out.size))).mono ?_; rintro e w3 ⟨rfl, g3⟩) | fail)
        go_ret
        exact ⟨rfl, (HL.out.trans (g2.mono HL.out.size)).trans (g3.mono (HL.out.trans (g2.mono HL.out.size)).size)⟩
end Go.Proofs.Ytddbohnappogkaa
namespace Go.Proofs.Ytddbohnappogkaa
open Go.RowKit

set_option maxRecDepth 100000 in
set_option maxHeartbeats 8000000 in
theorem same_full (a b : Ob) (L : List Int) (D P Q : List UInt8) (I : List Int) (l r : List Nm) (E : List Nx.Ent) (W : World) (hn : Alike a b) (hla : Ents W W.heap.size a.names.A a.names.n l E) (hlb : Ents W W.heap.size b.names.A b.names.n r E) (hsh : E.length ≤ 1000000 ∧ ∀ x ∈ E, x.ids.length ≤ 1000000) (hne : E.length ≠ 0) (hh : Both W a b L D P Q I)
    (hp : ∀ w, Below W.heap.size W w → Calls Try.prog 30 #[.agg (pcell a), .agg (pcell b)] w (BoolPost true w)) :
    Calls Try.prog 12 #[.agg (oc a), .agg (oc b)] W (BoolPost true W) := by
  obtain ⟨w1, hw, OA, OB, hbel⟩ := start_two W 41 (oc a) (oc b)
  have HL := hide hbel
  have HH := hide (hh.below hbel)
  have HP := hide hp
  have HNA := hide hla.len
  have HNB := hide hlb.len
  have HLA := hide hla
  have HLB := hide hlb
  have HSH := hide hsh
  obtain ⟨N, hN⟩ : ∃ N, E.length = N := ⟨_, rfl⟩
  have hna : a.names.n = N := hla.len.symm.trans hN
  have hnb : b.names.n = N := hlb.len.symm.trans hN
  have hN0 : 0 < N := by omega
  have hNN : (N : Int) ≤ 1000000 := by have := hsh.1; omega
  have hla' := hla
  have hlb' := hlb
  rw [hna] at hla'
  rw [hnb] at hlb'
  obtain ⟨ba, fa, _, hAa, hba, _⟩ := hla'.nms.at_ hN0
  obtain ⟨bb, fb, _, hAb, hbb, _⟩ := hlb'.nms.at_ hN0
  have HAA := hide hAa
  have HAB := hide hAb
  have HNa := hide hna
  have HNb := hide hnb
  have HN := hide hN
  have hLL : L.length ≤ 1000000 := hh.short.1
  have hLL' : (L.length : Int) ≤ 1000000 := by omega
  have ea := hh.wa.len
  have eb := hh.wb.len
  have k0 : w1.cell? ⟨W.heap.size, 0, none⟩ = some (.int .u64 a.id) := OA.cell 0
  have m0 : w1.cell? ⟨W.heap.size + 1, 0, none⟩ = some (.int .u64 a.id) := (OB.cell 0).trans (by show some (Value.int .u64 b.id) = _; rw [hn.id])
  have k1 : w1.cell? ⟨W.heap.size, 1, none⟩ = some (.int .i64 a.kind) := OA.cell 1
  have m1 : w1.cell? ⟨W.heap.size + 1, 1, none⟩ = some (.int .i64 a.kind) := (OB.cell 1).trans (by show some (Value.int .i64 b.kind) = _; rw [hn.kind])
  have k2 : w1.cell? ⟨W.heap.size, 2, none⟩ = some (.int .i64 a.refs) := OA.cell 2
  have m2 : w1.cell? ⟨W.heap.size + 1, 2, none⟩ = some (.int .i64 a.refs) := (OB.cell 2).trans (by show some (Value.int .i64 b.refs) = _; rw [hn.refs])
  have k25 : w1.cell? ⟨W.heap.size, 25, none⟩ = some (.int .i64 a.offset) := OA.cell 25
  have m25 : w1.cell? ⟨W.heap.size + 1, 25, none⟩ = some (.int .i64 a.offset) := (OB.cell 25).trans (by show some (Value.int .i64 b.offset) = _; rw [hn.offset])
  have k26 : w1.cell? ⟨W.heap.size, 26, none⟩ = some (.int .u64 a.target) := OA.cell 26
  have m26 : w1.cell? ⟨W.heap.size + 1, 26, none⟩ = some (.int .u64 a.target) := (OB.cell 26).trans (by show some (Value.int .u64 b.target) = _; rw [hn.target])
  have k27 : w1.cell? ⟨W.heap.size, 27, none⟩ = some (.int .i64 a.readers) := OA.cell 27
  have m27 : w1.cell? ⟨W.heap.size + 1, 27, none⟩ = some (.int .i64 a.readers) := (OB.cell 27).trans (by show some (Value.int .i64 b.readers) = _; rw [hn.readers])
  have k28 : w1.cell? ⟨W.heap.size, 28, none⟩ = some (.int .i64 a.writers) := OA.cell 28
  have m28 : w1.cell? ⟨W.heap.size + 1, 28, none⟩ = some (.int .i64 a.writers) := (OB.cell 28).trans (by show some (Value.int .i64 b.writers) = _; rw [hn.writers])
  have k34 : w1.cell? ⟨W.heap.size, 34, none⟩ = some (.int .i64 a.count) := OA.cell 34
  have m34 : w1.cell? ⟨W.heap.size + 1, 34, none⟩ = some (.int .i64 a.count) := (OB.cell 34).trans (by show some (Value.int .i64 b.count) = _; rw [hn.count])
  have k35 : w1.cell? ⟨W.heap.size, 35, none⟩ = some (.slice (some ⟨ba, fa, none⟩) N a.names.c) := (OA.cell 35).trans (by show some (Value.slice a.names.A a.names.n a.names.c) = _; rw [hna, hAa])
  have m35 : w1.cell? ⟨W.heap.size + 1, 35, none⟩ = some (.slice (some ⟨bb, fb, none⟩) N b.names.c) := (OB.cell 35).trans (by show some (Value.slice b.names.A b.names.n b.names.c) = _; rw [hnb, hAb])
  have k23 : w1.cell? ⟨W.heap.size, 23, none⟩ = some (.slice a.words.A L.length a.words.c) := (OA.cell 23).trans (by show some (Value.slice a.words.A a.words.n a.words.c) = _; rw [ea])
  have m23 : w1.cell? ⟨W.heap.size + 1, 23, none⟩ = some (.slice b.words.A L.length b.words.c) := (OB.cell 23).trans (by show some (Value.slice b.words.A b.words.n b.words.c) = _; rw [eb])
  have HE : Hid (decide ([a.e0, a.e1] = [b.e0, b.e1]) = true) := hide (decide_eq_true (by rw [hn.e0, hn.e1]))
  have HEA := hide ea
  have HEB := hide eb
  generalize a.id = x0 at k0 m0
  generalize a.kind = x1 at k1 m1
  generalize a.refs = x2 at k2 m2
  generalize a.offset = x25 at k25 m25
  generalize a.target = x26 at k26 m26
  generalize a.readers = x27 at k27 m27
  generalize a.writers = x28 at k28 m28
  generalize a.count = x34 at k34 m34
  clear hbel hla hlb hla' hlb' hsh hna hnb hAa hAb hN hne hh hn hp ea eb
  go_enter Try.func12, Try.ntmps12
  dsimp only [List.append]
  go_wp2_with (first | (refine wpList_val (by rfl) (exec_load_ends rfl rfl OA) ?_) | (refine wpList_val (by rfl) (exec_load_ends rfl rfl OB) ?_) | (refine wpList_val (by rfl) (exec_neq_ends (L := [a.e0, a.e1]) (M := [b.e0, b.e1]) rfl rfl rfl rfl rfl) ?_; rw [HE.out]) | fail)
  go_loopw [89] (fun s wr => ∃ k : Nat, s = .int .i64 (k : Int) ∧ k ≤ L.length ∧ Obl wr W.heap.size 41 (oc a) ∧ Obl wr (W.heap.size + 1) 41 (oc b) ∧ Hid (Both wr a b L D P Q I) ∧ Hid (Below W.heap.size W wr)) (fun s _ => L.length - (intOf s).toNat)
  case atStart => exact ⟨0, rfl, by omega, OA, OB, HH, HL⟩
  case round =>
    clear OA OB HL hw HE HH
    clear k0 m0 k1 m1 k2 m2 k25 m25 k26 m26 k27 m27 k28 m28 k34 m34 k35 k23 m35 m23
    obtain ⟨k, rfl, hk, OA, OB, HH, HL⟩ := hrel
    by_cases hlt : k < L.length
    · have hlt' : (k : Int) < (L.length : Int) := by omega
      obtain ⟨b1, f1, hl, e1, hb1, c1⟩ := (HEA.out ▸ HH.out.wa : Nums .i64 wr wr.heap.size a.words.A L.length L).at_ hlt
      obtain ⟨b2, f2, _, e2, hb2, c2⟩ := (HEB.out ▸ HH.out.wb : Nums .i64 wr wr.heap.size b.words.A L.length L).at_ hlt
      have k23 : wr.cell? ⟨W.heap.size, 23, none⟩ = some (.slice a.words.A L.length a.words.c) := (OA.cell 23).trans (by show some (Value.slice a.words.A a.words.n a.words.c) = _; rw [HEA.out])
      have m23 : wr.cell? ⟨W.heap.size + 1, 23, none⟩ = some (.slice b.words.A L.length b.words.c) := (OB.cell 23).trans (by show some (Value.slice b.words.A b.words.n b.words.c) = _; rw [HEB.out])
      rw [e1] at k23
      rw [e2] at m23
      generalize L[k] = v at *
      clear e1 e2
      go_wp2_with fail
      go_region
      go_wp2_with fail
      go_roundw
      case rel => exact ⟨k + 1, by go_num, by omega, OA, OB, hide (HH.out.below ⟨rfl, rfl, rfl, Nat.le_refl _, fun _ _ => rfl⟩), hide ⟨HL.out.os, HL.out.tape, HL.out.output, HL.out.size, HL.out.block⟩⟩
      case measure => simp [intOf]; omega
    · obtain rfl : k = L.length := by omega
      have k35 : wr.cell? ⟨W.heap.size, 35, none⟩ = some (.slice (some ⟨ba, fa, none⟩) N a.names.c) := (OA.cell 35).trans (by show some (Value.slice a.names.A a.names.n a.names.c) = _; rw [HNa.out, HAA.out])
      have m35 : wr.cell? ⟨W.heap.size + 1, 35, none⟩ = some (.slice (some ⟨bb, fb, none⟩) N b.names.c) := (OB.cell 35).trans (by show some (Value.slice b.names.A b.names.n b.names.c) = _; rw [HNb.out, HAB.out])
      have hl1 := OB.lt
      clear hk hlt
      go_wp2_with fail
      go_loopw [107] (fun s wr => ∃ k : Nat, s = .int .i64 (k : Int) ∧ k ≤ N ∧ Obl wr W.heap.size 41 (oc a) ∧ Obl wr (W.heap.size + 1) 41 (oc b) ∧ Hid (Both wr a b L D P Q I) ∧ Hid (Below W.heap.size W wr)) (fun s _ => N - (intOf s).toNat)
      case atStart => exact ⟨0, rfl, by omega, OA, OB, HH, HL⟩
      case round =>
        clear OA OB HH HL k35 m35 hl1
        obtain ⟨k, rfl, hk, OA, OB, HH, HL⟩ := hrel
        have hl1 := OB.lt
        by_cases hlt : k < N
        · have hlt' : (k : Int) < (N : Int) := by omega
          have hea := HLA.out.below HL.out
          have heb := HLB.out.below HL.out
          rw [HNa.out, HAA.out] at hea
          rw [HNb.out, HAB.out] at heb
          obtain ⟨ba', fa', hka, eA, hba', a0, a1, a2, _⟩ := hea.nms.at_ hlt
          obtain ⟨bb', fb', hkb, eB, hbb', b0, b1, b2, _⟩ := heb.nms.at_ hlt
          simp only [Option.some.injEq, Addr.mk.injEq, and_true] at eA eB
          obtain ⟨rfl, rfl⟩ := eA
          obtain ⟨rfl, rfl⟩ := eB
          have hkE : k < E.length := by have := HN.out; omega
          obtain ⟨p1, p2, p3⟩ := hea.2.2 k hka hkE
          obtain ⟨q1, q2, q3⟩ := heb.2.2 k hkb hkE
          have hids := HSH.out.2 _ (List.getElem_mem hkE)
          generalize E[k] = z at *
          generalize l[k] = x at *
          generalize r[k] = y at *
          rw [p1] at a0
          rw [p2] at a1
          rw [q1] at b0
          rw [q2] at b1
          have hn1 : x.ids.n = z.ids.length := p3.len.symm
          have hn2 : y.ids.n = z.ids.length := q3.len.symm
          rw [hn1] at a2 p3
          rw [hn2] at b2 q3
          obtain ⟨sp, hsp⟩ : ∃ sp : ByteArray, (⟨z.path.toArray⟩ : ByteArray) = sp := ⟨_, rfl⟩
          rw [hsp] at a0 b0
          have HI1 := hide p3
          have HI2 := hide q3
          have HID := hide hids
          obtain ⟨kd, hkd⟩ : ∃ kd, z.kind = kd := ⟨_, rfl⟩
          rw [hkd] at a1 b1
          obtain ⟨q, hqn⟩ : ∃ q, z.ids.length = q := ⟨_, rfl⟩
          have HQ := hide hqn
          rw [hqn] at a2 b2 HI1 HI2 HID
          have k35 : wr.cell? ⟨W.heap.size, 35, none⟩ = some (.slice (some ⟨ba, fa, none⟩) N a.names.c) := (OA.cell 35).trans (by show some (Value.slice a.names.A a.names.n a.names.c) = _; rw [HNa.out, HAA.out])
          have m35 : wr.cell? ⟨W.heap.size + 1, 35, none⟩ = some (.slice (some ⟨bb, fb, none⟩) N b.names.c) := (OB.cell 35).trans (by show some (Value.slice b.names.A b.names.n b.names.c) = _; rw [HNb.out, HAB.out])
          have hWl : W.heap.size + 1 < wr.heap.size := hl1
          have hbaw : ba < wr.heap.size := by omega
          have hbbw : bb < wr.heap.size := by omega
          clear hea heb p1 p2 p3 q1 q2 q3 hn1 hn2 hsp hids hkd hqn
          go_wp2_with fail
          refine region_B (by kernel_rfl) wr.heap.size ?_
          refine takeB 0 rfl (by kernel_rfl) (fun _ _ _ h => h) (by rfl) (by intro w' hg; go_simp; try with_reducible rfl) ?_
          refine takeB 1 rfl (by kernel_rfl) (fun _ _ _ h => h) (by rfl) (by intro w' hg; have gk35 := (hg.cell (p := ⟨W.heap.size, 35, none⟩) (by show W.heap.size < wr.heap.size; omega)).trans (show wr.drew.cell? _ = _ from k35); go_simp; try with_reducible rfl) ?_
          refine takeB 2 rfl (by kernel_rfl) (fun _ _ _ h => h) (by rfl) (by intro w' hg; go_simp; try with_reducible rfl) ?_
          refine takeB 3 rfl (by kernel_rfl) (fun _ _ _ h => h) (by rfl) (by intro w' hg; go_simp; try with_reducible rfl) ?_
          refine takeB 4 rfl (by kernel_rfl) (fun _ _ _ h => h) (by rfl) (by intro w' hg; go_simp; try with_reducible rfl) ?_
          refine takeB 5 rfl (by kernel_rfl) (fun _ _ _ h => h) (by rfl) (by intro w' hg; have ga0 := (hg.cell (p := ⟨ba, fa + k * 3, none⟩) (by show ba < wr.heap.size; omega)).trans (show wr.drew.cell? _ = _ from a0); go_simp; try with_reducible rfl) ?_
          refine takeB 6 rfl (by kernel_rfl) (fun _ _ _ h => h) (by rfl) (by intro w' hg; go_simp; try with_reducible rfl) ?_
          refine takeB 7 rfl (by kernel_rfl) (fun _ _ _ h => h) (by rfl) (by intro w' hg; have gm35 := (hg.cell (p := ⟨W.heap.size + 1, 35, none⟩) (by show W.heap.size + 1 < wr.heap.size; omega)).trans (show wr.drew.cell? _ = _ from m35); go_simp; try with_reducible rfl) ?_
          refine takeB 8 rfl (by kernel_rfl) (fun _ _ _ h => h) (by rfl) (by intro w' hg; go_simp; try with_reducible rfl) ?_
          refine takeB 9 rfl (by kernel_rfl) (fun _ _ _ h => h) (by rfl) (by intro w' hg; go_simp; try with_reducible rfl) ?_
          refine takeB 10 rfl (by kernel_rfl) (fun _ _ _ h => h) (by rfl) (by intro w' hg; go_simp; try with_reducible rfl) ?_
          refine takeB 11 rfl (by kernel_rfl) (fun _ _ _ h => h) (by rfl) (by intro w' hg; have gb0 := (hg.cell (p := ⟨bb, fb + k * 3, none⟩) (by show bb < wr.heap.size; omega)).trans (show wr.drew.cell? _ = _ from b0); go_simp; try with_reducible rfl) ?_
          refine takeB 12 rfl (by kernel_rfl) (fun _ _ _ h => h) (by rfl) (by intro w' hg; go_simp; try with_reducible rfl) ?_
          refine takeB 13 rfl (by kernel_rfl) (fun _ _ _ h => h) (by rfl) (by intro w' hg; go_simp; try with_reducible rfl) ?_
          go_simp
          refine takeB 14 rfl (by kernel_rfl) (fun _ _ _ h => h) (by kernel_rfl) (by intro w' hg; go_simp; try with_reducible rfl) ?_
          refine takeB 15 rfl (by kernel_rfl) (fun _ _ _ h => h) (by kernel_rfl) (by intro w' hg; have gk35 := (hg.cell (p := ⟨W.heap.size, 35, none⟩) (by show W.heap.size < wr.heap.size; omega)).trans (show wr.drew.cell? _ = _ from k35); go_simp; try with_reducible rfl) ?_
          refine takeB 16 rfl (by kernel_rfl) (fun _ _ _ h => h) (by kernel_rfl) (by intro w' hg; go_simp; try with_reducible rfl) ?_
          refine takeB 17 rfl (by kernel_rfl) (fun _ _ _ h => h) (by kernel_rfl) (by intro w' hg; go_simp; try with_reducible rfl) ?_
          refine takeB 18 rfl (by kernel_rfl) (fun _ _ _ h => h) (by kernel_rfl) (by intro w' hg; go_simp; try with_reducible rfl) ?_
          refine takeB 19 rfl (by kernel_rfl) (fun _ _ _ h => h) (by kernel_rfl) (by intro w' hg; have ga1 := (hg.cell (p := ⟨ba, fa + k * 3 + 1, none⟩) (by show ba < wr.heap.size; omega)).trans (show wr.drew.cell? _ = _ from a1); go_simp; try with_reducible rfl) ?_
          refine takeB 20 rfl (by kernel_rfl) (fun _ _ _ h => h) (by kernel_rfl) (by intro w' hg; go_simp; try with_reducible rfl) ?_
          refine takeB 21 rfl (by kernel_rfl) (fun _ _ _ h => h) (by kernel_rfl) (by intro w' hg; have gm35 := (hg.cell (p := ⟨W.heap.size + 1, 35, none⟩) (by show W.heap.size + 1 < wr.heap.size; omega)).trans (show wr.drew.cell? _ = _ from m35); go_simp; try with_reducible rfl) ?_
          refine takeB 22 rfl (by kernel_rfl) (fun _ _ _ h => h) (by kernel_rfl) (by intro w' hg; go_simp; try with_reducible rfl) ?_
          refine takeB 23 rfl (by kernel_rfl) (fun _ _ _ h => h) (by kernel_rfl) (by intro w' hg; go_simp; try with_reducible rfl) ?_
          refine takeB 24 rfl (by kernel_rfl) (fun _ _ _ h => h) (by kernel_rfl) (by intro w' hg; go_simp; try with_reducible rfl) ?_
          refine takeB 25 rfl (by kernel_rfl) (fun _ _ _ h => h) (by kernel_rfl) (by intro w' hg; have gb1 := (hg.cell (p := ⟨bb, fb + k * 3 + 1, none⟩) (by show bb < wr.heap.size; omega)).trans (show wr.drew.cell? _ = _ from b1); go_simp; try with_reducible rfl) ?_
          refine takeB 26 rfl (by kernel_rfl) (fun _ _ _ h => h) (by kernel_rfl) (by intro w' hg; go_simp; try with_reducible rfl) ?_
          refine takeB 27 rfl (by kernel_rfl) (fun _ _ _ h => h) (by rfl) (by intro w' hg; go_simp; try with_reducible rfl) ?_
          refine takeB 28 rfl (by kernel_rfl) (fun _ _ _ h => h) (by rfl) (by intro w' hg; go_simp; try with_reducible rfl) ?_
          go_simp
          refine takeB 29 rfl (by kernel_rfl) (fun _ _ _ h => h) (by kernel_rfl) (by intro w' hg; go_simp; try with_reducible rfl) ?_
          refine takeB 30 rfl (by kernel_rfl) (fun _ _ _ h => h) (by kernel_rfl) (by intro w' hg; have gk35 := (hg.cell (p := ⟨W.heap.size, 35, none⟩) (by show W.heap.size < wr.heap.size; omega)).trans (show wr.drew.cell? _ = _ from k35); go_simp; try with_reducible rfl) ?_
          refine takeB 31 rfl (by kernel_rfl) (fun _ _ _ h => h) (by kernel_rfl) (by intro w' hg; go_simp; try with_reducible rfl) ?_
          refine takeB 32 rfl (by kernel_rfl) (fun _ _ _ h => h) (by kernel_rfl) (by intro w' hg; go_simp; try with_reducible rfl) ?_
          refine takeB 33 rfl (by kernel_rfl) (fun _ _ _ h => h) (by kernel_rfl) (by intro w' hg; go_simp; try with_reducible rfl) ?_
          refine takeB 34 rfl (by kernel_rfl) (fun _ _ _ h => h) (by kernel_rfl) (by intro w' hg; have ga2 := (hg.cell (p := ⟨ba, fa + k * 3 + 2, none⟩) (by show ba < wr.heap.size; omega)).trans (show wr.drew.cell? _ = _ from a2); go_simp; try with_reducible rfl) ?_
          refine takeB 35 rfl (by kernel_rfl) (fun _ _ _ h => h) (by kernel_rfl) (by intro w' hg; go_simp; try with_reducible rfl) ?_
          refine takeB 36 rfl (by kernel_rfl) (fun _ _ _ h => h) (by kernel_rfl) (by intro w' hg; have gm35 := (hg.cell (p := ⟨W.heap.size + 1, 35, none⟩) (by show W.heap.size + 1 < wr.heap.size; omega)).trans (show wr.drew.cell? _ = _ from m35); go_simp; try with_reducible rfl) ?_
          refine takeB 37 rfl (by kernel_rfl) (fun _ _ _ h => h) (by kernel_rfl) (by intro w' hg; go_simp; try with_reducible rfl) ?_
          refine takeB 38 rfl (by kernel_rfl) (fun _ _ _ h => h) (by kernel_rfl) (by intro w' hg; go_simp; try with_reducible rfl) ?_
          refine takeB 39 rfl (by kernel_rfl) (fun _ _ _ h => h) (by kernel_rfl) (by intro w' hg; go_simp; try with_reducible rfl) ?_
          refine takeB 40 rfl (by kernel_rfl) (fun _ _ _ h => h) (by kernel_rfl) (by intro w' hg; have gb2 := (hg.cell (p := ⟨bb, fb + k * 3 + 2, none⟩) (by show bb < wr.heap.size; omega)).trans (show wr.drew.cell? _ = _ from b2); go_simp; try with_reducible rfl) ?_
          go_simp
          refine onlyB 41 rfl (by kernel_rfl) (by kernel_rfl) ?_
          intro K hK
          go_simp
          refine (ids_same x.ids.A y.ids.A q x.ids.c y.ids.c W.heap.size z.ids wr.drew HI1.out HI2.out HID.out).mono ?_
          rintro e u1 ⟨rfl, hb9⟩
          have hb9' : Below wr.heap.size wr.drew u1 := hb9
          refine hK _ _ hb9' ?_
          clear hK K
          have hbw : Below wr.heap.size wr u1 := ⟨hb9'.os, hb9'.tape, hb9'.output, hb9'.size, hb9'.block⟩
          have OA' := OA.below hbw OA.lt
          have OB' := OB.below hbw OB.lt
          have HH' := hide (HH.out.below hbw)
          have HL' := hide (HL.out.trans (hbw.mono HL.out.size))
          clear hb9 hb9' hbw a0 a1 a2 b0 b1 b2 k35 m35
          refine takeB 42 rfl (by kernel_rfl) (fun _ _ _ h => h) (by kernel_rfl) (by intro w' hg; go_simp; try with_reducible rfl) ?_
          refine takeB 43 rfl (by kernel_rfl) (fun _ _ _ h => h) (by rfl) (by intro w' hg; go_simp; try with_reducible rfl) ?_
          refine doneB (by kernel_rfl) ?_
          go_simp
          go_wp2_with fail
          go_roundw
          case rel => exact ⟨k + 1, by go_num, by omega, OA', OB', HH', HL'⟩
          case measure => simp [intOf]; omega
        · obtain rfl : k = N := by omega
          have hda : ∀ c, (convert 36 9 (.slice a.data.A a.data.n c)).run Try.prog wr = .ok (.string ⟨D.toArray⟩) wr := fun c => run_str HH.out.da
          have hdb : ∀ c, (convert 36 9 (.slice b.data.A b.data.n c)).run Try.prog wr = .ok (.string ⟨D.toArray⟩) wr := fun c => run_str HH.out.db
          have hpa : ∀ c, (convert 36 9 (.slice a.q0.A a.q0.n c)).run Try.prog wr = .ok (.string ⟨P.toArray⟩) wr := fun c => run_str HH.out.pa
          have hpb : ∀ c, (convert 36 9 (.slice b.q0.A b.q0.n c)).run Try.prog wr = .ok (.string ⟨P.toArray⟩) wr := fun c => run_str HH.out.pb
          have hqa : ∀ c, (convert 36 9 (.slice a.q1.A a.q1.n c)).run Try.prog wr = .ok (.string ⟨Q.toArray⟩) wr := fun c => run_str HH.out.qa
          have hqb : ∀ c, (convert 36 9 (.slice b.q1.A b.q1.n c)).run Try.prog wr = .ok (.string ⟨Q.toArray⟩) wr := fun c => run_str HH.out.qb
          have eqD : (D == D) = true := by simp
          have eqP : (P == P) = true := by simp
          have eqQ : (Q == Q) = true := by simp
          have k24 : wr.cell? ⟨W.heap.size, 24, none⟩ = some (.slice a.data.A a.data.n a.data.c) := OA.cell 24
          have m24 : wr.cell? ⟨W.heap.size + 1, 24, none⟩ = some (.slice b.data.A b.data.n b.data.c) := OB.cell 24
          have k30 : wr.cell? ⟨W.heap.size, 30, none⟩ = some (.slice a.q0.A a.q0.n a.q0.c) := OA.cell 30
          have m30 : wr.cell? ⟨W.heap.size + 1, 30, none⟩ = some (.slice b.q0.A b.q0.n b.q0.c) := OB.cell 30
          have k31 : wr.cell? ⟨W.heap.size, 31, none⟩ = some (.slice a.q1.A a.q1.n a.q1.c) := OA.cell 31
          have m31 : wr.cell? ⟨W.heap.size + 1, 31, none⟩ = some (.slice b.q1.A b.q1.n b.q1.c) := OB.cell 31
          have HI := hide HH.out.ia.len
          have HJ := hide HH.out.ib.len
          have k29 : wr.cell? ⟨W.heap.size, 29, none⟩ = some (.slice a.backlog.A I.length a.backlog.c) := (OA.cell 29).trans (by show some (Value.slice a.backlog.A a.backlog.n a.backlog.c) = _; rw [HI.out])
          have m29 : wr.cell? ⟨W.heap.size + 1, 29, none⟩ = some (.slice b.backlog.A I.length b.backlog.c) := (OB.cell 29).trans (by show some (Value.slice b.backlog.A b.backlog.n b.backlog.c) = _; rw [HJ.out])
          go_wp2_with (first | (go_at_call 29; refine (ids_same a.backlog.A b.backlog.A I.length a.backlog.c b.backlog.c wr.heap.size I _ (HI.out ▸ HH.out.ia) (HJ.out ▸ HH.out.ib) HH.out.short.2).mono ?_; rintro e w2 ⟨rfl, g2⟩) | (refine wpList_val (by rfl) (exec_load_proc rfl rfl (OA.below g2 OA.lt)) ?_) | (refine wpList_val (by rfl) (exec_load_proc rfl rfl (OB.below g2 OB.lt)) ?_) | (go_at_call 30; refine (HP.out _ (HL.out.trans (g2.mono HL.out.size))).mono ?_; rintro e w3 ⟨rfl, g3⟩) | fail)
          go_ret
          exact ⟨rfl, (HL.out.trans (g2.mono HL.out.size)).trans (g3.mono (HL.out.trans (g2.mono HL.out.size)).size)⟩
end Go.Proofs.Ytddbohnappogkaa
