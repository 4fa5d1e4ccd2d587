/- clusterkernelsame.Object on objects that are alike and have no entries: they are the same. (Written by tools/mksameob.py.) -/
import Derived.Test.YtcgiobffobonpaaSame
import Derived.Deep.QuietTactic
import Derived.BigQuiet
namespace Go.Proofs.Ytcgiobffobonpaa
open Go.RowKit

set_option maxRecDepth 100000 in
set_option maxHeartbeats 4000000 in
theorem ids_same (A D : Option Addr) (n c d C : Nat) (I : List Int) (w : World) (ha : Nums .u64 w C A n I) (hb : Nums .u64 w C D n I) (hn : n ≤ 1000000) : Calls Try.prog 40 #[.slice A n c, .slice D n d] w (BoolPost true w) := by
  have hn' : (n : Int) ≤ 1000000 := by omega
  go_enter Try.func40, Try.ntmps40
  go_wp2_with fail
  go_loopw [13] (fun s13 wr => ∃ k : Nat, s13 = .int .i64 (k : Int) ∧ k ≤ n ∧ ∃ q, wr = w.drewN q) (fun s13 _ => n - (intOf s13).toNat)
  case atStart => exact ⟨0, rfl, by omega, 0, rfl⟩
  case round =>
    obtain ⟨k, rfl, hk, q, rfl⟩ := hrel
    by_cases hlt : k < n
    · have hlt' : (k : Int) < (n : Int) := by omega
      obtain ⟨ba, oa, hla, rfl, _, hca⟩ := ha.at_ hlt
      obtain ⟨bb, ob, hlb, rfl, _, hcb⟩ := hb.at_ hlt
      obtain ⟨v, hv⟩ : ∃ v, I[k] = v := ⟨_, rfl⟩
      rw [hv] at hca hcb
      clear hv
      go_wp2_with fail
      go_quiet (fail)
      go_wp2
      go_roundw
      case rel => exact ⟨k + 1, by go_num, by omega, _, rfl⟩
      case measure => simp [intOf]; omega
    · obtain rfl : k = n := by omega
      go_wp2
      go_ret
      exact ⟨rfl, ⟨rfl, rfl, rfl, Nat.le_refl _, fun _ _ => rfl⟩⟩

/-- All numbers are the same, but for the process. -/
structure Alike (a b : Ob) : Prop where
  id : a.id = b.id
  kind : a.kind = b.kind
  refs : a.refs = b.refs
  offset : a.offset = b.offset
  target : a.target = b.target
  readers : a.readers = b.readers
  writers : a.writers = b.writers
  count : a.count = b.count
  e0 : a.e0 = b.e0
  e1 : a.e1 = b.e1
/-- What both objects' lists hold, but for entries. -/
structure Both (w : World) (a b : Ob) (L : List Int) (D P Q : List UInt8) (I : List Int) : Prop where
  wa : Nums .i64 w w.heap.size a.words.A a.words.n L
  wb : Nums .i64 w w.heap.size b.words.A b.words.n L
  da : Bytes w w.heap.size a.data.A a.data.n D
  db : Bytes w w.heap.size b.data.A b.data.n D
  pa : Bytes w w.heap.size a.q0.A a.q0.n P
  pb : Bytes w w.heap.size b.q0.A b.q0.n P
  qa : Bytes w w.heap.size a.q1.A a.q1.n Q
  qb : Bytes w w.heap.size b.q1.A b.q1.n Q
  ia : Nums .u64 w w.heap.size a.backlog.A a.backlog.n I
  ib : Nums .u64 w w.heap.size b.backlog.A b.backlog.n I
  short : L.length ≤ 1000000 ∧ I.length ≤ 1000000
theorem Both.below {w w' : World} {a b : Ob} {L : List Int} {D P Q : List UInt8} {I : List Int} (h : Both w a b L D P Q I) (hb : Below w.heap.size w w') : Both w' a b L D P Q I :=
  ⟨(h.wa.below hb).mono hb.size, (h.wb.below hb).mono hb.size, (h.da.below hb).mono hb.size, (h.db.below hb).mono hb.size, (h.pa.below hb).mono hb.size, (h.pb.below hb).mono hb.size, (h.qa.below hb).mono hb.size, (h.qb.below hb).mono hb.size, (h.ia.below hb).mono hb.size, (h.ib.below hb).mono hb.size, h.short⟩
theorem run_str {w : World} {B n c : Nat} {A : Option Addr} {l : List UInt8} (h : Bytes w B A n l) : (convert 36 9 (.slice A n c)).run Try.prog w = .ok (.string ⟨l.toArray⟩) w :=
  run_string_rd (P := Try.prog) w Try.underlying36 Try.underlying5 Try.underlying9 h
set_option maxRecDepth 100000 in
set_option maxHeartbeats 8000000 in
theorem same_ob (a b : Ob) (L : List Int) (D P Q : List UInt8) (I : List Int) (W : World) (hn : Alike a b) (ha : a.names.n = 0) (hb : b.names.n = 0) (hh : Both W a b L D P Q I)
    (hp : ∀ w, Below W.heap.size W w → Calls Try.prog 41 #[.agg (pcell a), .agg (pcell b)] w (BoolPost true w)) :
    Calls Try.prog 16 #[.agg (oc a), .agg (oc b)] W (BoolPost true W) := by
  obtain ⟨w1, hw, OA, OB, hbel⟩ := start_two W 41 (oc a) (oc b)
  have HL := hide hbel
  have HH := hide (hh.below hbel)
  have HP := hide hp
  have HNA := hide ha
  have HNB := hide hb
  have hLL : L.length ≤ 1000000 := hh.short.1
  have hLL' : (L.length : Int) ≤ 1000000 := by omega
  have ea := hh.wa.len
  have eb := hh.wb.len
  have k0 : w1.cell? ⟨W.heap.size, 0, none⟩ = some (.int .u64 a.id) := OA.cell 0
  have m0 : w1.cell? ⟨W.heap.size + 1, 0, none⟩ = some (.int .u64 a.id) := (OB.cell 0).trans (by show some (Value.int .u64 b.id) = _; rw [hn.id])
  have k1 : w1.cell? ⟨W.heap.size, 1, none⟩ = some (.int .i64 a.kind) := OA.cell 1
  have m1 : w1.cell? ⟨W.heap.size + 1, 1, none⟩ = some (.int .i64 a.kind) := (OB.cell 1).trans (by show some (Value.int .i64 b.kind) = _; rw [hn.kind])
  have k2 : w1.cell? ⟨W.heap.size, 2, none⟩ = some (.int .i64 a.refs) := OA.cell 2
  have m2 : w1.cell? ⟨W.heap.size + 1, 2, none⟩ = some (.int .i64 a.refs) := (OB.cell 2).trans (by show some (Value.int .i64 b.refs) = _; rw [hn.refs])
  have k25 : w1.cell? ⟨W.heap.size, 25, none⟩ = some (.int .i64 a.offset) := OA.cell 25
  have m25 : w1.cell? ⟨W.heap.size + 1, 25, none⟩ = some (.int .i64 a.offset) := (OB.cell 25).trans (by show some (Value.int .i64 b.offset) = _; rw [hn.offset])
  have k26 : w1.cell? ⟨W.heap.size, 26, none⟩ = some (.int .u64 a.target) := OA.cell 26
  have m26 : w1.cell? ⟨W.heap.size + 1, 26, none⟩ = some (.int .u64 a.target) := (OB.cell 26).trans (by show some (Value.int .u64 b.target) = _; rw [hn.target])
  have k27 : w1.cell? ⟨W.heap.size, 27, none⟩ = some (.int .i64 a.readers) := OA.cell 27
  have m27 : w1.cell? ⟨W.heap.size + 1, 27, none⟩ = some (.int .i64 a.readers) := (OB.cell 27).trans (by show some (Value.int .i64 b.readers) = _; rw [hn.readers])
  have k28 : w1.cell? ⟨W.heap.size, 28, none⟩ = some (.int .i64 a.writers) := OA.cell 28
  have m28 : w1.cell? ⟨W.heap.size + 1, 28, none⟩ = some (.int .i64 a.writers) := (OB.cell 28).trans (by show some (Value.int .i64 b.writers) = _; rw [hn.writers])
  have k34 : w1.cell? ⟨W.heap.size, 34, none⟩ = some (.int .i64 a.count) := OA.cell 34
  have m34 : w1.cell? ⟨W.heap.size + 1, 34, none⟩ = some (.int .i64 a.count) := (OB.cell 34).trans (by show some (Value.int .i64 b.count) = _; rw [hn.count])
  have k35 : w1.cell? ⟨W.heap.size, 35, none⟩ = some (.slice a.names.A 0 a.names.c) := (OA.cell 35).trans (by show some (Value.slice a.names.A a.names.n a.names.c) = _; rw [ha])
  have m35 : w1.cell? ⟨W.heap.size + 1, 35, none⟩ = some (.slice b.names.A 0 b.names.c) := (OB.cell 35).trans (by show some (Value.slice b.names.A b.names.n b.names.c) = _; rw [hb])
  have k23 : w1.cell? ⟨W.heap.size, 23, none⟩ = some (.slice a.words.A L.length a.words.c) := (OA.cell 23).trans (by show some (Value.slice a.words.A a.words.n a.words.c) = _; rw [ea])
  have m23 : w1.cell? ⟨W.heap.size + 1, 23, none⟩ = some (.slice b.words.A L.length b.words.c) := (OB.cell 23).trans (by show some (Value.slice b.words.A b.words.n b.words.c) = _; rw [eb])
  have HE : Hid (decide ([a.e0, a.e1] = [b.e0, b.e1]) = true) := hide (decide_eq_true (by rw [hn.e0, hn.e1]))
  have HEA := hide ea
  have HEB := hide eb
  generalize a.id = x0 at k0 m0
  generalize a.kind = x1 at k1 m1
  generalize a.refs = x2 at k2 m2
  generalize a.offset = x25 at k25 m25
  generalize a.target = x26 at k26 m26
  generalize a.readers = x27 at k27 m27
  generalize a.writers = x28 at k28 m28
  generalize a.count = x34 at k34 m34
  clear hbel ha hb hh hn hp ea eb
  go_enter Try.func16, Try.ntmps16
  dsimp only [List.append]
  go_wp2_with (first | (refine wpList_val (by rfl) (exec_load_ends rfl rfl OA) ?_) | (refine wpList_val (by rfl) (exec_load_ends rfl rfl OB) ?_) | (refine wpList_val (by rfl) (exec_neq_ends (L := [a.e0, a.e1]) (M := [b.e0, b.e1]) rfl rfl rfl rfl rfl) ?_; rw [HE.out]) | fail)
  go_loopw [89] (fun s wr => ∃ k : Nat, s = .int .i64 (k : Int) ∧ k ≤ L.length ∧ Obl wr W.heap.size 41 (oc a) ∧ Obl wr (W.heap.size + 1) 41 (oc b) ∧ Hid (Both wr a b L D P Q I) ∧ Hid (Below W.heap.size W wr)) (fun s _ => L.length - (intOf s).toNat)
  case atStart => exact ⟨0, rfl, by omega, OA, OB, HH, HL⟩
  case round =>
    clear OA OB HL hw HE HH
    clear k0 m0 k1 m1 k2 m2 k25 m25 k26 m26 k27 m27 k28 m28 k34 m34 k35 k23 m35 m23
    obtain ⟨k, rfl, hk, OA, OB, HH, HL⟩ := hrel
    by_cases hlt : k < L.length
    · have hlt' : (k : Int) < (L.length : Int) := by omega
      obtain ⟨b1, f1, hl, e1, hb1, c1⟩ := (HEA.out ▸ HH.out.wa : Nums .i64 wr wr.heap.size a.words.A L.length L).at_ hlt
      obtain ⟨b2, f2, _, e2, hb2, c2⟩ := (HEB.out ▸ HH.out.wb : Nums .i64 wr wr.heap.size b.words.A L.length L).at_ hlt
      have k23 : wr.cell? ⟨W.heap.size, 23, none⟩ = some (.slice a.words.A L.length a.words.c) := (OA.cell 23).trans (by show some (Value.slice a.words.A a.words.n a.words.c) = _; rw [HEA.out])
      have m23 : wr.cell? ⟨W.heap.size + 1, 23, none⟩ = some (.slice b.words.A L.length b.words.c) := (OB.cell 23).trans (by show some (Value.slice b.words.A b.words.n b.words.c) = _; rw [HEB.out])
      rw [e1] at k23
      rw [e2] at m23
      generalize L[k] = v at *
      clear e1 e2
      go_wp2_with fail
      go_region
      go_wp2_with fail
      go_roundw
      case rel => exact ⟨k + 1, by go_num, by omega, OA, OB, hide (HH.out.below ⟨rfl, rfl, rfl, Nat.le_refl _, fun _ _ => rfl⟩), hide ⟨HL.out.os, HL.out.tape, HL.out.output, HL.out.size, HL.out.block⟩⟩
      case measure => simp [intOf]; omega
    · obtain rfl : k = L.length := by omega
      have k35 : wr.cell? ⟨W.heap.size, 35, none⟩ = some (.slice a.names.A 0 a.names.c) := (OA.cell 35).trans (by show some (Value.slice a.names.A a.names.n a.names.c) = _; rw [HNA.out])
      have m35 : wr.cell? ⟨W.heap.size + 1, 35, none⟩ = some (.slice b.names.A 0 b.names.c) := (OB.cell 35).trans (by show some (Value.slice b.names.A b.names.n b.names.c) = _; rw [HNB.out])
      have hda : ∀ c, (convert 36 9 (.slice a.data.A a.data.n c)).run Try.prog wr = .ok (.string ⟨D.toArray⟩) wr := fun c => run_str HH.out.da
      have hdb : ∀ c, (convert 36 9 (.slice b.data.A b.data.n c)).run Try.prog wr = .ok (.string ⟨D.toArray⟩) wr := fun c => run_str HH.out.db
      have hpa : ∀ c, (convert 36 9 (.slice a.q0.A a.q0.n c)).run Try.prog wr = .ok (.string ⟨P.toArray⟩) wr := fun c => run_str HH.out.pa
      have hpb : ∀ c, (convert 36 9 (.slice b.q0.A b.q0.n c)).run Try.prog wr = .ok (.string ⟨P.toArray⟩) wr := fun c => run_str HH.out.pb
      have hqa : ∀ c, (convert 36 9 (.slice a.q1.A a.q1.n c)).run Try.prog wr = .ok (.string ⟨Q.toArray⟩) wr := fun c => run_str HH.out.qa
      have hqb : ∀ c, (convert 36 9 (.slice b.q1.A b.q1.n c)).run Try.prog wr = .ok (.string ⟨Q.toArray⟩) wr := fun c => run_str HH.out.qb
      have eqD : (D == D) = true := by simp
      have eqP : (P == P) = true := by simp
      have eqQ : (Q == Q) = true := by simp
      have k24 : wr.cell? ⟨W.heap.size, 24, none⟩ = some (.slice a.data.A a.data.n a.data.c) := OA.cell 24
      have m24 : wr.cell? ⟨W.heap.size + 1, 24, none⟩ = some (.slice b.data.A b.data.n b.data.c) := OB.cell 24
      have k30 : wr.cell? ⟨W.heap.size, 30, none⟩ = some (.slice a.q0.A a.q0.n a.q0.c) := OA.cell 30
      have m30 : wr.cell? ⟨W.heap.size + 1, 30, none⟩ = some (.slice b.q0.A b.q0.n b.q0.c) := OB.cell 30
      have k31 : wr.cell? ⟨W.heap.size, 31, none⟩ = some (.slice a.q1.A a.q1.n a.q1.c) := OA.cell 31
      have m31 : wr.cell? ⟨W.heap.size + 1, 31, none⟩ = some (.slice b.q1.A b.q1.n b.q1.c) := OB.cell 31
      have HI := hide HH.out.ia.len
      have HJ := hide HH.out.ib.len
      have k29 : wr.cell? ⟨W.heap.size, 29, none⟩ = some (.slice a.backlog.A I.length a.backlog.c) := (OA.cell 29).trans (by show some (Value.slice a.backlog.A a.backlog.n a.backlog.c) = _; rw [HI.out])
      have m29 : wr.cell? ⟨W.heap.size + 1, 29, none⟩ = some (.slice b.backlog.A I.length b.backlog.c) := (OB.cell 29).trans (by show some (Value.slice b.backlog.A b.backlog.n b.backlog.c) = _; rw [HJ.out])
      have hl1 := OB.lt
      go_wp2_with fail
      go_loop [107] (fun s => s = .int .i64 0) (fun _ => 0)
      case atStart => rfl
      case round =>
        subst hrel
        go_wp2_with (first | (go_at_call 40; refine (ids_same a.backlog.A b.backlog.A I.length a.backlog.c b.backlog.c wr.heap.size I _ (HI.out ▸ HH.out.ia) (HJ.out ▸ HH.out.ib) HH.out.short.2).mono ?_; rintro e w2 ⟨rfl, g2⟩) | (refine wpList_val (by rfl) (exec_load_proc rfl rfl (OA.below g2 OA.lt)) ?_) | (refine wpList_val (by rfl) (exec_load_proc rfl rfl (OB.below g2 OB.lt)) ?_) | (go_at_call 41; refine (HP.out _ (HL.out.trans (g2.mono HL.out.size))).mono ?_; rintro e w3 ⟨rfl, g3⟩) | fail)
        go_ret
        exact ⟨rfl, (HL.out.trans (g2.mono HL.out.size)).trans (g3.mono (HL.out.trans (g2.mono HL.out.size)).size)⟩
end Go.Proofs.Ytcgiobffobonpaa
