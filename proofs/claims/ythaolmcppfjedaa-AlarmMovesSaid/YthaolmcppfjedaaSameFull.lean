/- clusterkernelsame.Object on objects that are alike and have no entries: they are the same. (Written by tools/mksameob.py.) | clusterkernelsame.Object on objects that are alike, with the same entries. (Written by tools/mksamefull.py.) -/
import Derived.Test.YthaolmcppfjedaaSame
import Derived.Deep.QuietTactic
import Derived.BigQuiet
import Derived.Test.YthaolmcppfjedaaNmEntry
import Derived.Test.YthaolmcppfjedaaRegionX
namespace Go.Proofs.Ythaolmcppfjedaa
open Go.RowKit

set_option maxRecDepth 100000 in
set_option maxHeartbeats 4000000 in
theorem ids_same (A D : Option Addr) (n c d C : Nat) (I : List Int) (w : World) (ha : Nums .u64 w C A n I) (hb : Nums .u64 w C D n I) (hn : n ≤ 1000000) : Calls Try.prog 18 #[.slice A n c, .slice D n d] w (BoolPost true w) := by
  have hn' : (n : Int) ≤ 1000000 := by omega
  go_enter Try.func18, Try.ntmps18
  go_wp2_with fail
  go_loopw [13] (fun s13 wr => ∃ k : Nat, s13 = .int .i64 (k : Int) ∧ k ≤ n ∧ ∃ q, wr = w.drewN q) (fun s13 _ => n - (intOf s13).toNat)
  case atStart => exact ⟨0, rfl, by omega, 0, rfl⟩
  case round =>
    obtain ⟨k, rfl, hk, q, rfl⟩ := hrel
    by_cases hlt : k < n
    · have hlt' : (k : Int) < (n : Int) := by omega
      obtain ⟨ba, oa, hla, rfl, _, hca⟩ := ha.at_ hlt
      obtain ⟨bb, ob, hlb, rfl, _, hcb⟩ := hb.at_ hlt
      obtain ⟨v, hv⟩ : ∃ v, I[k] = v := ⟨_, rfl⟩
      rw [hv] at hca hcb
      clear hv
      go_wp2_with fail
      go_quiet (fail)
      go_wp2
      go_roundw
      case rel => exact ⟨k + 1, by go_num, by omega, _, rfl⟩
      case measure => simp [intOf]; omega
    · obtain rfl : k = n := by omega
      go_wp2
      go_ret
      exact ⟨rfl, ⟨rfl, rfl, rfl, Nat.le_refl _, fun _ _ => rfl⟩⟩

/-- All numbers are the same, but for the process. -/
structure Alike (a b : Ob) : Prop where
  id : a.id = b.id
  kind : a.kind = b.kind
  refs : a.refs = b.refs
  offset : a.offset = b.offset
  target : a.target = b.target
  readers : a.readers = b.readers
  writers : a.writers = b.writers
  count : a.count = b.count
  e0 : a.e0 = b.e0
  e1 : a.e1 = b.e1
/-- What both objects' lists hold, but for entries. -/
structure Both (w : World) (a b : Ob) (L : List Int) (D P Q : List UInt8) (I : List Int) : Prop where
  wa : Nums .i64 w w.heap.size a.words.A a.words.n L
  wb : Nums .i64 w w.heap.size b.words.A b.words.n L
  da : Bytes w w.heap.size a.data.A a.data.n D
  db : Bytes w w.heap.size b.data.A b.data.n D
  pa : Bytes w w.heap.size a.q0.A a.q0.n P
  pb : Bytes w w.heap.size b.q0.A b.q0.n P
  qa : Bytes w w.heap.size a.q1.A a.q1.n Q
  qb : Bytes w w.heap.size b.q1.A b.q1.n Q
  ia : Nums .u64 w w.heap.size a.backlog.A a.backlog.n I
  ib : Nums .u64 w w.heap.size b.backlog.A b.backlog.n I
  short : L.length ≤ 1000000 ∧ I.length ≤ 1000000
theorem Both.below {w w' : World} {a b : Ob} {L : List Int} {D P Q : List UInt8} {I : List Int} (h : Both w a b L D P Q I) (hb : Below w.heap.size w w') : Both w' a b L D P Q I :=
  ⟨(h.wa.below hb).mono hb.size, (h.wb.below hb).mono hb.size, (h.da.below hb).mono hb.size, (h.db.below hb).mono hb.size, (h.pa.below hb).mono hb.size, (h.pb.below hb).mono hb.size, (h.qa.below hb).mono hb.size, (h.qb.below hb).mono hb.size, (h.ia.below hb).mono hb.size, (h.ib.below hb).mono hb.size, h.short⟩
theorem run_str {w : World} {B n c : Nat} {A : Option Addr} {l : List UInt8} (h : Bytes w B A n l) : (convert 38 9 (.slice A n c)).run Try.prog w = .ok (.string ⟨l.toArray⟩) w :=
  run_string_rd (P := Try.prog) w Try.underlying38 Try.underlying5 Try.underlying9 h
end Go.Proofs.Ythaolmcppfjedaa
namespace Go.Proofs.Ythaolmcppfjedaa
open Go.RowKit

end Go.Proofs.Ythaolmcppfjedaa
