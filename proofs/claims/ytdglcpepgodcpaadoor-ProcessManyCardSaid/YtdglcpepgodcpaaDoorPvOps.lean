/- Layer 16, package process: End, checkFork, privatePages, New: contracts over plain values. (Written by tools/mkpvops.py.) -/
import Derived.Test.YtdglcpepgodcpaaDoorPvKo
import Derived.Test.YtdglcpepgodcpaaDoorPvValid
import Derived.Test.YtdglcpepgodcpaaDoorPvCopy
import Derived.Test.YtdglcpepgodcpaaDoorObMem
import Derived.Test.YtdglcpepgodcpaaDoorProcessManyM
namespace Go.Proofs.YtdglcpepgodcpaaDoor
open Go.RowKit

theorem pv_ret3 {w : World} {fn : Func} {p u v : Tmp} (hr : fn.results = #[.cell p 42, .tmp u, .tmp v]) (tmps : Array Value) {g : Nat} (hp : tmps.getD p undef = .pointer (some ⟨g, 0, none⟩)) {y : Ob} {t : TypeId} (h : Obl w g t (oc y)) :
    (results fn tmps).run Tryd.prog w = .ok (.tuple #[.agg (oc y), tmps.getD u undef, tmps.getD v undef]) w := by
  have hp' : tmps[p]?.getD undef = .pointer (some ⟨g, 0, none⟩) := by simpa using hp
  simp [results, hr, hp', asAddr, h.load Tryd.underlying42 rfl obSize]
theorem pv_retoo {w : World} {fn : Func} {p q u : Tmp} (hr : fn.results = #[.cell p 42, .cell q 42, .tmp u]) (tmps : Array Value) {g g' : Nat} (hp : tmps.getD p undef = .pointer (some ⟨g, 0, none⟩)) (hq : tmps.getD q undef = .pointer (some ⟨g', 0, none⟩)) {y z : Ob} {t t' : TypeId} (h : Obl w g t (oc y)) (h' : Obl w g' t' (oc z)) :
    (results fn tmps).run Tryd.prog w = .ok (.tuple #[.agg (oc y), .agg (oc z), tmps.getD u undef]) w := by
  have hp' : tmps[p]?.getD undef = .pointer (some ⟨g, 0, none⟩) := by simpa using hp
  have hq' : tmps[q]?.getD undef = .pointer (some ⟨g', 0, none⟩) := by simpa using hq
  simp [results, hr, hp', hq', asAddr, h.load Tryd.underlying42 rfl obSize, h'.load Tryd.underlying42 rfl obSize]
theorem isKo_obj {w : World} {B : Nat} {c : Ob} {X : Cont} (h : HoldsP w B c X) (hk : c.children.n ≤ c.children.c ∧ c.children.c ≤ 9223372036854775807) (hp : c.pages.n ≤ c.pages.c ∧ c.pages.c ≤ 9223372036854775807) (ht : c.table.n ≤ c.table.c ∧ c.table.c ≤ 9223372036854775807) (id : Int) : IsKo w B (c.obj id) (Ko.of (c.obj id) X.only) :=
  IsKo.mk' ⟨h.children, h.code, h.strs, h.pages, h.table, Nums.nil, Bytes.nil, Nums.nil, Bytes.nil, Bytes.nil, [], Ents.nil⟩ ⟨Nat.le_refl _, Nat.le_refl _, Nat.le_refl _, Nat.le_refl _, hp, ht, hk⟩
theorem pv_nokid : (0 : Nat) ≤ 0 ∧ (0 : Nat) ≤ 9223372036854775807 := by decide
theorem check_ok_pages {p : Cd.Pr} (h : (Cd.check p).2 = 0) : 0 ≤ p.pages ∧ p.pages ≤ 16 := by
  by_cases h1 : (256 < p.code.length ∨ 32 < p.strs.length) ∨ (p.strs.any fun s => decide (128 < s.length)) = true
  · rw [Cd.check_limit h1] at h; simp at h
  · by_cases h2 : p.pages < 0 ∨ 16 < p.pages
    · rw [Cd.check_range h1 h2] at h; simp at h
    · omega
def Ob.zomb (pa st : Int) : Ob := { Ob.zero with state := 3, parent := pa, status := st }
theorem built_zomb (pa st : Int) : Tryd.prog.built 36 [(0, .int .i64 3), (1, .int .u64 pa), (9, .int .i64 st)] = some (pcell (Ob.zomb pa st)) := by kernel_rfl
/-- Private pages. -/
def privs (ids : List Int) : List Sp.Ref := ids.map fun i => ⟨i, false⟩
theorem privs_take {ids : List Int} {k : Nat} (hk : k < ids.length) : privs (ids.take k) ++ [⟨ids[k], false⟩] = privs (ids.take (k + 1)) := by
  unfold privs
  rw [List.take_succ_eq_append_getElem hk, List.map_append]
  rfl
set_option maxRecDepth 100000 in
set_option maxHeartbeats 8000000 in
theorem pvPages_any (I : Option Addr) (q cq : Nat) (ids : List Int) (W : World) (hI : Nums .u64 W W.heap.size I q ids) (hq : q ≤ 1000) : Calls Tryd.prog 13 #[.slice I q cq] W fun e w' => ∃ A c, e = .returned (.slice A q c) ∧ w'.ownsRow W.heap.size 77 2 (.slice A q c) q (rv (privs ids)) ∧ Below W.heap.size W w' := by
  have HI := hide hI
  have hlen := hI.len
  clear hI
  go_enter Tryd.func13, Tryd.ntmps13
  go_wp2_with fail
  go_loopw [3, 8] (fun s3 s8 wr => ∃ (k c : Nat) (O : Option Addr), s3 = .slice O k c ∧ s8 = .int .i64 (k : Int) ∧ k ≤ q ∧ Hid (wr.ownsRow W.heap.size 77 2 (.slice O k c) k (rv (privs (ids.take k)))) ∧ Hid (Below W.heap.size W wr)) (fun _ s8 _ => q - (intOf s8).toNat)
  case atStart => exact ⟨0, 0, none, rfl, rfl, by omega, hide own_none, hide (Below.refl _ _)⟩
  case round =>
    obtain ⟨k, c, O, rfl, rfl, hk, HO, HB⟩ := hrel
    by_cases hlt : k < q
    · have hlt' : (k : Int) < (q : Int) := by omega
      have hk16 : k + 1 ≤ 1000 := by omega
      obtain ⟨b, o, hkl, rfl, hb, c0⟩ := (HI.out.below HB.out).at_ hlt
      have HP := hide (privs_take hkl)
      obtain ⟨L, hL⟩ : ∃ L, privs (ids.take k) = L := ⟨_, rfl⟩
      rw [hL] at HO HP
      obtain ⟨x, hx⟩ : ∃ x, ids[k] = x := ⟨_, rfl⟩
      rw [hx] at c0 HP
      have hW := HB.out.size
      clear hx hL
      go_wp2_with (first | (at_builtin; refine wpList_append_rd rfl _ _ _ rfl refTy (base := W.heap.size) rfl (HO.out.alloc (.cells #[.int .u64 x, .bool false] 77)) rfl (Row.two wr ⟨x, false⟩ 77) (by simp [Value.oneCell']) (by unfold maxLen; omega) (by omega) (by simp; omega) ?_; intro A5 c5 w5 hown5 hg5 _; have HB5 := hide (below_own (HB.out.alloc hW _) (HO.out.alloc _) hg5 (by simp; omega)); rw [show rv L ++ [.int .u64 x, .bool false] = rv (L ++ [⟨x, false⟩]) from rv_snoc L ⟨_, _⟩, HP.out] at hown5; have HO5 := hide hown5; clear hown5 hg5 HO HB) | fail)
      go_roundw
      case rel => exact ⟨k + 1, c5, A5, rfl, by go_num, by omega, HO5, HB5⟩
      case measure => simp [intOf]; omega
    · obtain rfl : k = q := by omega
      have HT := hide (show ids.take k = ids from List.take_of_length_le (by omega))
      have HO6 := hide (show wr.ownsRow W.heap.size 77 2 (.slice O k c) k (rv (privs ids)) by have := HO.out; rwa [HT.out] at this)
      clear HO HT
      go_wp2_with fail
      go_ret
      exact ⟨_, _, rfl, HO6.out, HB.out⟩
/-- A new process as it is built. -/
def Ob.newp (C D P : Sl) (pp : Int) : Ob := { Ob.zero with state := 1, code := C, strs := D, ppages := pp, pages := P }
theorem built_newp (C D P : Sl) (pp : Int) : Tryd.prog.built 36 [(0, .int .i64 1), (3, .agg (prc C.A C.n C.c D.A D.n D.c pp)), (5, .slice P.A P.n P.c)] = some (pcell (Ob.newp C D P pp)) := by kernel_rfl
theorem own_later {w w' : World} {base size n : Nat} {e : TypeId} {v : Value} {xs : List Value} (h : w.ownsRow base e size v n xs) (hb : Below w.heap.size w w') : w'.ownsRow base e size v n xs := own_keep h fun g _ h2 => hb.block g h2
theorem own_apart_obl {w w' : World} {base size n c z : Nat} {e t : TypeId} {A : Option Addr} {xs : List Value} {cs cs' : Array Value} (h : w.ownsRow base e size (.slice A n c) n xs) (O : Obl w z t cs) (hne : e ≠ t) (hw : w' = w.setRow z cs') : w'.ownsRow base e size (.slice A n c) n xs := by
  subst hw
  refine own_keep_ne h (g := z) ?_ fun k hk => setRow_other w z cs' hk
  rw [ownBlock_slice]
  exact fun hx => Obl.apart O h hne hx.symm
end Go.Proofs.YtdglcpepgodcpaaDoor
