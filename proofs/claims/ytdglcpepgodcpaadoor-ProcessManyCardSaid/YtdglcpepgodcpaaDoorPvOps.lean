/- Layer 16, package process: End, checkFork, privatePages, New: contracts over plain values. (Written by tools/mkpvops.py.) -/
import Derived.Test.YtdglcpepgodcpaaDoorPvKo
import Derived.Test.YtdglcpepgodcpaaDoorPvValid
import Derived.Test.YtdglcpepgodcpaaDoorPvCopy
import Derived.Test.YtdglcpepgodcpaaDoorObMem
import Derived.Test.YtdglcpepgodcpaaDoorProcessManyM
namespace Go.Proofs.YtdglcpepgodcpaaDoor
open Go.RowKit

theorem pv_ret3 {w : World} {fn : Func} {p u v : Tmp} (hr : fn.results = #[.cell p 42, .tmp u, .tmp v]) (tmps : Array Value) {g : Nat} (hp : tmps.getD p undef = .pointer (some ⟨g, 0, none⟩)) {y : Ob} {t : TypeId} (h : Obl w g t (oc y)) :
    (results fn tmps).run Tryd.prog w = .ok (.tuple #[.agg (oc y), tmps.getD u undef, tmps.getD v undef]) w := by
  have hp' : tmps[p]?.getD undef = .pointer (some ⟨g, 0, none⟩) := by simpa using hp
  simp [results, hr, hp', asAddr, h.load Tryd.underlying42 rfl obSize]
theorem pv_retoo {w : World} {fn : Func} {p q u : Tmp} (hr : fn.results = #[.cell p 42, .cell q 42, .tmp u]) (tmps : Array Value) {g g' : Nat} (hp : tmps.getD p undef = .pointer (some ⟨g, 0, none⟩)) (hq : tmps.getD q undef = .pointer (some ⟨g', 0, none⟩)) {y z : Ob} {t t' : TypeId} (h : Obl w g t (oc y)) (h' : Obl w g' t' (oc z)) :
    (results fn tmps).run Tryd.prog w = .ok (.tuple #[.agg (oc y), .agg (oc z), tmps.getD u undef]) w := by
  have hp' : tmps[p]?.getD undef = .pointer (some ⟨g, 0, none⟩) := by simpa using hp
  have hq' : tmps[q]?.getD undef = .pointer (some ⟨g', 0, none⟩) := by simpa using hq
  simp [results, hr, hp', hq', asAddr, h.load Tryd.underlying42 rfl obSize, h'.load Tryd.underlying42 rfl obSize]
theorem isKo_obj {w : World} {B : Nat} {c : Ob} {X : Cont} (h : HoldsP w B c X) (hk : c.children.n ≤ c.children.c ∧ c.children.c ≤ 9223372036854775807) (hp : c.pages.n ≤ c.pages.c ∧ c.pages.c ≤ 9223372036854775807) (ht : c.table.n ≤ c.table.c ∧ c.table.c ≤ 9223372036854775807) (id : Int) : IsKo w B (c.obj id) (Ko.of (c.obj id) X.only) :=
  IsKo.mk' ⟨h.children, h.code, h.strs, h.pages, h.table, Nums.nil, Bytes.nil, Nums.nil, Bytes.nil, Bytes.nil, [], Ents.nil⟩ ⟨Nat.le_refl _, Nat.le_refl _, Nat.le_refl _, Nat.le_refl _, hp, ht, hk⟩
theorem pv_nokid : (0 : Nat) ≤ 0 ∧ (0 : Nat) ≤ 9223372036854775807 := by decide
theorem check_ok_pages {p : Cd.Pr} (h : (Cd.check p).2 = 0) : 0 ≤ p.pages ∧ p.pages ≤ 16 := by
  by_cases h1 : (256 < p.code.length ∨ 32 < p.strs.length) ∨ (p.strs.any fun s => decide (128 < s.length)) = true
  · rw [Cd.check_limit h1] at h; simp at h
  · by_cases h2 : p.pages < 0 ∨ 16 < p.pages
    · rw [Cd.check_range h1 h2] at h; simp at h
    · omega
def Ob.zomb (pa st : Int) : Ob := { Ob.zero with state := 3, parent := pa, status := st }
theorem built_zomb (pa st : Int) : Tryd.prog.built 36 [(0, .int .i64 3), (1, .int .u64 pa), (9, .int .i64 st)] = some (pcell (Ob.zomb pa st)) := by kernel_rfl
set_option maxRecDepth 100000 in
set_option maxHeartbeats 8000000 in
theorem pvEnd_any {o : Ob} {k : Ko} (st : Int) (W : World) (h : IsKo W W.heap.size o k) (hf : k.Fit) (hL : LaidO W) : Calls Tryd.prog 7 #[.agg (oc o), .int .i64 st] W (KoBoolErr (kEnd k st) W) := by
  obtain ⟨w1, hw, O, Z, hb, hs⟩ := start_oz W o
  have HB := hide hb
  have HH : Hid (IsKo w1 w1.heap.size o k) := hide (h.later hb)
  have HL := hide (hL.below hb)
  have HI := hide (h.procIn hf)
  have HP := hide h.proc_iff
  have HS := hide h.state
  have HPA := hide h.parent
  have HID := hide h.id
  clear h hf hL hb hs
  go_enter Tryd.func7, Tryd.ntmps7
  go_wp2_with (first | (refine wpList_val (by rfl) (exec_load_ob rfl rfl O) ?_) | fail)
  refine (pvValid_any o k.cont _ HH.out.held.p HI.out HL.out).mono ?_
  rintro e w2 ⟨rfl, hb⟩
  replace O := O.below hb O.lt
  replace Z := Z.below hb Z.lt
  replace HB := hide (HB.out.trans (hb.mono HB.out.size))
  replace HH := hide (HH.out.later hb)
  clear hb
  have k0 : w2.cell? ⟨W.heap.size, 0, none⟩ = some (.int .u64 o.id) := O.cell 0
  have k3 : w2.cell? ⟨W.heap.size, 3, none⟩ = some (.int .i64 o.state) := O.cell 3
  have k4 : w2.cell? ⟨W.heap.size, 4, none⟩ = some (.int .u64 o.parent) := O.cell 4
  by_cases hp : o.Proc k.cont
  case neg =>
    rw [decide_eq_false hp]
    have HR : Hid (kEnd k st = (Ko.zero, false, 1)) := hide (if_pos fun h => hp (HP.out.2 h))
    clear hp
    go_wp2_with (first | (refine wpList_val (by rfl) (exec_build (t := 42) (vs := []) rfl (by rfl) built_zero) ?_) | (refine store_ob rfl _ _ rfl rfl (c := Ob.zero) rfl Z rfl ?_) | fail)
    refine bodyPost_ret (pv_ret3 rfl _ (by rfl) (Z.row_same _)) rfl ?_
    exact KoBoolErr.of HR.out rfl (IsKo.zero _ _) (below_row HB.out (Nat.le_succ _) _)
  rw [decide_eq_true hp]
  have HN : Hid (¬ ¬ k.Proc) := hide (fun h => h (HP.out.1 hp))
  clear hp
  by_cases h3 : o.state = 3
  case pos =>
    have HR : Hid (kEnd k st = (Ko.zero, false, 8)) := hide (by unfold kEnd; rw [if_neg HN.out, if_pos (HS.out.trans h3)])
    rw [h3] at k3
    clear h3
    go_wp2_with (first | (refine wpList_val (by rfl) (exec_build (t := 42) (vs := []) rfl (by rfl) built_zero) ?_) | (refine store_ob rfl _ _ rfl rfl (c := Ob.zero) rfl Z rfl ?_) | fail)
    refine bodyPost_ret (pv_ret3 rfl _ (by rfl) (Z.row_same _)) rfl ?_
    exact KoBoolErr.of HR.out rfl (IsKo.zero _ _) (below_row HB.out (Nat.le_succ _) _)
  have e3 : (o.state == 3) = false := by simpa using h3
  have HN3 : Hid (¬ k.state = 3) := hide (by rw [HS.out]; exact h3)
  clear h3
  by_cases h4 : o.parent = 0
  case pos =>
    have HR : Hid (kEnd k st = (Ko.zero, true, 0)) := hide (by unfold kEnd; rw [if_neg HN.out, if_neg HN3.out, if_pos (HPA.out.trans h4)])
    rw [h4] at k4
    clear h4
    go_wp2_with (first | (refine wpList_val (by rfl) (exec_build (t := 42) (vs := []) rfl (by rfl) built_zero) ?_) | (refine store_ob rfl _ _ rfl rfl (c := Ob.zero) rfl Z rfl ?_) | fail)
    refine bodyPost_ret (pv_ret3 rfl _ (by rfl) (Z.row_same _)) rfl ?_
    exact KoBoolErr.of HR.out rfl (IsKo.zero _ _) (below_row HB.out (Nat.le_succ _) _)
  have e4 : (o.parent == 0) = false := by simpa using h4
  have HR : Hid (kEnd k st = (k.zombie st, false, 0)) := hide (by unfold kEnd; rw [if_neg HN.out, if_neg HN3.out, if_neg (by rw [HPA.out]; exact h4)])
  clear h4
  go_wp2_with (first | (refine wpList_val (by rfl) (exec_build (t := 36) (vs := [(0, .int .i64 3), (1, .int .u64 o.parent), (9, .int .i64 st)]) rfl (by go_simp) (built_zomb o.parent st)) ?_) | fail)
  refine (pvObject_any (Ob.zomb o.parent st) o.id _).mono ?_
  rintro e w3 ⟨rfl, hb⟩
  replace O := O.below hb O.lt
  replace Z := Z.below hb Z.lt
  replace HB := hide (HB.out.trans (hb.mono HB.out.size))
  replace HH := hide (HH.out.later hb)
  clear hb
  go_wp2_with (first | (refine store_ob rfl _ _ rfl rfl (c := (Ob.zomb o.parent st).obj o.id) rfl Z rfl ?_) | fail)
  refine bodyPost_ret (pv_ret3 rfl _ (by rfl) (Z.row_same _)) rfl ?_
  refine KoBoolErr.of HR.out rfl ?_ (below_row HB.out (Nat.le_succ _) _)
  have hk := isKo_obj (w := w3.setRow (W.heap.size + 1) (oc ((Ob.zomb o.parent st).obj o.id))) (B := (w3.setRow (W.heap.size + 1) (oc ((Ob.zomb o.parent st).obj o.id))).heap.size) (c := Ob.zomb o.parent st) (X := Cont.none) ⟨Nums.nil, Inss.nil, Strs.nil, Refs.nil, Slots.nil⟩ pv_nokid pv_nokid pv_nokid o.id
  have he : Ko.of ((Ob.zomb o.parent st).obj o.id) Cont.none.only = k.zombie st := by unfold Ko.zombie; rw [HID.out, HPA.out]; rfl
  rwa [he] at hk
set_option maxRecDepth 100000 in
set_option maxHeartbeats 8000000 in
theorem pvChkFork_any {o : Ob} {k : Ko} (id : Int) (W : World) (h : IsKo W W.heap.size o k) (hf : k.Fit) (hL : LaidO W) : Calls Tryd.prog 14 #[.agg (oc o), .int .u64 id] W fun e w' => e = .returned (.int .i64 (kForkChk k id)) ∧ Below W.heap.size W w' := by
  obtain ⟨w1, hw, O, hb⟩ : ∃ w1, W.alloc (.cells (oc o) 42) = w1 ∧ Obl w1 W.heap.size 42 (oc o) ∧ Below W.heap.size W w1 := ⟨_, rfl, Obl.make W _ _, (Below.refl _ _).alloc (Nat.le_refl _) _⟩
  have HB := hide hb
  have HH : Hid (IsKo w1 w1.heap.size o k) := hide (h.later hb)
  have HL := hide (hL.below hb)
  have HI := hide (h.procIn hf)
  have HP := hide h.proc_iff
  have HS := hide h.state
  have HID := hide h.id
  have HKL := hide h.kidsLen
  clear h hf hL hb
  go_enter Tryd.func14, Tryd.ntmps14
  go_wp2_with (first | (refine wpList_val (by rfl) (exec_load_ob rfl rfl O) ?_) | fail)
  refine (pvValid_any o k.cont _ HH.out.held.p HI.out HL.out).mono ?_
  rintro e w2 ⟨rfl, hb⟩
  replace O := O.below hb O.lt
  replace HB := hide (HB.out.trans (hb.mono HB.out.size))
  replace HH := hide (HH.out.later hb)
  have k0 : w2.cell? ⟨W.heap.size, 0, none⟩ = some (.int .u64 o.id) := O.cell 0
  have k3 : w2.cell? ⟨W.heap.size, 3, none⟩ = some (.int .i64 o.state) := O.cell 3
  have k5 : w2.cell? ⟨W.heap.size, 5, none⟩ = some (.slice o.children.A o.children.n o.children.c) := O.cell 5
  clear hb
  by_cases hp : o.Proc k.cont
  case neg =>
    rw [decide_eq_false hp]
    have HR : Hid (kForkChk k id = 1) := hide (if_pos fun h => hp (HP.out.2 h))
    clear hp
    go_wp2_with fail
    go_ret
    exact ⟨by rw [HR.out]; rfl, HB.out⟩
  rw [decide_eq_true hp]
  have HN : Hid (¬ ¬ k.Proc) := hide (fun h => h (HP.out.1 hp))
  clear hp
  by_cases h3 : o.state = 1
  case neg =>
    have HR : Hid (kForkChk k id = 8) := hide (by unfold kForkChk; rw [if_neg HN.out, if_pos (by rw [HS.out]; exact h3)])
    have e3 : (o.state != 1) = true := by simpa using h3
    clear h3
    go_wp2_with fail
    go_ret
    exact ⟨by rw [HR.out]; rfl, HB.out⟩
  have HN3 : Hid (¬ k.state ≠ 1) := hide (by rw [HS.out]; simpa using h3)
  rw [h3] at k3
  clear h3
  by_cases h32 : 32 ≤ o.children.n
  case pos =>
    have HR : Hid (kForkChk k id = 3) := hide (by unfold kForkChk; rw [if_neg HN.out, if_neg HN3.out, if_pos (by rw [HKL.out]; exact h32)])
    have e32 : (32 : Int) ≤ (o.children.n : Int) := by omega
    clear h32
    go_wp2_with fail
    go_ret
    exact ⟨by rw [HR.out]; rfl, HB.out⟩
  have HN32 : Hid (¬ 32 ≤ k.children.length) := hide (by rw [HKL.out]; exact h32)
  have e32 : ¬ (32 : Int) ≤ (o.children.n : Int) := by omega
  have h63 : o.children.n ≤ 9223372036854775807 := by omega
  clear h32
  go_wp2_with fail
  refine (pvNew_any id o.id o.children.A o.children.n o.children.c k.children _ HH.out.held.children h63).mono ?_
  rintro e w3 ⟨rfl, rfl⟩
  by_cases hq : id ≠ 0 ∧ id ≠ o.id ∧ id ∉ k.children
  · rw [decide_eq_true hq]
    have HR : Hid (kForkChk k id = 0) := hide (by unfold kForkChk; rw [if_neg HN.out, if_neg HN3.out, if_neg HN32.out, if_pos (by rw [HID.out]; exact hq)])
    clear hq
    go_wp2_with fail
    go_ret
    exact ⟨by rw [HR.out]; rfl, HB.out⟩
  · rw [decide_eq_false hq]
    have HR : Hid (kForkChk k id = 1) := hide (by unfold kForkChk; rw [if_neg HN.out, if_neg HN3.out, if_neg HN32.out, if_neg (by rw [HID.out]; exact hq)])
    clear hq
    go_wp2_with fail
    go_ret
    exact ⟨by rw [HR.out]; rfl, HB.out⟩
/-- Private pages. -/
def privs (ids : List Int) : List Sp.Ref := ids.map fun i => ⟨i, false⟩
theorem privs_take {ids : List Int} {k : Nat} (hk : k < ids.length) : privs (ids.take k) ++ [⟨ids[k], false⟩] = privs (ids.take (k + 1)) := by
  unfold privs
  rw [List.take_succ_eq_append_getElem hk, List.map_append]
  rfl
set_option maxRecDepth 100000 in
set_option maxHeartbeats 8000000 in
theorem pvPages_any (I : Option Addr) (q cq : Nat) (ids : List Int) (W : World) (hI : Nums .u64 W W.heap.size I q ids) (hq : q ≤ 1000) : Calls Tryd.prog 13 #[.slice I q cq] W fun e w' => ∃ A c, e = .returned (.slice A q c) ∧ w'.ownsRow W.heap.size 77 2 (.slice A q c) q (rv (privs ids)) ∧ Below W.heap.size W w' := by
  have HI := hide hI
  have hlen := hI.len
  clear hI
  go_enter Tryd.func13, Tryd.ntmps13
  go_wp2_with fail
  go_loopw [3, 8] (fun s3 s8 wr => ∃ (k c : Nat) (O : Option Addr), s3 = .slice O k c ∧ s8 = .int .i64 (k : Int) ∧ k ≤ q ∧ Hid (wr.ownsRow W.heap.size 77 2 (.slice O k c) k (rv (privs (ids.take k)))) ∧ Hid (Below W.heap.size W wr)) (fun _ s8 _ => q - (intOf s8).toNat)
  case atStart => exact ⟨0, 0, none, rfl, rfl, by omega, hide own_none, hide (Below.refl _ _)⟩
  case round =>
    obtain ⟨k, c, O, rfl, rfl, hk, HO, HB⟩ := hrel
    by_cases hlt : k < q
    · have hlt' : (k : Int) < (q : Int) := by omega
      have hk16 : k + 1 ≤ 1000 := by omega
      obtain ⟨b, o, hkl, rfl, hb, c0⟩ := (HI.out.below HB.out).at_ hlt
      have HP := hide (privs_take hkl)
      obtain ⟨L, hL⟩ : ∃ L, privs (ids.take k) = L := ⟨_, rfl⟩
      rw [hL] at HO HP
      obtain ⟨x, hx⟩ : ∃ x, ids[k] = x := ⟨_, rfl⟩
      rw [hx] at c0 HP
      have hW := HB.out.size
      clear hx hL
      go_wp2_with (first | (at_builtin; refine wpList_append_rd rfl _ _ _ rfl refTy (base := W.heap.size) rfl (HO.out.alloc (.cells #[.int .u64 x, .bool false] 77)) rfl (Row.two wr ⟨x, false⟩ 77) (by simp [Value.oneCell']) (by unfold maxLen; omega) (by omega) (by simp; omega) ?_; intro A5 c5 w5 hown5 hg5 _; have HB5 := hide (below_own (HB.out.alloc hW _) (HO.out.alloc _) hg5 (by simp; omega)); rw [show rv L ++ [.int .u64 x, .bool false] = rv (L ++ [⟨x, false⟩]) from rv_snoc L ⟨_, _⟩, HP.out] at hown5; have HO5 := hide hown5; clear hown5 hg5 HO HB) | fail)
      go_roundw
      case rel => exact ⟨k + 1, c5, A5, rfl, by go_num, by omega, HO5, HB5⟩
      case measure => simp [intOf]; omega
    · obtain rfl : k = q := by omega
      have HT := hide (show ids.take k = ids from List.take_of_length_le (by omega))
      have HO6 := hide (show wr.ownsRow W.heap.size 77 2 (.slice O k c) k (rv (privs ids)) by have := HO.out; rwa [HT.out] at this)
      clear HO HT
      go_wp2_with fail
      go_ret
      exact ⟨_, _, rfl, HO6.out, HB.out⟩
/-- A new process as it is built. -/
def Ob.newp (C D P : Sl) (pp : Int) : Ob := { Ob.zero with state := 1, code := C, strs := D, ppages := pp, pages := P }
theorem built_newp (C D P : Sl) (pp : Int) : Tryd.prog.built 36 [(0, .int .i64 1), (3, .agg (prc C.A C.n C.c D.A D.n D.c pp)), (5, .slice P.A P.n P.c)] = some (pcell (Ob.newp C D P pp)) := by kernel_rfl
theorem own_later {w w' : World} {base size n : Nat} {e : TypeId} {v : Value} {xs : List Value} (h : w.ownsRow base e size v n xs) (hb : Below w.heap.size w w') : w'.ownsRow base e size v n xs := own_keep h fun g _ h2 => hb.block g h2
theorem own_apart_obl {w w' : World} {base size n c z : Nat} {e t : TypeId} {A : Option Addr} {xs : List Value} {cs cs' : Array Value} (h : w.ownsRow base e size (.slice A n c) n xs) (O : Obl w z t cs) (hne : e ≠ t) (hw : w' = w.setRow z cs') : w'.ownsRow base e size (.slice A n c) n xs := by
  subst hw
  refine own_keep_ne h (g := z) ?_ fun k hk => setRow_other w z cs' hk
  rw [ownBlock_slice]
  exact fun hx => Obl.apart O h hne hx.symm
set_option maxRecDepth 100000 in
set_option maxHeartbeats 16000000 in
theorem pvNewp_any (id pp : Int) (C : List Cd.Ins) (Zs : List (List UInt8)) (A D I : Option Addr) (n c m d q cq : Nat) (ids : List Int) (W : World) (hi : Inss W W.heap.size A n C) (hs : Strs W W.heap.size D m Zs) (hI : Nums .u64 W W.heap.size I q ids) (hn : n ≤ 100000) (hm : m ≤ 100000) (hz : ∀ x ∈ Zs, x.length ≤ 9223372036854775807) (hL : LaidO W) :
    Calls Tryd.prog 5 #[.int .u64 id, .agg (prc A n c D m d pp), .slice I q cq] W (KoErr (kNew id C Zs pp ids) W) := by
  obtain ⟨w1, hw, Z, hb, hs1⟩ := start_z (W.alloc (.cells (prc A n c D m d pp) 29))
  have O : Obl w1 W.heap.size 29 (prc A n c D m d pp) := (Obl.make W _ _).below hb (by simp)
  replace hb : Below W.heap.size W w1 := ((Below.refl W.heap.size W).alloc (Nat.le_refl _) (.cells (prc A n c D m d pp) 29)).trans (hb.mono (by simp))
  rw [World.size_alloc] at Z
  have HB := hide hb
  have HI := hide (hi.below hb)
  have HS := hide (hs.below hb)
  have HN := hide (hI.below hb)
  have HL := hide (hL.below hb)
  have HZ := hide hz
  have hil := hi.len
  have hsl := hs.len
  have hql := hI.len
  have HW := hide hb.size
  have hg1 := Z.lt
  clear hi hs hI hL hb hz hs1
  go_enter Tryd.func5, Tryd.ntmps5
  go_wp2_with (first | (refine wpList_val (by rfl) (exec_load_row (cs := prc A n c D m d pp) rfl rfl O rfl Tryd.underlying29 prSize) ?_) | fail)
  refine (check_any ⟨C, Zs, pp⟩ A D n c m d _ _ (HI.out.mono HW.out) (HS.out.mono HW.out) (Nat.le_refl _) (by omega) (by omega) HZ.out HL.out).mono ?_
  rintro e w2 ⟨rfl, hb⟩
  have hb' := hb.mono HW.out
  replace O := O.below hb O.lt
  replace Z := Z.below hb Z.lt
  replace HB := hide (HB.out.trans hb')
  replace HI := hide (HI.out.below hb')
  replace HS := hide (HS.out.below hb')
  replace HN := hide (HN.out.below hb')
  replace HL := hide (HL.out.below hb)
  replace HW := hide (Nat.le_trans HW.out hb.size)
  replace hg1 := Z.lt
  clear hb hb'
  obtain ⟨ck, hck⟩ : ∃ x : Nat, (Cd.check ⟨C, Zs, pp⟩).2 = x := ⟨_, rfl⟩
  obtain ⟨ca, hca⟩ : ∃ x : Nat, (Cd.check ⟨C, Zs, pp⟩).1 = x := ⟨_, rfl⟩
  rw [hck, hca]
  have HCK := hide hck
  clear hck hca
  have k2 : w2.cell? ⟨W.heap.size, 2, none⟩ = some (.int .i64 pp) := O.cell 2
  by_cases h0 : ck = 0
  case neg =>
    have HR : Hid (kNew id C Zs pp ids = (Ko.zero, 1)) := hide (if_pos (.inl (by rw [HCK.out]; exact h0)))
    have e0 : ((ck : Int) != 0) = true := by simp; omega
    clear h0
    go_wp2_with (first | (refine wpList_val (by rfl) (exec_build (t := 42) (vs := []) rfl (by rfl) built_zero) ?_) | (refine store_ob rfl _ _ rfl rfl (c := Ob.zero) rfl Z rfl ?_) | fail)
    refine bodyPost_ret (ret_ob2 rfl _ (by rfl) (Z.row_same _)) rfl ?_
    exact KoErr.of HR.out rfl (IsKo.zero _ _) (below_row HB.out (Nat.le_succ _) _)
  subst h0
  by_cases h1 : id = 0
  case pos =>
    have HR : Hid (kNew id C Zs pp ids = (Ko.zero, 1)) := hide (if_pos (.inr h1))
    have e1 : (id == 0) = true := by simpa using h1
    clear h1
    go_wp2_with (first | (refine wpList_val (by rfl) (exec_build (t := 42) (vs := []) rfl (by rfl) built_zero) ?_) | (refine store_ob rfl _ _ rfl rfl (c := Ob.zero) rfl Z rfl ?_) | fail)
    refine bodyPost_ret (ret_ob2 rfl _ (by rfl) (Z.row_same _)) rfl ?_
    exact KoErr.of HR.out rfl (IsKo.zero _ _) (below_row HB.out (Nat.le_succ _) _)
  have HN0 : Hid (¬ ((Cd.check ⟨C, Zs, pp⟩).2 ≠ 0 ∨ id = 0)) := hide (by rw [HCK.out]; exact fun h => h.elim (fun h => h rfl) h1)
  have e1 : (id == 0) = false := by simpa using h1
  clear h1
  by_cases h2 : (q : Int) = pp
  case neg =>
    have HR : Hid (kNew id C Zs pp ids = (Ko.zero, 2)) := hide (by unfold kNew; rw [if_neg HN0.out, if_pos (by rw [hql]; exact h2)])
    have e2 : ((q : Int) != pp) = true := by simpa using h2
    clear h2
    go_wp2_with (first | (refine wpList_val (by rfl) (exec_build (t := 42) (vs := []) rfl (by rfl) built_zero) ?_) | (refine store_ob rfl _ _ rfl rfl (c := Ob.zero) rfl Z rfl ?_) | fail)
    refine bodyPost_ret (ret_ob2 rfl _ (by rfl) (Z.row_same _)) rfl ?_
    exact KoErr.of HR.out rfl (IsKo.zero _ _) (below_row HB.out (Nat.le_succ _) _)
  have HN2 : Hid (¬ (ids.length : Int) ≠ pp) := hide (by rw [hql]; simpa using h2)
  have e2 : ((q : Int) != pp) = false := by simpa using h2
  have hq : q ≤ 1000 := by
    have := (check_ok_pages HCK.out)
    simp only at this
    omega
  clear h2
  go_wp2_with (first | (refine wpList_val (by rfl) (exec_load_row (cs := prc A n c D m d pp) rfl rfl O rfl Tryd.underlying29 prSize) ?_) | fail)
  refine (pvCopyProg_any C Zs A D n c m d _ pp _ (HI.out.mono HW.out) (HS.out.mono HW.out) (Nat.le_refl _) (by omega) (by omega)).mono ?_
  rintro e w3 ⟨A', c', D', d', rfl, hoa, hod, hb⟩
  have hb' := hb.mono HW.out
  replace Z := Z.below hb Z.lt
  replace HB := hide (HB.out.trans hb')
  replace HN := hide (HN.out.below hb')
  replace HL := hide (HL.out.below hb)
  have HOA := hide (own_weaken hoa HW.out)
  have HOD := hide (own_weaken hod HW.out)
  replace HW := hide (Nat.le_trans HW.out hb.size)
  replace hg1 := Z.lt
  clear hb hb' hoa hod O k2 HI HS
  go_wp2_with fail
  refine (pvPages_any I q cq ids _ (HN.out.mono HW.out) hq).mono ?_
  rintro e w4 ⟨P, pc, rfl, hop, hb⟩
  have hb' := hb.mono HW.out
  replace Z := Z.below hb Z.lt
  replace HB := hide (HB.out.trans hb')
  replace HL := hide (HL.out.below hb)
  replace HOA := hide (own_later HOA.out hb)
  replace HOD := hide (own_later HOD.out hb)
  have HOP := hide (own_weaken hop HW.out)
  replace HW := hide (Nat.le_trans HW.out hb.size)
  replace hg1 := Z.lt
  clear hb hb' hop HN
  go_wp2_with (first | (refine wpList_val (by rfl) (exec_build (t := 36) (vs := [(0, .int .i64 1), (3, .agg (prc A' n c' D' m d' pp)), (5, .slice P q pc)]) rfl (by go_simp) (built_newp ⟨A', n, c'⟩ ⟨D', m, d'⟩ ⟨P, q, pc⟩ pp)) ?_) | fail)
  refine (pvObject_any (Ob.newp ⟨A', n, c'⟩ ⟨D', m, d'⟩ ⟨P, q, pc⟩ pp) id _).mono ?_
  rintro e w5 ⟨rfl, hb⟩
  have hb' := hb.mono HW.out
  replace Z := Z.below hb Z.lt
  replace HB := hide (HB.out.trans hb')
  replace HL := hide (HL.out.below hb)
  replace HOA := hide (own_later HOA.out hb)
  replace HOD := hide (own_later HOD.out hb)
  replace HOP := hide (own_later HOP.out hb)
  replace HW := hide (Nat.le_trans HW.out hb.size)
  replace hg1 := Z.lt
  clear hb hb'
  obtain ⟨y, hy⟩ : ∃ y, (Ob.newp ⟨A', n, c'⟩ ⟨D', m, d'⟩ ⟨P, q, pc⟩ pp).obj id = y := ⟨_, rfl⟩
  rw [hy]
  obtain ⟨v1, hv1, Y, hbv, hsv⟩ := start_z w5
  obtain ⟨gz, hgz⟩ : ∃ g, w5.heap.size = g := ⟨_, rfl⟩
  have HYZ := hide Y
  have hgw : W.heap.size + 1 < gz := by omega
  rw [hgz] at Y
  obtain ⟨v2, hv2⟩ : ∃ v, v1.setRow gz (oc y) = v := ⟨_, rfl⟩
  have Y2 := Y.row_same (oc y)
  have hb2 : Below w5.heap.size w5 v2 := by rw [← hv2, hgz]; exact below_row (hgz ▸ hbv) (Nat.le_refl _) _
  rw [hv2] at Y2
  have hb' := hb2.mono HW.out
  replace HB := hide (HB.out.trans hb')
  replace HL := hide (HL.out.below hb2)
  replace HOA := hide (own_later HOA.out hb2)
  replace HOD := hide (own_later HOD.out hb2)
  replace HOP := hide (own_later HOP.out hb2)
  have Z2 := Z.below hb2 Z.lt
  have HW2 := hide (Nat.le_trans HW.out hb2.size)
  have HKO : Hid (IsKo v2 v2.heap.size y (Ko.newp id C Zs pp ids)) := hide (by
    have hh : HoldsP v2 v2.heap.size (Ob.newp ⟨A', n, c'⟩ ⟨D', m, d'⟩ ⟨P, q, pc⟩ pp) { Cont.none with code := C, strs := Zs, pages := privs ids } := ⟨Nums.nil, Inss.of_own HOA.out, Strs.of_own HOD.out, Refs.of_own HOP.out, Slots.nil⟩
    subst hy
    exact isKo_obj hh pv_nokid ⟨own_cap HOP.out, own_cap63 HOP.out⟩ pv_nokid id)
  have HY := hide hy
  have hgz1 : v1.heap.size = gz + 1 := by omega
  clear hb2 hb' hbv HYZ hsv hy
  go_wp2_with (first | (refine store_ob rfl _ _ rfl rfl (c := y) rfl Y rfl ?_; rw [hv2]) | (refine wpList_val (by rfl) (exec_load_ob rfl rfl Y2) ?_) | fail)
  have hfit : (Ko.newp id C Zs pp ids).Fit := ⟨⟨by simp [Ko.newp, Ko.zero, Ko.of, Ko.cont, Cont.none], by simp only [Ko.newp, Ko.cont]; omega, by simp only [Ko.newp, Ko.cont]; omega, by simp only [Ko.newp, Ko.cont, List.length_map]; omega, by simp [Ko.newp, Ko.zero, Ko.of, Ko.cont, Cont.none]⟩, HZ.out, by simp [Ko.newp, Ko.zero, Ko.of, Ob.zero]⟩
  refine (pvValid_any y (Ko.newp id C Zs pp ids).cont _ HKO.out.held.p (HKO.out.procIn hfit) HL.out).mono ?_
  rintro e w6 ⟨rfl, hb⟩
  replace HB := hide (HB.out.trans (hb.mono HW2.out))
  replace HKO := hide (HKO.out.later hb)
  replace HOA := hide (own_later HOA.out hb)
  replace HOD := hide (own_later HOD.out hb)
  replace HOP := hide (own_later HOP.out hb)
  replace Z2 := Z2.below hb Z2.lt
  replace Y2 := Y2.below hb Y2.lt
  have HPI := hide HKO.out.proc_iff
  clear hb hfit Y
  by_cases hp : y.Proc (Ko.newp id C Zs pp ids).cont
  · rw [decide_eq_true hp]
    have HR : Hid (kNew id C Zs pp ids = (Ko.newp id C Zs pp ids, 0)) := hide (by unfold kNew; rw [if_neg HN0.out, if_neg HN2.out, if_pos (HPI.out.1 hp)])
    clear hp
    go_wp2_with (first | (refine wpList_val (by rfl) (exec_load_ob rfl rfl Y2) ?_) | (refine store_ob rfl _ _ rfl rfl (c := y) rfl Z2 rfl ?_) | fail)
    refine bodyPost_ret (ret_ob2 rfl _ (by rfl) (Z2.row_same _)) rfl ?_
    refine KoErr.of HR.out rfl ?_ (below_row HB.out (Nat.le_succ _) _)
    have hh : HoldsP (w6.setRow (W.heap.size + 1) (oc y)) (w6.setRow (W.heap.size + 1) (oc y)).heap.size (Ob.newp ⟨A', n, c'⟩ ⟨D', m, d'⟩ ⟨P, q, pc⟩ pp) { Cont.none with code := C, strs := Zs, pages := privs ids } := ⟨Nums.nil, Inss.of_own (own_apart_obl HOA.out Z2 (by decide) rfl), Strs.of_own (own_apart_obl HOD.out Z2 (by decide) rfl), Refs.of_own (own_apart_obl HOP.out Z2 (by decide) rfl), Slots.nil⟩
    have hy := HY.out
    subst hy
    exact isKo_obj hh pv_nokid ⟨own_cap HOP.out, own_cap63 HOP.out⟩ pv_nokid id
  · rw [decide_eq_false hp]
    have HR : Hid (kNew id C Zs pp ids = (Ko.zero, 1)) := hide (by unfold kNew; rw [if_neg HN0.out, if_neg HN2.out, if_neg fun h => hp (HPI.out.2 h)])
    clear hp
    go_wp2_with (first | (refine wpList_val (by rfl) (exec_build (t := 42) (vs := []) rfl (by rfl) built_zero) ?_) | (refine store_ob rfl _ _ rfl rfl (c := Ob.zero) rfl Z2 rfl ?_) | fail)
    refine bodyPost_ret (ret_ob2 rfl _ (by rfl) (Z2.row_same _)) rfl ?_
    exact KoErr.of HR.out rfl (IsKo.zero _ _) (below_row HB.out (Nat.le_succ _) _)
end Go.Proofs.YtdglcpepgodcpaaDoor
