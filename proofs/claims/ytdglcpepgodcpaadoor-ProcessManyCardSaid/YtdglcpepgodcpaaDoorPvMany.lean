/- Layer 16, what the law of many children shares: a parent of nothing but children, its children, what is left of them; in memory. -/
import Derived.Test.YtdglcpepgodcpaaDoorPvFork
import Derived.Test.YtdglcpepgodcpaaDoorPvReap
import Derived.Test.YtdglcpepgodcpaaDoorProcessManyM
namespace Go.Proofs.YtdglcpepgodcpaaDoor
open Go.RowKit

namespace Ko
def par (L : List Int) : Ko := { Ko.zero with id := 3, kind := 1, state := 1, children := L }
def kid (id : Int) : Ko := { Ko.zero with id := id, kind := 1, state := 1, parent := 3 }
def zed (id st : Int) : Ko := { Ko.zero with id := id, kind := 1, state := 3, parent := 3, status := st }
end Ko
/-- Children of 3, each once. -/
def KidsOk (L : List Int) : Prop := L.length ≤ 32 ∧ (∀ c ∈ L, c ≠ 0 ∧ c ≠ 3) ∧ L.Nodup
theorem pv_noparts (o : Ob) (X : Cont) (h1 : X.code = []) (h2 : X.strs = []) (h3 : o.ppages = 0) (h4 : X.pages = []) (h5 : X.table = []) (h6 : o.pending = 0) (h7 : o.alarm = 0) : o.PvParts X := by
  unfold Ob.PvParts
  rw [h1, h2, h3, h4, h5, h6, h7]
  decide
theorem par_counts (L : List Int) : (Ko.par L).ob.Counts ∧ (Ko.par L).ob.Listless := ⟨by unfold Ob.Counts; exact ⟨rfl, rfl, rfl, rfl, rfl, rfl, rfl⟩, by unfold Ob.Listless Ob.Contents; exact ⟨rfl, rfl, rfl, rfl, rfl, rfl⟩⟩
theorem kid_counts (id : Int) : (Ko.kid id).ob.Counts ∧ (Ko.kid id).ob.Listless := ⟨by unfold Ob.Counts; exact ⟨rfl, rfl, rfl, rfl, rfl, rfl, rfl⟩, by unfold Ob.Listless Ob.Contents; exact ⟨rfl, rfl, rfl, rfl, rfl, rfl⟩⟩
theorem zed_counts (id st : Int) : (Ko.zed id st).ob.Counts ∧ (Ko.zed id st).ob.Listless := ⟨by unfold Ob.Counts; exact ⟨rfl, rfl, rfl, rfl, rfl, rfl, rfl⟩, by unfold Ob.Listless Ob.Contents; exact ⟨rfl, rfl, rfl, rfl, rfl, rfl⟩⟩
theorem proc_par (L : List Int) : (Ko.par L).Proc ↔ KidsOk L := by
  have e : (Ko.par L).cont.children.take (Ko.par L).ob.children.n = L := List.take_of_length_le (Nat.le_refl _)
  unfold Ko.Proc
  rw [pv_proc_iff]
  unfold KidsTo KidsOk
  rw [e]
  constructor
  · rintro ⟨_, _, _, _, _, ⟨h1, h2, h3⟩, _⟩
    exact ⟨h1, h2, h3⟩
  · rintro ⟨h1, h2, h3⟩
    exact ⟨rfl, show (3 : Int) ≠ 0 by decide, (par_counts L).1, (par_counts L).2, show (0 : Int) ≠ 3 by decide, ⟨h1, h2, h3⟩, pv_noparts _ _ rfl rfl rfl rfl rfl rfl rfl, .inl ⟨rfl, rfl⟩⟩
theorem kidsTo_nil (id : Int) (n : Nat) : KidsTo id [] n := ⟨by simp, by simp⟩
theorem proc_kid {id : Int} (h0 : id ≠ 0) (h3 : id ≠ 3) : (Ko.kid id).Proc := by
  unfold Ko.Proc
  rw [pv_proc_iff]
  exact ⟨rfl, h0, (kid_counts id).1, (kid_counts id).2, fun h => h3 (show id = 3 from h.symm), ⟨Nat.zero_le _, kidsTo_nil _ _⟩, pv_noparts _ _ rfl rfl rfl rfl rfl rfl rfl, .inl ⟨rfl, rfl⟩⟩
theorem proc_zed {id st : Int} (h0 : id ≠ 0) (h3 : id ≠ 3) : (Ko.zed id st).Proc := by
  unfold Ko.Proc
  rw [pv_proc_iff]
  refine ⟨rfl, h0, (zed_counts id st).1, (zed_counts id st).2, fun h => h3 (show id = 3 from h.symm), ⟨Nat.zero_le _, kidsTo_nil _ _⟩, pv_noparts _ _ rfl rfl rfl rfl rfl rfl rfl, .inr (.inr ⟨rfl, show (3 : Int) ≠ 0 by decide, ?_⟩)⟩
  show Ob.Clear _
  simp [Ob.Clear, Ob.Bare, Ob.Counts, Ob.Contents, Ob.NoProc, Ob.NoProg, Ob.rest, Ob.only, Ko.ob, Ko.zed, Ko.zero, Ko.of, Ob.zero, Cont.none, Ob.cpu, Ob.noCpu]
theorem ko_fit {k : Ko} (h1 : k.children.length ≤ 100000) (h2 : k.code = []) (h3 : k.strs = []) (h4 : k.pages = []) (h5 : k.table = []) (h6 : k.pending = 0) : k.Fit :=
  ⟨⟨h1, by simp [Ko.cont, h2], by simp [Ko.cont, h3], by simp [Ko.cont, h4], by simp [Ko.cont, h5]⟩, by simp [h3], by rw [h6]; decide⟩
theorem fit_par {L : List Int} (h : L.length ≤ 32) : (Ko.par L).Fit := ko_fit (by show L.length ≤ _; omega) rfl rfl rfl rfl rfl
theorem fit_kid (id : Int) : (Ko.kid id).Fit := ko_fit (Nat.zero_le _) rfl rfl rfl rfl rfl
theorem fit_zed (id st : Int) : (Ko.zed id st).Fit := ko_fit (Nat.zero_le _) rfl rfl rfl rfl rfl
theorem kNew_par : kNew 3 [] [] 0 [] = (Ko.par [], 0) := by
  have hp : (Ko.newp 3 [] [] 0 []).Proc := (proc_par []).2 ⟨by decide, by simp, by simp⟩
  unfold kNew
  rw [if_neg (by decide), if_neg (by decide), if_pos hp]
  rfl
theorem chk_par {L : List Int} (h : KidsOk L) (hl : L.length < 32) {id : Int} (h0 : id ≠ 0) (h3 : id ≠ 3) (hn : id ∉ L) : kForkChk (Ko.par L) id = 0 := by
  unfold kForkChk
  rw [if_neg (fun hh => hh ((proc_par L).2 h)), if_neg (fun hh => hh rfl), if_neg (show ¬ 32 ≤ (Ko.par L).children.length from fun hh => by have : 32 ≤ L.length := hh; omega), if_pos ⟨h0, h3, hn⟩]
theorem kFork_par {L : List Int} (h : KidsOk L) (hl : L.length < 32) {id : Int} (h0 : id ≠ 0) (h3 : id ≠ 3) (hn : id ∉ L) : kFork (Ko.par L) id [] = (Ko.par (L ++ [id]), Ko.kid id, 0) := by
  have hr : Sp.replace [] [] = ([], 0) := by decide
  have he : kForkErr (Ko.par L) id [] = 0 := by
    unfold kForkErr
    rw [if_neg (by rw [chk_par h hl h0 h3 hn]; simp)]
    show (Sp.replace [] []).2 = 0
    rw [hr]
  rw [kFork_ok he]
  unfold Ko.parentOf Ko.childOf
  rw [show Sp.replace (Ko.par L).pages [] = ([], 0) from hr]
  rfl
theorem kFork_full {L : List Int} (h : KidsOk L) (hl : L.length = 32) (id : Int) : kFork (Ko.par L) id [] = (Ko.zero, Ko.zero, 3) := by
  have hc : kForkChk (Ko.par L) id = 3 := by
    unfold kForkChk
    rw [if_neg (fun hh => hh ((proc_par L).2 h)), if_neg (fun hh => hh rfl), if_pos (show 32 ≤ (Ko.par L).children.length from Nat.le_of_eq hl.symm)]
  exact kFork_err (by unfold kForkErr; rw [if_pos (by rw [hc]; decide), hc]) (by decide)
theorem kEnd_kid {id : Int} (st : Int) (h0 : id ≠ 0) (h3 : id ≠ 3) : kEnd (Ko.kid id) st = (Ko.zed id st, false, 0) := by
  unfold kEnd
  rw [if_neg (fun hh => hh (proc_kid h0 h3)), if_neg (show ¬ (Ko.kid id).state = 3 from fun hh => absurd (show (1 : Int) = 3 from hh) (by decide)), if_neg (show ¬ (Ko.kid id).parent = 0 from fun hh => absurd (show (3 : Int) = 0 from hh) (by decide))]
  rfl
theorem kEnd_par (st : Int) : kEnd (Ko.par []) st = (Ko.zero, true, 0) := by
  unfold kEnd
  rw [if_neg (fun hh => hh ((proc_par []).2 ⟨by decide, by simp, by simp⟩)), if_neg (show ¬ (Ko.par []).state = 3 from fun hh => absurd (show (1 : Int) = 3 from hh) (by decide)), if_pos (show (Ko.par []).parent = 0 from rfl)]
theorem kReap_par {L : List Int} (h : KidsOk L) {id : Int} (st : Int) (hm : id ∈ L) : kReap (Ko.par L) (Ko.zed id st) = (Ko.par (L.filter fun c => c != id), st, 0) := by
  have h03 := h.2.1 id hm
  unfold kReap
  rw [if_neg (fun hh => hh ⟨(proc_par L).2 h, proc_zed h03.1 h03.2⟩), if_neg (fun hh => hh.elim (fun hh => hh hm) fun hh => hh rfl), if_neg (fun hh => hh rfl)]
  rfl
theorem KidsOk.filter {L : List Int} (h : KidsOk L) (p : Int → Bool) : KidsOk (L.filter p) :=
  ⟨Nat.le_trans (List.length_filter_le _ _) h.1, fun c hc => h.2.1 c (List.mem_filter.1 hc).1, h.2.2.filter _⟩
theorem KidsOk.snoc {L : List Int} (h : KidsOk L) (hl : L.length < 32) {id : Int} (h0 : id ≠ 0) (h3 : id ≠ 3) (hn : id ∉ L) : KidsOk (L ++ [id]) := by
  refine ⟨by simp; omega, fun c hc => ?_, ?_⟩
  · rcases List.mem_append.1 hc with hc | hc
    · exact h.2.1 c hc
    · simp only [List.mem_singleton] at hc; subst hc; exact ⟨h0, h3⟩
  · rw [List.nodup_append]
    refine ⟨h.2.2, by simp, fun a ha b hb => ?_⟩
    simp only [List.mem_singleton] at hb
    rintro rfl
    exact hn (hb ▸ ha)
/-- No list of what no process uses. -/
def Ob.Bald6 (o : Ob) : Prop := o.words.n = 0 ∧ o.data.n = 0 ∧ o.backlog.n = 0 ∧ o.q0.n = 0 ∧ o.q1.n = 0 ∧ o.names.n = 0
/-- The parent in memory, its list of children the call's own. -/
structure ParAt (w : World) (lo : Nat) (o : Ob) (L : List Int) : Prop where
  own : L = [] ∨ w.ownsRow lo 24 1 (.slice o.children.A o.children.n o.children.c) o.children.n (nv .u64 L)
  len : o.children.n = L.length
  eq : Ko.of o (Ko.par L).cont = Ko.par L
  caps : o.Caps
  bald : o.Bald6
  bare : o.code.n = 0 ∧ o.strs.n = 0 ∧ o.pages.n = 0 ∧ o.table.n = 0
theorem ents_none {w : World} {B n : Nat} {A : Option Addr} (h : n = 0) : ∃ l, Ents w B A n l [] := by
  subst h
  exact ⟨[], Ents.nil⟩
theorem IsKo.bald6 {w : World} {B : Nat} {o : Ob} {k : Ko} (h : IsKo w B o k) (h1 : k.words = []) (h2 : k.data = []) (h3 : k.backlog = []) (h4 : k.q0 = []) (h5 : k.q1 = []) (h6 : k.names = []) : o.Bald6 := by
  have e1 := h.held.words.len
  have e2 := h.held.data.len
  have e3 := h.held.backlog.len
  have e4 := h.held.q0.len
  have e5 := h.held.q1.len
  obtain ⟨l, e6⟩ := h.held.names
  have e6 := e6.len
  simp only [Ko.cont, h1, h2, h3, h4, h5, h6, List.length_nil] at e1 e2 e3 e4 e5 e6
  exact ⟨e1.symm, e2.symm, e3.symm, e4.symm, e5.symm, e6.symm⟩
theorem IsKo.bare4 {w : World} {B : Nat} {o : Ob} {k : Ko} (h : IsKo w B o k) (h1 : k.code = []) (h2 : k.strs = []) (h3 : k.pages = []) (h4 : k.table = []) : o.code.n = 0 ∧ o.strs.n = 0 ∧ o.pages.n = 0 ∧ o.table.n = 0 := by
  have e1 := h.held.code.len
  have e2 := h.held.strs.len
  have e3 := h.held.pages.len
  have e4 := h.held.table.len
  simp only [Ko.cont, h1, h2, h3, h4, List.length_nil] at e1 e2 e3 e4
  exact ⟨e1.symm, e2.symm, e3.symm, e4.symm⟩
theorem ParAt.mk' {w : World} {lo : Nat} {o : Ob} {L : List Int} (h : IsKo w w.heap.size o (Ko.par L)) (ho : L = [] ∨ Owns w lo o (Ko.par L).cont) : ParAt w lo o L := ⟨ho.imp id fun h => h.children, h.held.children.len.symm, h.eq, h.caps, h.bald6 rfl rfl rfl rfl rfl rfl, h.bare4 rfl rfl rfl rfl⟩
theorem Holds.of6 {w : World} {B : Nat} {o : Ob} {X : Cont} (h : HoldsP w B o X) (hb : o.Bald6) (h1 : X.words = []) (h2 : X.data = []) (h3 : X.backlog = []) (h4 : X.q0 = []) (h5 : X.q1 = []) (h6 : X.names = []) : Holds w B o X := by
  obtain ⟨b1, b2, b3, b4, b5, b6⟩ := hb
  refine ⟨h.children, h.code, h.strs, h.pages, h.table, ?_, ?_, ?_, ?_, ?_, ?_⟩
  · rw [h1, b1]; exact Nums.nil
  · rw [h2, b2]; exact Bytes.nil
  · rw [h3, b3]; exact Nums.nil
  · rw [h4, b4]; exact Bytes.nil
  · rw [h5, b5]; exact Bytes.nil
  · rw [h6]; exact ents_none b6
section
variable {w w' : World} {lo : Nat} {o : Ob} {L : List Int}
theorem ParAt.isKo (h : ParAt w lo o L) : IsKo w w.heap.size o (Ko.par L) := by
  obtain ⟨b1, b2, b3, b4⟩ := h.bare
  refine ⟨Holds.of6 ⟨?_, ?_, ?_, ?_, ?_⟩ h.bald rfl rfl rfl rfl rfl rfl, h.eq, h.caps⟩
  · rcases h.own with h0 | h0
    · subst h0; rw [h.len]; exact Nums.nil
    · exact Nums.of_own h0
  · rw [b1]; exact Inss.nil
  · rw [b2]; exact Strs.nil
  · rw [b3]; exact Refs.nil
  · rw [b4]; exact Slots.nil
theorem ParAt.later (h : ParAt w lo o L) (hb : Below w.heap.size w w') : ParAt w' lo o L := { h with own := h.own.imp id fun h => own_later h hb }
theorem ParAt.weaken (h : ParAt w lo o L) {lo' : Nat} (hl : lo' ≤ lo) : ParAt w lo' o L := { h with own := h.own.imp id fun h => own_weaken h hl }
theorem ParAt.row {z : Nat} {cs cs' : Array Value} (h : ParAt w lo o L) (O : Obl w z 42 cs) : ParAt (w.setRow z cs') lo o L := { h with own := h.own.imp id fun h => own_apart_obl h O (by decide) rfl }
theorem ParAt.grown {n c : Nat} {A : Option Addr} {xs : List Value} (h : ParAt w lo o L) (hr : w.ownsRow lo 42 36 (.slice A n c) n xs) (hg : w.grownBy w' (blk A)) : ParAt w' lo o L := { h with own := h.own.imp id fun h => own_grown h hr hg (by decide) }
end
/-- What is left of a child: nothing of it lies anywhere. -/
structure ZedIs (o : Ob) (id st : Int) : Prop where
  eq : Ko.of o (Ko.zed id st).cont = Ko.zed id st
  caps : o.Caps
  bald : o.Bald6
  bare : o.children.n = 0 ∧ o.code.n = 0 ∧ o.strs.n = 0 ∧ o.pages.n = 0 ∧ o.table.n = 0
theorem ZedIs.mk' {w : World} {B : Nat} {o : Ob} {id st : Int} (h : IsKo w B o (Ko.zed id st)) : ZedIs o id st := by
  refine ⟨h.eq, h.caps, h.bald6 rfl rfl rfl rfl rfl rfl, ?_⟩
  have e1 := h.held.children.len
  have e2 := h.held.code.len
  have e3 := h.held.strs.len
  have e4 := h.held.pages.len
  have e5 := h.held.table.len
  exact ⟨e1.symm, e2.symm, e3.symm, e4.symm, e5.symm⟩
theorem ZedIs.isKo {o : Ob} {id st : Int} (h : ZedIs o id st) (w : World) (B : Nat) : IsKo w B o (Ko.zed id st) := by
  obtain ⟨b1, b2, b3, b4, b5⟩ := h.bare
  refine ⟨Holds.of6 ⟨?_, ?_, ?_, ?_, ?_⟩ h.bald rfl rfl rfl rfl rfl rfl, h.eq, h.caps⟩
  · rw [b1]; exact Nums.nil
  · rw [b2]; exact Inss.nil
  · rw [b3]; exact Strs.nil
  · rw [b4]; exact Refs.nil
  · rw [b5]; exact Slots.nil
theorem ZedIs.id {o : Ob} {id st : Int} (h : ZedIs o id st) : o.id = id := by have := congrArg Ko.id h.eq; exact this
/-- What the calls give for these. -/
def NewGives (w : World) (e : Ending) (w' : World) : Prop := ∃ a, e = .returned (.tuple #[.agg (oc a), .int .i64 0]) ∧ ParAt w' w.heap.size a [] ∧ Below w.heap.size w w'
def ForkGives (L : List Int) (id : Int) (w : World) (e : Ending) (w' : World) : Prop := ∃ a b, e = .returned (.tuple #[.agg (oc a), .agg (oc b), .int .i64 0]) ∧ ParAt w' w.heap.size a (L ++ [id]) ∧ IsKo w' w'.heap.size b (Ko.kid id) ∧ Below w.heap.size w w'
def EndGives (id st : Int) (w : World) (e : Ending) (w' : World) : Prop := ∃ a, e = .returned (.tuple #[.agg (oc a), .bool false, .int .i64 0]) ∧ ZedIs a id st ∧ Below w.heap.size w w'
def ReapGives (L : List Int) (id st : Int) (w : World) (e : Ending) (w' : World) : Prop := ∃ a, e = .returned (.tuple #[.agg (oc a), .int .i64 st, .int .i64 0]) ∧ ParAt w' w.heap.size a (L.filter fun c => c != id) ∧ Below w.heap.size w w'
section
variable {L : List Int} {o b : Ob} {id st : Int} {lo : Nat}
theorem many_new (W : World) (hL : LaidO W) : Calls Tryd.prog 5 #[.int .u64 3, .agg (prc none 0 0 none 0 0 0), .slice none 0 0] W (NewGives W) := by
  refine (pvNewp_any 3 0 [] [] none none none 0 0 0 0 0 0 [] W Inss.nil Strs.nil Nums.nil (by decide) (by decide) (by simp) hL).mono ?_
  rintro e w' ⟨a, rfl, hk, hb⟩
  rw [kNew_par] at hk ⊢
  exact ⟨a, rfl, ParAt.mk' hk (.inl rfl), hb⟩
theorem many_fork (W : World) (h : ParAt W lo o L) (hk : KidsOk L) (hl : L.length < 32) (h0 : id ≠ 0) (h3 : id ≠ 3) (hn : id ∉ L) (hL : LaidO W) : Calls Tryd.prog 6 #[.agg (oc o), .int .u64 id, .slice none 0 0] W (ForkGives L id W) := by
  refine (pvFork_any id none 0 0 [] W h.isKo (fit_par hk.1) Nums.nil (by decide) hL).mono ?_
  rintro e w' ⟨a, b, rfl, ha, hb, hbel, ho⟩
  rw [kFork_par hk hl h0 h3 hn] at ha hb ho ⊢
  exact ⟨a, b, rfl, ParAt.mk' ha (.inr ho), hb, hbel⟩
theorem many_full (W : World) (h : ParAt W lo o L) (hk : KidsOk L) (hl : L.length = 32) (hL : LaidO W) : Calls Tryd.prog 6 #[.agg (oc o), .int .u64 id, .slice none 0 0] W (fun e w' => ∃ a b, e = .returned (.tuple #[.agg (oc a), .agg (oc b), .int .i64 3]) ∧ Below W.heap.size W w') := by
  refine (pvFork_any id none 0 0 [] W h.isKo (fit_par hk.1) Nums.nil (by decide) hL).mono ?_
  rintro e w' ⟨a, b, rfl, _, _, hbel, _⟩
  rw [kFork_full hk hl]
  exact ⟨a, b, rfl, hbel⟩
theorem many_end (W : World) (st : Int) (h : IsKo W W.heap.size b (Ko.kid id)) (h0 : id ≠ 0) (h3 : id ≠ 3) (hL : LaidO W) : Calls Tryd.prog 7 #[.agg (oc b), .int .i64 st] W (EndGives id st W) := by
  refine (pvEnd_any st W h (fit_kid id) hL).mono ?_
  rintro e w' ⟨a, rfl, ha, hbel⟩
  rw [kEnd_kid st h0 h3] at ha ⊢
  exact ⟨a, rfl, ZedIs.mk' ha, hbel⟩
theorem many_gone (W : World) (st : Int) (h : ParAt W lo o []) (hL : LaidO W) : Calls Tryd.prog 7 #[.agg (oc o), .int .i64 st] W (fun e w' => ∃ a, e = .returned (.tuple #[.agg (oc a), .bool true, .int .i64 0]) ∧ Below W.heap.size W w') := by
  refine (pvEnd_any st W h.isKo (fit_par (by decide)) hL).mono ?_
  rintro e w' ⟨a, rfl, ha, hbel⟩
  rw [kEnd_par st]
  exact ⟨a, rfl, hbel⟩
theorem many_reap (W : World) (h : ParAt W lo o L) (hz : ZedIs b id st) (hk : KidsOk L) (hm : id ∈ L) (hL : LaidO W) : Calls Tryd.prog 8 #[.agg (oc o), .agg (oc b)] W (ReapGives L id st W) := by
  refine (pvReap_any W h.isKo (fit_par hk.1) (hz.isKo W _) (fit_zed id st) hL).mono ?_
  rintro e w' ⟨a, rfl, ha, hbel, ho⟩
  rw [kReap_par hk st hm] at ha ho ⊢
  exact ⟨a, rfl, ParAt.mk' ha (.inr ho), hbel⟩
theorem many_valid (W : World) (h : ParAt W lo o L) (hk : KidsOk L) (hL : LaidO W) : Calls Tryd.prog 9 #[.agg (oc o)] W (BoolPost true W) := by
  have hko := h.isKo
  have := pvValid_any o (Ko.par L).cont W hko.held.p (hko.procIn (fit_par hk.1)) hL
  rwa [decide_eq_true (hko.proc_iff.2 ((proc_par L).2 hk))] at this
theorem many_validz (W : World) (hz : ZedIs b id st) (h0 : id ≠ 0) (h3 : id ≠ 3) (hL : LaidO W) : Calls Tryd.prog 9 #[.agg (oc b)] W (BoolPost true W) := by
  have hko := hz.isKo W W.heap.size
  have := pvValid_any b (Ko.zed id st).cont W hko.held.p (hko.procIn (fit_zed id st)) hL
  rwa [decide_eq_true (hko.proc_iff.2 (proc_zed h0 h3))] at this
end
end Go.Proofs.YtdglcpepgodcpaaDoor
