/- Layer 4: which programs are right, their texts, or the error, and which are equal (CodeChecks): the walk. -/
import Derived.Test.YtfjekckcpkkdiaaGreatDoorLawBack
import Derived.Test.YtfjekckcpkkdiaaGreatDoorOwn
import Derived.Test.YtfjekckcpkkdiaaGreatDoorRegion
import Derived.Deep.QuietTactic
import Derived.BigQuiet
namespace Go.Proofs.YtfjekckcpkkdiaaGreatDoor
open Go.RowKit

/-- The lists of a program, where they lie. -/
def Lists (w : World) (A : Option Addr) (n : Nat) (D : Option Addr) (m : Nat) (p : Cd.Pr) : Prop :=
  (Inss w w.heap.size A n p.code ∧ Strs w w.heap.size D m p.strs) ∧ (n ≤ 9223372036854775807 ∧ m ≤ 9223372036854775807)
theorem Lists.below {w w' : World} {A D : Option Addr} {n m : Nat} {p : Cd.Pr} (h : Lists w A n D m p) (hb : Below w.heap.size w w') : Lists w' A n D m p :=
  ⟨⟨(h.1.1.below hb).mono hb.size, (h.1.2.below hb).mono hb.size⟩, h.2⟩
theorem Held.lists {w : World} {g n c m d : Nat} {A D : Option Addr} {p : Cd.Pr} (h : Held w g A n c D m d p) : Lists w A n D m p := h.2
theorem Held.of {w : World} {n c m d : Nat} {A D : Option Addr} {p : Cd.Pr} (h : Lists w A n D m p) : Held (w.alloc (.cells #[.slice A n c, .slice D m d, .int .i64 p.pages] 25)) w.heap.size A n c D m d p :=
  Held.make h.1.1 h.1.2 h.2.1 h.2.2
theorem bel_drewN (w : World) (k : Nat) : Below w.heap.size w (w.drewN k) := ⟨rfl, rfl, rfl, Nat.le_refl _, fun _ _ => rfl⟩
theorem fine_set {p : Cd.Pr} (h : Fine p) (i : Nat) {x : Cd.Ins} (hx : Cd.in64 x) (pg : Int) : Fine ⟨p.code.set i x, p.strs, pg⟩ :=
  ⟨h.1, fun y hy => by
    rcases List.mem_or_eq_of_mem_set hy with hy | rfl
    · exact h.2 y hy
    · exact hx⟩

set_option maxRecDepth 100000 in
set_option maxHeartbeats 4000000 in
theorem codeChecks_any (raw : Cd.Pr) (A0 D0 : Option Addr) (n0 c0 m0 d0 : Nat) (S : Option Addr) (q r x y : Nat) (v : Int) (l : List UInt8) (W : World) (hraw : Lists W A0 n0 D0 m0 raw) (hfine : Fine raw) (h : Bytes W W.heap.size S q l) (hq : q ≤ r ∧ r ≤ 9223372036854775807)
    (_hx : x < 256) (hy : y < 256) (hv1 : -9223372036854775808 ≤ v) (hv2 : v ≤ 9223372036854775807) (hL : Laid W) (hO : LaidO W) :
    Calls Tryz.prog 3 #[.agg #[.slice A0 n0 c0, .slice D0 m0 d0, .int .i64 raw.pages], .slice S q r, .int .u8 (x : Int), .int .u8 (y : Int), .int .i64 v] W fun e w' => e = .returned (.bool true) ∧ Below W.heap.size W w' := by
  have HE := hide ((Env.start hL hO).alloc (.cells #[.slice A0 n0 c0, .slice D0 m0 d0, .int .i64 raw.pages] 25))
  have HS := hide (h.below (bel_alloc W (.cells #[.slice A0 n0 c0, .slice D0 m0 d0, .int .i64 raw.pages] 25)))
  have HR := hide (Held.of (c := c0) (d := d0) hraw)
  have hWs : W.heap.size ≤ (W.alloc (.cells #[.slice A0 n0 c0, .slice D0 m0 d0, .int .i64 raw.pages] 25)).heap.size := (bel_alloc W _).size
  have HF := hide hfine
  clear hL hO h hraw hfine
  go_enter Tryz.func3, Tryz.ntmps3
  go_wp2_with fail
  generalize W.alloc (.cells #[.slice A0 n0 c0, .slice D0 m0 d0, .int .i64 raw.pages] 25) = w0 at *
  generalize hgr : W.heap.size = gr at *
  refine (sane_any _ HE.out.laid HE.out.ops HE.out.tab).mono ?_
  rintro e w1 ⟨rfl, hb⟩
  have HE1 := hide (HE.out.next hb)
  have HS1 := hide (HS.out.belowLe hb hWs)
  have HR1 := hide (HR.out.below hb)
  have hs1 := Nat.le_trans hWs hb.size
  clear hb HE HS HR hWs
  have k0 := HR1.out.c0
  have k1 := HR1.out.c1
  have k2 := HR1.out.c2
  go_wp2_with fail
  refine (short_any raw.strs A0 D0 n0 c0 m0 d0 w1.heap.size raw.pages w1 HR1.out.2.1.2 (Nat.le_refl _) HR1.out.2.2.1 HR1.out.2.2.2 HF.out.1).mono ?_
  rintro e w1' ⟨vv, rfl, hb⟩
  have HE1' := hide (HE1.out.next hb)
  have HS1' := hide (HS1.out.belowLe hb hs1)
  have HR1' := hide (HR1.out.below hb)
  have hs1' := Nat.le_trans hs1 hb.size
  clear hb HE1 HS1 HR1 hs1 k0 k1 k2
  cases vv with
  | false =>
    go_wp2
    go_ret
    exact ⟨rfl, HE1'.out.bel⟩
  | true =>
    go_wp2_with fail
    refine (made_any S q r _ l w1' HS1'.out hs1' hq).mono ?_
    rintro e w3 h
    obtain ⟨A, n, c, D, m, d, p, rfl, hp, hi, hs, hn, hm, hb⟩ := h.got
    have HM := hide hp
    have HE3 := hide (HE1'.out.next hb)
    have HR3 := hide (HR1'.out.below hb)
    have hPl : Lists w3 A n D m p := ⟨⟨hi, hs⟩, by omega, by omega⟩
    have hP := Held.of (c := c) (d := d) hPl
    have hI : Inss ((w3.alloc (.cells #[.slice A n c, .slice D m d, .int .i64 p.pages] 25)).alloc (.cells #[.slice A n c, .slice D m d, .int .i64 p.pages] 25)) w3.heap.size A n p.code := hi.below (((Below.refl _ _).alloc (Nat.le_refl _) _).alloc (by simp) _)
    have hsB : (w3.alloc (.cells #[.slice A n c, .slice D m d, .int .i64 p.pages] 25)).heap.size = w3.heap.size + 1 := by simp
    have hsC : ((w3.alloc (.cells #[.slice A n c, .slice D m d, .int .i64 p.pages] 25)).alloc (.cells #[.slice A n c, .slice D m d, .int .i64 p.pages] 25)).heap.size = w3.heap.size + 2 := by simp
    have hO : Obl ((w3.alloc (.cells #[.slice A n c, .slice D m d, .int .i64 p.pages] 25)).alloc (.cells #[.slice A n c, .slice D m d, .int .i64 p.pages] 25)) (w3.heap.size + 1) 25 #[.slice A n c, .slice D m d, .int .i64 p.pages] := by
      rw [← hsB]
      exact Obl.make _ _ _
    have HEB := hide (HE3.out.alloc (.cells #[.slice A n c, .slice D m d, .int .i64 p.pages] 25))
    have HPB := hide hP
    have HRB := hide (HR3.out.alloc (.cells #[.slice A n c, .slice D m d, .int .i64 p.pages] 25))
    have HJB := hide (hs.below (bel_alloc w3 (.cells #[.slice A n c, .slice D m d, .int .i64 p.pages] 25)))
    have hBC : Below (w3.heap.size + 1) (w3.alloc (.cells #[.slice A n c, .slice D m d, .int .i64 p.pages] 25)) ((w3.alloc (.cells #[.slice A n c, .slice D m d, .int .i64 p.pages] 25)).alloc (.cells #[.slice A n c, .slice D m d, .int .i64 p.pages] 25)) := by
      rw [← hsB]
      exact bel_alloc _ _
    have HBC := hide hBC
    clear hb hi hs HE1' HS1' HR1' h hp hPl hP HE3 HR3 hs1' hBC
    go_upto_if 39 with (at_builtin; refine wpList_append_rd rfl (.const (.slice none 0 0)) (.tmp 33) _ rfl insTy (A := none) (n := 0) (c := 0) (xs := []) rfl (World.ownsRow_nil _ (w3.heap.size + 2) _ _) rfl hI.row (iv_one p.code) (by unfold maxLen; omega) (by omega) (by rw [hsC]; exact Nat.le_refl _) ?_; intro A9 c9 w4 hown9 hgrow9 hat9; rw [List.nil_append, Nat.zero_add] at hown9; rw [Nat.zero_add]; have h4 := hO.grown hgrow9 (by simp [blk]); have q0 := h4.cell 0; have z0 := h4.free 0; simp at q0)
    have hne9 : (Value.slice A9 n c9).ownBlock ≠ some (w3.heap.size + 1) := by
      rw [ownBlock_slice]
      intro he
      have := (hown9.lt (w3.heap.size + 1) (by rw [ownBlock_slice]; exact he)).1
      omega
    have h5 := h4.put 0 (.slice A9 n c9)
    have hown5 := ownsRow_setCell_other (a := ⟨w3.heap.size + 1, 0, none⟩) hown9 hne9 (.slice A9 n c9)
    have HB5 := hide ((HBC.out.grown hgrow9 (by rw [hsC]; omega) (fun k hk => by cases hk)).setCell (p := ⟨w3.heap.size + 1, 0, none⟩) (Nat.le_refl _) (.slice A9 n c9))
    generalize w4.setCell ⟨w3.heap.size + 1, 0, none⟩ (.slice A9 n c9) = w5 at *
    clear h4 hown9 hgrow9 hat9 q0 z0 hO hI HBC hsC hne9 w4
    generalize w3.alloc (.cells #[.slice A n c, .slice D m d, .int .i64 p.pages] 25) = wb at *
    go_cut [13] from 40 to 76 (fun s13 wx => ∃ (v13 : Value) (qp : Cd.Pr), s13 = v13 ∧ Hid (Held wx (w3.heap.size + 1) A9 n c9 D m d qp) ∧ Hid (Fine qp) ∧ Hid (Env W wx) ∧ Hid (Held wx w3.heap.size A n c D m d p) ∧ Hid (Held wx gr A0 n0 c0 D0 m0 d0 raw))
    case first =>
      have hcl : p.code.length = n := own_inss hown5
      by_cases hn0 : 0 < n
      · have hn0' : (0 : Int) < (n : Int) := by omega
        have hd0 : decide (0 < n) = true := by simpa using hn0
        obtain ⟨g9, rfl, hg9, hg9l⟩ := own_addr hown5 hn0
        have q0 := h5.cell 0
        simp at q0
        obtain ⟨i, hi, hin⟩ : ∃ i : Nat, (x : Int) % (n : Int) = (i : Int) ∧ i < n := ⟨x % n, by omega, Nat.mod_lt _ hn0⟩
        have hin' : (i : Int) < (n : Int) := by omega
        have hnz : ¬ (n : Int) = 0 := by omega
        have hil : i < p.code.length := by omega
        obtain ⟨e0, e1, e2, e3⟩ := iv_at hil
        have j0 := own_cell hown5 e0
        have j1 := own_cell hown5 e1
        have j2 := own_cell hown5 e2
        have j3 := own_cell hown5 e3
        have h64 := HM.out.fine.2 _ (List.getElem_mem hil)
        clear e0 e1 e2 e3
        rcases (show (y : Int) % 5 = 0 ∨ (y : Int) % 5 = 1 ∨ (y : Int) % 5 = 2 ∨ (y : Int) % 5 = 3 ∨ (y : Int) % 5 = 4 by omega) with hz | hz | hz | hz | hz
        · have hset := (iv_set p.code i hil v).1
          have hownS := own_set hown5 (i := i * 4) (.int .i64 v)
          rw [hset] at hownS
          have z1 := own_free hown5 (i * 4)
          have HFS := hide (fine_set HM.out.fine i (x := ⟨v, p.code[i].a, p.code[i].b, p.code[i].c⟩) (by unfold Cd.in64 at h64 ⊢; simp only; omega) p.pages)
          have hneO : w3.heap.size + 1 ≠ g9 := by omega
          have hXS := h5.put_other hneO (i * 4) (.int .i64 v)
          have hBS := HB5.out.setCell (p := ⟨g9, i * 4, none⟩) (show w3.heap.size + 1 ≤ g9 by omega) (.int .i64 v)
          have HT : Hid (Held (w5.setCell ⟨g9, i * 4, none⟩ (.int .i64 v)) (w3.heap.size + 1) (some ⟨g9, 0, none⟩) n c9 D m d ⟨p.code.set i ⟨v, p.code[i].a, p.code[i].b, p.code[i].c⟩, p.strs, p.pages⟩ ∧ Env W (w5.setCell ⟨g9, i * 4, none⟩ (.int .i64 v)) ∧ Held (w5.setCell ⟨g9, i * 4, none⟩ (.int .i64 v)) w3.heap.size A n c D m d p ∧ Held (w5.setCell ⟨g9, i * 4, none⟩ (.int .i64 v)) gr A0 n0 c0 D0 m0 d0 raw) :=
            hide ⟨⟨hXS, ⟨Inss.of_own hownS, (HJB.out.below (hBS.mono (by omega))).mono (by have := hBS.size; omega)⟩, by omega, by omega⟩, HEB.out.next (by rw [hsB]; exact hBS), HPB.out.below (by rw [hsB]; exact hBS), HRB.out.below (by rw [hsB]; exact hBS)⟩
          clear hset hownS hXS hBS h5
          go_upto_region 9 with fail
          go_quiet (fail)
          go_wp2_with fail
          go_meet
          case rel =>
            obtain ⟨t1, t2, t3, t4⟩ := HT.out
            have hw : (w5.drewN nq).setCell ⟨g9, i * 4, none⟩ (.int .i64 v) = (w5.setCell ⟨g9, i * 4, none⟩ (.int .i64 v)).drewN nq := rfl
            rw [hw]
            exact ⟨_, _, rfl, hide (t1.below (bel_drewN _ nq)), HFS, hide (t2.next (bel_drewN _ nq)), hide (t3.below (bel_drewN _ nq)), hide (t4.below (bel_drewN _ nq))⟩
        · have hset := (iv_set p.code i hil v).2.1
          have hownS := own_set hown5 (i := i * 4 + 1) (.int .i64 v)
          rw [hset] at hownS
          have z1 := own_free hown5 (i * 4 + 1)
          have HFS := hide (fine_set HM.out.fine i (x := ⟨p.code[i].op, v, p.code[i].b, p.code[i].c⟩) (by unfold Cd.in64 at h64 ⊢; simp only; omega) p.pages)
          have hneO : w3.heap.size + 1 ≠ g9 := by omega
          have hXS := h5.put_other hneO (i * 4 + 1) (.int .i64 v)
          have hBS := HB5.out.setCell (p := ⟨g9, i * 4 + 1, none⟩) (show w3.heap.size + 1 ≤ g9 by omega) (.int .i64 v)
          have HT : Hid (Held (w5.setCell ⟨g9, i * 4 + 1, none⟩ (.int .i64 v)) (w3.heap.size + 1) (some ⟨g9, 0, none⟩) n c9 D m d ⟨p.code.set i ⟨p.code[i].op, v, p.code[i].b, p.code[i].c⟩, p.strs, p.pages⟩ ∧ Env W (w5.setCell ⟨g9, i * 4 + 1, none⟩ (.int .i64 v)) ∧ Held (w5.setCell ⟨g9, i * 4 + 1, none⟩ (.int .i64 v)) w3.heap.size A n c D m d p ∧ Held (w5.setCell ⟨g9, i * 4 + 1, none⟩ (.int .i64 v)) gr A0 n0 c0 D0 m0 d0 raw) :=
            hide ⟨⟨hXS, ⟨Inss.of_own hownS, (HJB.out.below (hBS.mono (by omega))).mono (by have := hBS.size; omega)⟩, by omega, by omega⟩, HEB.out.next (by rw [hsB]; exact hBS), HPB.out.below (by rw [hsB]; exact hBS), HRB.out.below (by rw [hsB]; exact hBS)⟩
          clear hset hownS hXS hBS h5
          go_upto_region 9 with fail
          go_quiet (fail)
          go_wp2_with fail
          go_meet
          case rel =>
            obtain ⟨t1, t2, t3, t4⟩ := HT.out
            have hw : (w5.drewN nq).setCell ⟨g9, i * 4 + 1, none⟩ (.int .i64 v) = (w5.setCell ⟨g9, i * 4 + 1, none⟩ (.int .i64 v)).drewN nq := rfl
            rw [hw]
            exact ⟨_, _, rfl, hide (t1.below (bel_drewN _ nq)), HFS, hide (t2.next (bel_drewN _ nq)), hide (t3.below (bel_drewN _ nq)), hide (t4.below (bel_drewN _ nq))⟩
        · have hset := (iv_set p.code i hil v).2.2.1
          have hownS := own_set hown5 (i := i * 4 + 2) (.int .i64 v)
          rw [hset] at hownS
          have z1 := own_free hown5 (i * 4 + 2)
          have HFS := hide (fine_set HM.out.fine i (x := ⟨p.code[i].op, p.code[i].a, v, p.code[i].c⟩) (by unfold Cd.in64 at h64 ⊢; simp only; omega) p.pages)
          have hneO : w3.heap.size + 1 ≠ g9 := by omega
          have hXS := h5.put_other hneO (i * 4 + 2) (.int .i64 v)
          have hBS := HB5.out.setCell (p := ⟨g9, i * 4 + 2, none⟩) (show w3.heap.size + 1 ≤ g9 by omega) (.int .i64 v)
          have HT : Hid (Held (w5.setCell ⟨g9, i * 4 + 2, none⟩ (.int .i64 v)) (w3.heap.size + 1) (some ⟨g9, 0, none⟩) n c9 D m d ⟨p.code.set i ⟨p.code[i].op, p.code[i].a, v, p.code[i].c⟩, p.strs, p.pages⟩ ∧ Env W (w5.setCell ⟨g9, i * 4 + 2, none⟩ (.int .i64 v)) ∧ Held (w5.setCell ⟨g9, i * 4 + 2, none⟩ (.int .i64 v)) w3.heap.size A n c D m d p ∧ Held (w5.setCell ⟨g9, i * 4 + 2, none⟩ (.int .i64 v)) gr A0 n0 c0 D0 m0 d0 raw) :=
            hide ⟨⟨hXS, ⟨Inss.of_own hownS, (HJB.out.below (hBS.mono (by omega))).mono (by have := hBS.size; omega)⟩, by omega, by omega⟩, HEB.out.next (by rw [hsB]; exact hBS), HPB.out.below (by rw [hsB]; exact hBS), HRB.out.below (by rw [hsB]; exact hBS)⟩
          clear hset hownS hXS hBS h5
          go_upto_region 9 with fail
          go_quiet (fail)
          go_wp2_with fail
          go_meet
          case rel =>
            obtain ⟨t1, t2, t3, t4⟩ := HT.out
            have hw : (w5.drewN nq).setCell ⟨g9, i * 4 + 2, none⟩ (.int .i64 v) = (w5.setCell ⟨g9, i * 4 + 2, none⟩ (.int .i64 v)).drewN nq := rfl
            rw [hw]
            exact ⟨_, _, rfl, hide (t1.below (bel_drewN _ nq)), HFS, hide (t2.next (bel_drewN _ nq)), hide (t3.below (bel_drewN _ nq)), hide (t4.below (bel_drewN _ nq))⟩
        · have hset := (iv_set p.code i hil v).2.2.2
          have hownS := own_set hown5 (i := i * 4 + 3) (.int .i64 v)
          rw [hset] at hownS
          have z1 := own_free hown5 (i * 4 + 3)
          have HFS := hide (fine_set HM.out.fine i (x := ⟨p.code[i].op, p.code[i].a, p.code[i].b, v⟩) (by unfold Cd.in64 at h64 ⊢; simp only; omega) p.pages)
          have hneO : w3.heap.size + 1 ≠ g9 := by omega
          have hXS := h5.put_other hneO (i * 4 + 3) (.int .i64 v)
          have hBS := HB5.out.setCell (p := ⟨g9, i * 4 + 3, none⟩) (show w3.heap.size + 1 ≤ g9 by omega) (.int .i64 v)
          have HT : Hid (Held (w5.setCell ⟨g9, i * 4 + 3, none⟩ (.int .i64 v)) (w3.heap.size + 1) (some ⟨g9, 0, none⟩) n c9 D m d ⟨p.code.set i ⟨p.code[i].op, p.code[i].a, p.code[i].b, v⟩, p.strs, p.pages⟩ ∧ Env W (w5.setCell ⟨g9, i * 4 + 3, none⟩ (.int .i64 v)) ∧ Held (w5.setCell ⟨g9, i * 4 + 3, none⟩ (.int .i64 v)) w3.heap.size A n c D m d p ∧ Held (w5.setCell ⟨g9, i * 4 + 3, none⟩ (.int .i64 v)) gr A0 n0 c0 D0 m0 d0 raw) :=
            hide ⟨⟨hXS, ⟨Inss.of_own hownS, (HJB.out.below (hBS.mono (by omega))).mono (by have := hBS.size; omega)⟩, by omega, by omega⟩, HEB.out.next (by rw [hsB]; exact hBS), HPB.out.below (by rw [hsB]; exact hBS), HRB.out.below (by rw [hsB]; exact hBS)⟩
          clear hset hownS hXS hBS h5
          go_upto_region 9 with fail
          go_quiet (fail)
          go_wp2_with fail
          go_meet
          case rel =>
            obtain ⟨t1, t2, t3, t4⟩ := HT.out
            have hw : (w5.drewN nq).setCell ⟨g9, i * 4 + 3, none⟩ (.int .i64 v) = (w5.setCell ⟨g9, i * 4 + 3, none⟩ (.int .i64 v)).drewN nq := rfl
            rw [hw]
            exact ⟨_, _, rfl, hide (t1.below (bel_drewN _ nq)), HFS, hide (t2.next (bel_drewN _ nq)), hide (t3.below (bel_drewN _ nq)), hide (t4.below (bel_drewN _ nq))⟩
        · have y2 := h5.cell 2
          have z1 := h5.free 2
          simp at y2
          have hXS := h5.put 2 (.int .i64 v)
          have hneQ : (Value.slice (some ⟨g9, 0, none⟩) n c9).ownBlock ≠ some (w3.heap.size + 1) := by
            rw [ownBlock_slice]
            simp only [blk, Option.map_some, ne_eq, Option.some.injEq]
            omega
          have hownS := ownsRow_setCell_other (a := ⟨w3.heap.size + 1, 2, none⟩) hown5 hneQ (.int .i64 v)
          have hBS := HB5.out.setCell (p := ⟨w3.heap.size + 1, 2, none⟩) (Nat.le_refl _) (.int .i64 v)
          have HFS : Hid (Fine ⟨p.code, p.strs, v⟩) := hide HM.out.fine
          have HT : Hid (Held (w5.setCell ⟨w3.heap.size + 1, 2, none⟩ (.int .i64 v)) (w3.heap.size + 1) (some ⟨g9, 0, none⟩) n c9 D m d ⟨p.code, p.strs, v⟩ ∧ Env W (w5.setCell ⟨w3.heap.size + 1, 2, none⟩ (.int .i64 v)) ∧ Held (w5.setCell ⟨w3.heap.size + 1, 2, none⟩ (.int .i64 v)) w3.heap.size A n c D m d p ∧ Held (w5.setCell ⟨w3.heap.size + 1, 2, none⟩ (.int .i64 v)) gr A0 n0 c0 D0 m0 d0 raw) :=
            hide ⟨⟨hXS, ⟨Inss.of_own hownS, (HJB.out.below (hBS.mono (by omega))).mono (by have := hBS.size; omega)⟩, by omega, by omega⟩, HEB.out.next (by rw [hsB]; exact hBS), HPB.out.below (by rw [hsB]; exact hBS), HRB.out.below (by rw [hsB]; exact hBS)⟩
          clear hownS hXS hBS h5
          go_upto_region 9 with fail
          go_quiet (fail)
          go_wp2_with fail
          go_meet
          case rel =>
            obtain ⟨t1, t2, t3, t4⟩ := HT.out
            have hw : (w5.drewN nq).setCell ⟨w3.heap.size + 1, 2, none⟩ (.int .i64 v) = (w5.setCell ⟨w3.heap.size + 1, 2, none⟩ (.int .i64 v)).drewN nq := rfl
            rw [hw]
            exact ⟨_, _, rfl, hide (t1.below (bel_drewN _ nq)), HFS, hide (t2.next (bel_drewN _ nq)), hide (t3.below (bel_drewN _ nq)), hide (t4.below (bel_drewN _ nq))⟩
      · have hd0 : decide (0 < n) = false := by simpa using hn0
        have hQ : Hid (Held w5 (w3.heap.size + 1) A9 n c9 D m d p ∧ Env W w5 ∧ Held w5 w3.heap.size A n c D m d p ∧ Held w5 gr A0 n0 c0 D0 m0 d0 raw) :=
          hide ⟨⟨h5, ⟨Inss.of_own hown5, (HJB.out.below (HB5.out.mono (by omega))).mono (by have := HB5.out.size; omega)⟩, by omega, by omega⟩, HEB.out.next (by rw [hsB]; exact HB5.out), HPB.out.below (by rw [hsB]; exact HB5.out), HRB.out.below (by rw [hsB]; exact HB5.out)⟩
        clear h5 hown5
        go_wp2_with fail
        go_meet
        case rel =>
          obtain ⟨t1, t2, t3, t4⟩ := hQ.out
          exact ⟨_, p, rfl, hide t1, hide HM.out.fine, hide t2, hide t3, hide t4⟩
    case rest =>
      obtain ⟨v13, qp, rfl, HQ, HFq, HEc, HPc, HRc⟩ := hcut
      clear HB5 hown5 h5 HEB HPB HRB HJB hsB
      generalize wc = w6 at *
      refine ‹∀ (a : Act) (w : World), Code.wp Tryz.prog _ _ a w → _› _ _ ?_
      have k0 := HRc.out.c0
      have k1 := HRc.out.c1
      have k2 := HRc.out.c2
      have k3 := HPc.out.c0
      have k4 := HPc.out.c1
      have k5 := HPc.out.c2
      have k6 := HQ.out.c0
      have k7 := HQ.out.c1
      have k8 := HQ.out.c2
      go_step
      go_wp2_with fail
      clear k0 k1 k2 k3 k4 k5 k6 k7 k8
      have HEl := hide (HEc.out.alloc (.cells #[.slice A0 n0 c0, .slice D0 m0 d0, .int .i64 raw.pages, .slice A n c, .slice D m d, .int .i64 p.pages, .slice A9 n c9, .slice D m d, .int .i64 qp.pages] 25))
      have hOl : Obl (w6.alloc (.cells #[.slice A0 n0 c0, .slice D0 m0 d0, .int .i64 raw.pages, .slice A n c, .slice D m d, .int .i64 p.pages, .slice A9 n c9, .slice D m d, .int .i64 qp.pages] 25)) w6.heap.size 25 #[.slice A0 n0 c0, .slice D0 m0 d0, .int .i64 raw.pages, .slice A n c, .slice D m d, .int .i64 p.pages, .slice A9 n c9, .slice D m d, .int .i64 qp.pages] := Obl.make _ _ _
      have HRl := hide (HRc.out.lists.below (bel_alloc w6 (.cells #[.slice A0 n0 c0, .slice D0 m0 d0, .int .i64 raw.pages, .slice A n c, .slice D m d, .int .i64 p.pages, .slice A9 n c9, .slice D m d, .int .i64 qp.pages] 25)))
      have HQl := hide (HQ.out.lists.below (bel_alloc w6 (.cells #[.slice A0 n0 c0, .slice D0 m0 d0, .int .i64 raw.pages, .slice A n c, .slice D m d, .int .i64 p.pages, .slice A9 n c9, .slice D m d, .int .i64 qp.pages] 25)))
      have HPl := hide (HPc.out.alloc (.cells #[.slice A0 n0 c0, .slice D0 m0 d0, .int .i64 raw.pages, .slice A n c, .slice D m d, .int .i64 p.pages, .slice A9 n c9, .slice D m d, .int .i64 qp.pages] 25))
      clear HQ HEc HPc HRc
      generalize w6.alloc (.cells #[.slice A0 n0 c0, .slice D0 m0 d0, .int .i64 raw.pages, .slice A n c, .slice D m d, .int .i64 p.pages, .slice A9 n c9, .slice D m d, .int .i64 qp.pages] 25) = w7 at *
      generalize w6.heap.size = gl at *
      go_loopw [82] (fun s82 wr => ∃ k : Nat, s82 = .int .i64 (k : Int) ∧ k ≤ 3 ∧ Hid (Env W wr) ∧ Obl wr gl 25 #[.slice A0 n0 c0, .slice D0 m0 d0, .int .i64 raw.pages, .slice A n c, .slice D m d, .int .i64 p.pages, .slice A9 n c9, .slice D m d, .int .i64 qp.pages] ∧ Hid (Lists wr A0 n0 D0 m0 raw) ∧ Hid (Held wr w3.heap.size A n c D m d p) ∧ Hid (Lists wr A9 n D m qp)) (fun s82 _ => 3 - (intOf s82).toNat)
      case atStart => exact ⟨0, rfl, by omega, HEl, hOl, HRl, HPl, HQl⟩
      case round =>
        clear HEl hOl HRl HPl HQl
        obtain ⟨k, rfl, hk, HE, hO, HR, HP, HQ⟩ := hrel
        by_cases hk3 : k < 3
        · have hk3' : (k : Int) < 3 := by omega
          obtain ⟨Ax, nx, cx, Dx, mx, dx, P, x0, x1, x2, hFx, hl⟩ : ∃ (Ax : Option Addr) (nx cx : Nat) (Dx : Option Addr) (mx dx : Nat) (P : Cd.Pr), (#[.slice A0 n0 c0, .slice D0 m0 d0, .int .i64 raw.pages, .slice A n c, .slice D m d, .int .i64 p.pages, .slice A9 n c9, .slice D m d, .int .i64 qp.pages] : Array Value)[k * 3]? = some (.slice Ax nx cx) ∧ (#[.slice A0 n0 c0, .slice D0 m0 d0, .int .i64 raw.pages, .slice A n c, .slice D m d, .int .i64 p.pages, .slice A9 n c9, .slice D m d, .int .i64 qp.pages] : Array Value)[k * 3 + 1]? = some (.slice Dx mx dx) ∧ (#[.slice A0 n0 c0, .slice D0 m0 d0, .int .i64 raw.pages, .slice A n c, .slice D m d, .int .i64 p.pages, .slice A9 n c9, .slice D m d, .int .i64 qp.pages] : Array Value)[k * 3 + 2]? = some (.int .i64 P.pages) ∧ Fine P ∧ Lists wr Ax nx Dx mx P := by
            rcases (show k = 0 ∨ k = 1 ∨ k = 2 by omega) with rfl | rfl | rfl
            · exact ⟨A0, n0, c0, D0, m0, d0, raw, rfl, rfl, rfl, HF.out, HR.out⟩
            · exact ⟨A, n, c, D, m, d, p, rfl, rfl, rfl, HM.out.fine, HP.out.lists⟩
            · exact ⟨A9, n, c9, D, m, d, qp, rfl, rfl, rfl, HFq.out, HQ.out⟩
          have q0 := (hO.cell (k * 3)).trans x0
          have q1 := (hO.cell (k * 3 + 1)).trans x1
          have q2 := (hO.cell (k * 3 + 2)).trans x2
          have HFx := hide hFx
          have HX0 := hide (Held.of (c := cx) (d := dx) hl)
          have HE0 := hide (HE.out.alloc (.cells #[.slice Ax nx cx, .slice Dx mx dx, .int .i64 P.pages] 25))
          have HR0 := hide (HR.out.below (bel_alloc wr (.cells #[.slice Ax nx cx, .slice Dx mx dx, .int .i64 P.pages] 25)))
          have HQ0 := hide (HQ.out.below (bel_alloc wr (.cells #[.slice Ax nx cx, .slice Dx mx dx, .int .i64 P.pages] 25)))
          have HP0 := hide (HP.out.alloc (.cells #[.slice Ax nx cx, .slice Dx mx dx, .int .i64 P.pages] 25))
          have hO0 := hO.alloc (.cells #[.slice Ax nx cx, .slice Dx mx dx, .int .i64 P.pages] 25)
          obtain ⟨z1, hz1⟩ : ∃ z : Int, ((Cd.check P).1 : Int) = z := ⟨_, rfl⟩
          obtain ⟨z2, hz2⟩ : ∃ z : Int, ((Cd.check P).2 : Int) = z := ⟨_, rfl⟩
          obtain ⟨⟨fl, fe⟩, hfm⟩ : ∃ r, Cd.format P = r := ⟨_, rfl⟩
          obtain ⟨V, hV⟩ : ∃ b, decide (P = p) = b := ⟨_, rfl⟩
          have Hz1 := hide hz1
          have Hz2 := hide hz2
          have HFm := hide hfm
          have HV := hide hV
          clear x0 x1 x2 hFx hl HE HR HP HQ hO hz1 hz2 hfm hV
          go_wp2_with fail
          clear q0 q1 q2
          generalize wr.alloc (.cells #[.slice Ax nx cx, .slice Dx mx dx, .int .i64 P.pages] 25) = u0 at *
          generalize wr.heap.size = gx at *
          refine (check_held HX0.out HFx.out HE0.out.ops).mono ?_
          rintro e u1 h
          obtain ⟨rfl, hb⟩ := h
          rw [Hz1.out, Hz2.out]
          have HX1 := hide (HX0.out.below hb)
          have HE1 := hide (HE0.out.next hb)
          have HP1 := hide (HP0.out.below hb)
          have HR1 := hide (HR0.out.below hb)
          have HQ1 := hide (HQ0.out.below hb)
          have hO1 := hO0.below hb hO0.lt
          clear hb
          clear HX0 HE0 HP0 HR0 HQ0 hO0
          have k0 := HX1.out.c0
          have k1 := HX1.out.c1
          have k2 := HX1.out.c2
          go_wp2_with fail
          refine (refCheck_held HX1.out HFx.out).mono ?_
          rintro e u2 h
          obtain ⟨rfl, hb⟩ := h
          rw [Hz1.out, Hz2.out]
          have HX2 := hide (HX1.out.below hb)
          have HE2 := hide (HE1.out.next hb)
          have HP2 := hide (HP1.out.below hb)
          have HR2 := hide (HR1.out.below hb)
          have HQ2 := hide (HQ1.out.below hb)
          have hO2 := hO1.below hb hO1.lt
          clear hb k0 k1 k2
          clear HX1 HE1 HP1 HR1 HQ1 hO1
          have k0 := HX2.out.c0
          have k1 := HX2.out.c1
          have k2 := HX2.out.c2
          go_wp2_with fail
          refine (format_held HX2.out HFx.out HE2.out.ops HE2.out.tab).mono ?_
          rintro e u3 h
          obtain ⟨rfl, hb⟩ := h.got HFm.out
          clear h
          have HX3 := hide (HX2.out.below hb)
          have HE3 := hide (HE2.out.next hb)
          have HP3 := hide (HP2.out.below hb)
          have HR3 := hide (HR2.out.below hb)
          have HQ3 := hide (HQ2.out.below hb)
          have hO3 := hO2.below hb hO2.lt
          clear hb k0 k1 k2
          clear HX2 HE2 HP2 HR2 HQ2 hO2
          have k0 := HX3.out.c0
          have k1 := HX3.out.c1
          have k2 := HX3.out.c2
          go_wp2_with fail
          refine (refFormat_held HX3.out HFx.out).mono ?_
          rintro e u4 h
          obtain ⟨rfl, hb⟩ := h.got HFm.out
          clear h
          have HX4 := hide (HX3.out.below hb)
          have HE4 := hide (HE3.out.next hb)
          have HP4 := hide (HP3.out.below hb)
          have HR4 := hide (HR3.out.below hb)
          have HQ4 := hide (HQ3.out.below hb)
          have hO4 := hO3.below hb hO3.lt
          clear hb k0 k1 k2
          clear HX3 HE3 HP3 HR3 HQ3 hO3
          go_wp2_with fail
          refine region_G (by kernel_rfl) ?_
          have HE5 := hide HE4.out.drew
          have HX5 := hide (HX4.out.below (w' := u4.drew) ⟨rfl, rfl, rfl, Nat.le_refl _, fun _ _ => rfl⟩)
          have HP5 := hide (HP4.out.below (w' := u4.drew) ⟨rfl, rfl, rfl, Nat.le_refl _, fun _ _ => rfl⟩)
          have HR5 := hide (HR4.out.below (w' := u4.drew) ⟨rfl, rfl, rfl, Nat.le_refl _, fun _ _ => rfl⟩)
          have HQ5 := hide (HQ4.out.below (w' := u4.drew) ⟨rfl, rfl, rfl, Nat.le_refl _, fun _ _ => rfl⟩)
          have hO5 := hO4.drew
          clear HE4 HX4 HP4 HR4 HQ4 hO4
          generalize u4.drew = u5 at *
          refine take_ 0 rfl (by kernel_rfl) (fun _ _ _ h => h) (by rfl) (by intro w' hg; go_simp; try with_reducible rfl) ?_
          refine take_ 1 rfl (by kernel_rfl) (fun _ _ _ h => h) (by rfl) (by intro w' hg; go_simp; try with_reducible rfl) ?_
          refine take_ 2 rfl (by kernel_rfl) (fun _ _ _ h => h) (by rfl) (by intro w' hg; go_simp; try with_reducible rfl) ?_
          refine take_ 3 rfl (by kernel_rfl) (fun _ _ _ h => h) (by rfl) (by intro w' hg; go_simp; try with_reducible rfl) ?_
          refine take_ 4 rfl (by kernel_rfl) (fun _ _ _ h => h) (by kernel_rfl) (by intro w' hg; go_simp; try with_reducible rfl) ?_
          refine take_ 5 rfl (by kernel_rfl) (fun _ _ _ h => h) (by kernel_rfl) (by intro w' hg; go_simp; try with_reducible rfl) ?_
          refine take_ 6 rfl (by kernel_rfl) (fun _ _ _ h => h) (by kernel_rfl) (by intro w' hg; go_simp; try with_reducible rfl) ?_
          refine take_ 7 rfl (by kernel_rfl) (fun _ _ _ h => h) (by rfl) (by intro w' hg; go_simp; try with_reducible rfl) ?_
          refine take_ 8 rfl (by kernel_rfl) (fun _ _ _ h => h) (by rfl) (by intro w' hg; go_simp; try with_reducible rfl) ?_
          refine take_ 9 rfl (by kernel_rfl) (fun _ _ _ h => h) (by kernel_rfl) (by intro w' hg; go_simp; try with_reducible rfl) ?_
          refine take_ 10 rfl (by kernel_rfl) (fun _ _ _ h => h) (by kernel_rfl) (by intro w' hg; go_simp; try with_reducible rfl) ?_
          refine take_ 11 rfl (by kernel_rfl) (fun _ _ _ h => h) (by kernel_rfl) (by intro w' hg; go_simp; try with_reducible rfl) ?_
          refine take_ 12 rfl (by kernel_rfl) (fun _ _ _ h => h) (by rfl) (by intro w' hg; go_simp; try with_reducible rfl) ?_
          refine take_ 13 rfl (by kernel_rfl) (fun _ _ _ h => h) (by rfl) (by intro w' hg; go_simp; try with_reducible rfl) ?_
          refine take_ 14 rfl (by kernel_rfl) (fun _ _ _ h => h) (by kernel_rfl) (by intro w' hg; go_simp; try with_reducible rfl) ?_
          refine take_ 15 rfl (by kernel_rfl) (fun _ _ _ h => h) (by kernel_rfl) (by intro w' hg; go_simp; try with_reducible rfl) ?_
          refine take_ 16 rfl (by kernel_rfl) (fun _ _ _ h => h) (by kernel_rfl) (by intro w' hg; go_simp; try with_reducible rfl) ?_
          refine take_ 17 rfl (by kernel_rfl) (fun _ _ _ h => h) (by rfl) (by intro w' hg; go_simp; try with_reducible rfl) ?_
          refine take_ 18 rfl (by kernel_rfl) (fun _ _ _ h => h) (by rfl) (by intro w' hg; go_simp; try with_reducible rfl) ?_
          refine take_ 19 rfl (by kernel_rfl) (fun _ _ _ h => h) (by kernel_rfl) (by intro w' hg; have k0 := (HX5.out.below hg).c0; have k1 := (HX5.out.below hg).c1; have k2 := (HX5.out.below hg).c2; go_simp; try with_reducible rfl) ?_
          refine take_ 20 rfl (by kernel_rfl) (fun _ _ _ h => h) (by kernel_rfl) (by intro w' hg; have k0 := (HP5.out.below hg).c0; have k1 := (HP5.out.below hg).c1; have k2 := (HP5.out.below hg).c2; go_simp; try with_reducible rfl) ?_
          refine take_ 22 rfl (by kernel_rfl) (fun _ _ _ h => h) (by kernel_rfl) (by intro w' hg; have k0 := (HX5.out.below hg).c0; have k1 := (HX5.out.below hg).c1; have k2 := (HX5.out.below hg).c2; go_simp; try with_reducible rfl) ?_
          refine take_ 23 rfl (by kernel_rfl) (fun _ _ _ h => h) (by kernel_rfl) (by intro w' hg; have k0 := (HP5.out.below hg).c0; have k1 := (HP5.out.below hg).c1; have k2 := (HP5.out.below hg).c2; go_simp; try with_reducible rfl) ?_
          refine only_ 21 rfl (by kernel_rfl) (by kernel_rfl) ?_
          intro K hK
          go_simp
          refine (same_held HX5.out HP5.out).mono ?_
          rintro e u6 ⟨rfl, hb⟩
          rw [HV.out]
          have HX6 := hide (HX5.out.below hb)
          have HE6 := hide (HE5.out.next hb)
          have HP6 := hide (HP5.out.below hb)
          have HR6 := hide (HR5.out.below hb)
          have HQ6 := hide (HQ5.out.below hb)
          have hO6 := hO5.below hb hO5.lt
          refine hK _ _ hb ?_
          clear hK K hb
          clear HX5 HE5 HP5 HR5 HQ5 hO5
          refine only_ 24 rfl (by kernel_rfl) (by kernel_rfl) ?_
          intro K hK
          go_simp
          refine (refSame_held HX6.out HP6.out).mono ?_
          rintro e u7 ⟨rfl, hb⟩
          rw [HV.out]
          have HX7 := hide (HX6.out.below hb)
          have HE7 := hide (HE6.out.next hb)
          have HP7 := hide (HP6.out.below hb)
          have HR7 := hide (HR6.out.below hb)
          have HQ7 := hide (HQ6.out.below hb)
          have hO7 := hO6.below hb hO6.lt
          refine hK _ _ hb ?_
          clear hK K hb
          clear HX6 HE6 HP6 HR6 HQ6 hO6
          refine take_ 25 rfl (by kernel_rfl) (fun _ _ _ h => h) (by kernel_rfl) (by intro w' hg; go_simp; try with_reducible rfl) ?_
          refine take_ 26 rfl (by kernel_rfl) (fun _ _ _ h => h) (by rfl) (by intro w' hg; go_simp; try with_reducible rfl) ?_
          refine done_ (by kernel_rfl) ?_
          go_simp
          go_wp2
          go_roundw
          case rel => exact ⟨k + 1, by go_num, by omega, HE7, hO7, HR7, HP7, HQ7⟩
          case measure => simp [intOf]; omega
        · have hk3' : ¬ (k : Int) < 3 := by omega
          go_wp2
          go_ret
          exact ⟨rfl, by first | exact HE.out.bel | (rw [← hgr]; exact HE.out.bel)⟩
end Go.Proofs.YtfjekckcpkkdiaaGreatDoor
