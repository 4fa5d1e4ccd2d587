/- Made name spaces: a contract. -/
import Derived.Test.YtddbohnappogkaaNmAdd
import Derived.Test.YtddbohnappogkaaObKinds
import Derived.Test.YtddbohnappogkaaRegionD
namespace Go.Proofs.Ytddbohnappogkaa
open Go.RowKit

def pathsL : List (List UInt8) := [[47, 100, 101, 118], [47, 102], [47, 112, 111, 114, 116], [47, 115, 101, 109], [47, 115, 104, 109], [47, 103], [98, 97, 100], [47, 102, 47, 103]]
/-- The eight paths, in a block of their own. -/
def PathsPost (w : World) (e : Ending) (w' : World) : Prop := ∃ g, e = .returned (.slice (some ⟨g, 0, none⟩) 8 8) ∧ w.heap.size ≤ g ∧ Obl w' g 9 (sv pathsL).toArray ∧ Below w.heap.size w w'
set_option maxRecDepth 100000 in
set_option maxHeartbeats 4000000 in
theorem paths_any (W : World) : Calls Try.prog 43 #[] W (PathsPost W) := by
  have O : Obl (W.alloc (.cells (sv pathsL).toArray 9)) W.heap.size 9 (sv pathsL).toArray := Obl.make W _ _
  have HO := hide O
  have HB := hide ((Below.refl W.heap.size W).alloc (Nat.le_refl _) (.cells (sv pathsL).toArray 9))
  clear O
  go_enter Try.func43, Try.ntmps43
  go_wp2_with fail
  go_ret
  exact ⟨W.heap.size, rfl, Nat.le_refl _, HO.out, HB.out⟩


/-- A path of the given ones. -/
def Known (s : List UInt8) : Prop := s.length ≤ 1000 ∧ s ∈ pathsL
theorem AddIs.known {o : Ob} {E : List Nx.Ent} {x : Nx.Ent} {w w' : World} {e : Ending} (h : AddIs o E x w e w') :
    (∃ A n c l, e = .returned (.tuple #[.agg (oc { o with names := ⟨A, n, c⟩ }), .int .i64 0]) ∧ n ≤ 2 * o.names.n + 1 ∧ NmOutE w' (w.heap.size + 1) A n c l (Nx.insertL E x) ∧ Below w.heap.size w w' ∧ Nx.Space (Nx.insertL E x) ∧ ∀ y ∈ Nx.insertL E x, y = x ∨ y ∈ E) ∨
    (∃ r, r ≠ 0 ∧ e = .returned (.tuple #[.agg (oc Ob.zero), .int .i64 r]) ∧ Below w.heap.size w w') := by
  rcases h with ⟨h0, A, n, c, l, he, hn, hM, hb⟩ | ⟨h0, he, hb⟩
  · obtain ⟨h1, h2, h3, _⟩ := Ob.addErr_0 h0
    have he2 : Nx.insertL E x = Nx.insert E x := Nx.insertL_eq (Nx.asc_of_space h1.2.2.2.1) (Nx.find_none h3)
    exact .inl ⟨A, n, c, l, he, hn, hM, hb, by rw [he2]; exact Nx.insert_space h1.2.2.2.1 h2 h3, fun y hy => by rw [he2] at hy; exact Nx.mem_insert.1 hy⟩
  · exact .inr ⟨_, h0, he, hb⟩
def kindsL : List Int := [3, 6, 8, 9, 2]
/-- One value another. -/
def upd (x : Nat → Value) (i : Nat) (v : Value) : Nat → Value := fun j => if j = i then v else x j
theorem upd_same (x : Nat → Value) (i : Nat) (v : Value) : upd x i v i = v := by simp [upd]
theorem upd_ne {x : Nat → Value} {i j : Nat} (h : j ≠ i) (v : Value) : upd x i v j = x j := by simp [upd, h]
theorem built_nm (s : List UInt8) (kd : Int) (A : Option Addr) (n c : Nat) : Try.prog.built 56 [(0, .string ⟨s.toArray⟩), (1, .int .i64 kd), (2, .slice A n c)] = some (nc ⟨s, kd, ⟨A, n, c⟩⟩) := by kernel_rfl
/-- What is known of an operation's value once it is done. -/
def NF (b _m z : Nat) (x : Nat → Value) (w : World) : Nat → Prop
  | 0 => ∃ g, x 0 = .slice (some ⟨g, 0, none⟩) 8 8 ∧ Obl w g 9 (sv pathsL).toArray ∧ g ≠ b
  | 1 => x 1 = .pointer (some ⟨b, 0, none⟩)
  | 2 => ∃ v : Nat, x 2 = .int .i64 (v : Int) ∧ v < 8
  | 3 => ∃ g v, x 3 = .pointer (some ⟨g, v, none⟩) ∧ Obl w g 9 (sv pathsL).toArray ∧ v < 8 ∧ g ≠ b
  | 4 => ∃ s : List UInt8, x 4 = .string ⟨s.toArray⟩ ∧ Known s
  | 5 => ∃ g, x 5 = .slice (some ⟨g, 0, none⟩) 5 5 ∧ Obl w g 3 (nv .i64 kindsL).toArray ∧ g ≠ b
  | 6 => x 6 = .pointer (some ⟨b, 0, none⟩)
  | 7 => ∃ v : Nat, x 7 = .int .i64 (v : Int) ∧ v < 5
  | 8 => ∃ g v, x 8 = .pointer (some ⟨g, v, none⟩) ∧ Obl w g 3 (nv .i64 kindsL).toArray ∧ v < 5 ∧ g ≠ b
  | 9 => ∃ kd : Int, x 9 = .int .i64 kd
  | 10 => x 10 = .pointer (some ⟨b, 0, none⟩)
  | 11 => ∃ v : Int, x 11 = .int .u64 v
  | 12 => ∃ A c I, x 12 = .slice A 1 c ∧ w.ownsRow z 22 1 (.slice A 1 c) 1 (nv .u64 I)
  | 13 => ∃ (s : List UInt8) (kd : Int) (A : Option Addr) (c : Nat) (I : List Int), x 13 = .agg (nc ⟨s, kd, ⟨A, 1, c⟩⟩) ∧ Known s ∧ w.ownsRow z 22 1 (.slice A 1 c) 1 (nv .u64 I)
  | 14 => ∃ g, ∃ cells : Array Value, x 14 = .pointer (some ⟨g, 0, none⟩) ∧ Obl w g 56 cells ∧ cells.size = 3 ∧ z ≤ g
  | _ => True
/-- What is known at the end. -/
def NFend (_m z : Nat) (x : Nat → Value) (w : World) : Prop := ∃ (g : Nat) (s : List UInt8) (kd : Int) (A : Option Addr) (c : Nat) (I : List Int), x 14 = .pointer (some ⟨g, 0, none⟩) ∧ Obl w g 56 (nc ⟨s, kd, ⟨A, 1, c⟩⟩) ∧ Known s ∧ w.ownsRow z 22 1 (.slice A 1 c) 1 (nv .u64 I) ∧ z ≤ g
/-- What is known all the time. -/
structure NP (C b m z : Nat) (W w0 w : World) (o : Ob) (A : Option Addr) (n c : Nat) (l : List Nm) (F : List Nx.Ent) : Prop where
  ob : Obl w m 41 (oc o)
  out : NmOutE w (m + 1) A n c l F
  res : Obl w W.heap.size 41 (oc Ob.zero)
  dice : Dice w C b
  bel : Bel W.heap.size b W w
  later : Bel z b w0 w
theorem NP.next {C b m z n c : Nat} {W w0 w w' : World} {o : Ob} {A : Option Addr} {l : List Nm} {F : List Nx.Ent} (h : NP C b m z W w0 w o A n c l F) (hB : Bel w.heap.size b w w') (hD : Dice w' C b) (hm : m ≠ b) (hbm : b < m) (hW : W.heap.size ≠ b) (hz : w0.heap.size = z) : NP C b m z W w0 w' o A n c l F :=
  ⟨hB.obl' h.ob hm, h.out.keep (keep_bel hB (by omega)) hB.size, hB.obl' h.res hW, hD, h.bel.trans (hB.mono h.bel.size), h.later.trans (hB.mono (by rw [← hz]; exact h.later.size))⟩
theorem NF.next {b m z : Nat} {x : Nat → Value} {w w' : World} (hB : Bel w.heap.size b w w') (_hbm : b < m) (hbz : b < z) : ∀ {j : Nat}, NF b m z x w j → NF b m z x w' j
  | 0, ⟨g, h1, h2, h3⟩ => ⟨g, h1, hB.obl' h2 h3, h3⟩
  | 1, h => h
  | 2, h => h
  | 3, ⟨g, v, h1, h2, h3, h4⟩ => ⟨g, v, h1, hB.obl' h2 h4, h3, h4⟩
  | 4, h => h
  | 5, ⟨g, h1, h2, h3⟩ => ⟨g, h1, hB.obl' h2 h3, h3⟩
  | 6, h => h
  | 7, h => h
  | 8, ⟨g, v, h1, h2, h3, h4⟩ => ⟨g, v, h1, hB.obl' h2 h4, h3, h4⟩
  | 9, h => h
  | 10, h => h
  | 11, h => h
  | 12, ⟨A, c, I, h1, h2⟩ => ⟨A, c, I, h1, own_keep h2 (keep_bel hB (by omega))⟩
  | 13, ⟨s, kd, A, c, I, h1, h2, h3⟩ => ⟨s, kd, A, c, I, h1, h2, own_keep h3 (keep_bel hB (by omega))⟩
  | 14, ⟨g, cells, h1, h2, h3, h4⟩ => ⟨g, cells, h1, hB.obl' h2 (by omega), h3, h4⟩
  | _ + 15, _ => trivial
theorem NF.other {b m z : Nat} {x : Nat → Value} {w : World} {i : Nat} (v : Value) : ∀ {j : Nat}, j ≠ i → NF b m z x w j → NF b m z (upd x i v) w j
  | 0, hj, ⟨g, h1, h2⟩ => ⟨g, by rw [upd_ne hj]; exact h1, h2⟩
  | 1, hj, h => by show upd x i v 1 = _; rw [upd_ne hj]; exact h
  | 2, hj, ⟨g, h1, h2⟩ => ⟨g, by rw [upd_ne hj]; exact h1, h2⟩
  | 3, hj, ⟨g, u, h1, h2⟩ => ⟨g, u, by rw [upd_ne hj]; exact h1, h2⟩
  | 4, hj, ⟨g, h1, h2⟩ => ⟨g, by rw [upd_ne hj]; exact h1, h2⟩
  | 5, hj, ⟨g, h1, h2⟩ => ⟨g, by rw [upd_ne hj]; exact h1, h2⟩
  | 6, hj, h => by show upd x i v 6 = _; rw [upd_ne hj]; exact h
  | 7, hj, ⟨g, h1, h2⟩ => ⟨g, by rw [upd_ne hj]; exact h1, h2⟩
  | 8, hj, ⟨g, u, h1, h2⟩ => ⟨g, u, by rw [upd_ne hj]; exact h1, h2⟩
  | 9, hj, ⟨g, h1⟩ => ⟨g, by rw [upd_ne hj]; exact h1⟩
  | 10, hj, h => by show upd x i v 10 = _; rw [upd_ne hj]; exact h
  | 11, hj, ⟨g, h1⟩ => ⟨g, by rw [upd_ne hj]; exact h1⟩
  | 12, hj, ⟨A, c, I, h1, h2⟩ => ⟨A, c, I, by rw [upd_ne hj]; exact h1, h2⟩
  | 13, hj, ⟨s, kd, A, c, I, h1, h2⟩ => ⟨s, kd, A, c, I, by rw [upd_ne hj]; exact h1, h2⟩
  | 14, hj, ⟨g, cells, h1, h2⟩ => ⟨g, cells, by rw [upd_ne hj]; exact h1, h2⟩
  | _ + 15, _, _ => trivial
/-- Between the operations: the frame by its values, what is known of those that are done. -/
def NInv (fr : (Nat → Value) → Act) (C b m z : Nat) (W w0 : World) (o : Ob) (A : Option Addr) (n c : Nat) (l : List Nm) (F : List Nx.Ent) (dn : Nat → Bool) (a : Act) (w : World) : Prop :=
  ∃ x, a = fr x ∧ NP C b m z W w0 w o A n c l F ∧ (dn 15 = true → NFend m z x w ∧ ∀ j, j < 15 → dn j = true) ∧ (dn 15 = false → ∀ j, dn j = true → NF b m z x w j)
section
variable {fr : (Nat → Value) → Act} {C b m z n c : Nat} {W w0 w w' : World} {o : Ob} {A : Option Addr} {l : List Nm} {F : List Nx.Ent} {dn : Nat → Bool} {x : Nat → Value}
/-- One operation more, whose value is v. -/
theorem NInv.one (i : Nat) (v : Value) (h15 : dn 15 = false) (hi : i ≠ 15) (hP : NP C b m z W w0 w' o A n c l F) (hB : Bel w.heap.size b w w') (hbm : b < m) (hbz : b < z) (hF : ∀ j, dn j = true → NF b m z x w j) (hN : NF b m z (upd x i v) w' i) :
    NInv fr C b m z W w0 o A n c l F (also dn i) (fr (upd x i v)) w' := by
  refine ⟨_, rfl, hP, fun h => ?_, fun _ j hj => ?_⟩
  · have := also_ne h (fun e => hi e.symm)
    rw [h15] at this
    cases this
  · by_cases hji : j = i
    · subst hji; exact hN
    · exact ((hF j (also_ne hj hji)).next hB hbm hbz).other v hji
end

/-- A made name space, and the dice. -/
def NamesThrown (C b : Nat) (w : World) (e : Ending) (w' : World) : Prop := ∃ A n c l F, e = .returned (.agg (oc { Ob.zero with id := 1, kind := 10, names := ⟨A, n, c⟩ })) ∧ n ≤ 31 ∧ NmOutE w' (w.heap.size + 1) A n c l F ∧ Nx.Space F ∧ (∀ x ∈ F, x.path ∈ pathsL) ∧ Dice w' C b ∧ Bel w.heap.size b w w'
set_option maxRecDepth 100000 in
set_option maxHeartbeats 16000000 in
theorem names_thrown (C b : Nat) (W : World) (h : Dice W C b) : Calls Try.prog 27 #[.pointer (some ⟨b, 0, none⟩)] W (NamesThrown C b W) := by
  obtain ⟨w1, hw, OR, hb, hs⟩ := start_z W
  have hbl := h.lt
  have hCb := h.le
  have HD := hide (h.below hb)
  have HB := hide (Bel.of (b := b) hb)
  clear hb h
  go_enter Try.func27, Try.ntmps27
  go_wp2_with fail
  refine (namesNew _).mono ?_
  rintro e w2 ⟨rfl, hb2⟩
  obtain ⟨w3, hw3, m, hm, w4, hw4, OZ, O, hb4, hs4⟩ := laid_ob { Ob.zero with id := 1, kind := 10 } w2
  have hmW : W.heap.size < m := by have := hb2.size; omega
  have OR4 := (OR.below hb2 OR.lt).below hb4 (by omega)
  have HD4 := hide ((HD.out.below hb2).below hb4)
  have HB4 := hide (HB.out.trans (Bel.of (b := b) ((hb2.trans (hb4.mono hb2.size)).mono (by omega))))
  clear hb2 hb4 OR HD HB hw hs
  go_wp2_with (first | (refine store_ob rfl _ _ rfl rfl (c := { Ob.zero with id := 1, kind := 10 }) rfl OZ rfl ?_; rw [hw4]) | fail)
  refine (next_dice C b 6 _ HD4.out (by omega) (by omega)).mono ?_
  rintro e w5 ⟨k0, rfl, hk0, hD, hB⟩
  obtain ⟨k0, rfl⟩ := Int.eq_ofNat_of_zero_le hk0.1
  have hk5 : k0 ≤ 5 := by omega
  have O5 := hB.obl' O (by omega)
  have OR5 := hide (hB.obl' OR4 (by omega))
  have HD5 := hide hD
  have HB5 := hide (HB4.out.trans (hB.mono HB4.out.size))
  have hm5 := O5.lt
  have HM5 : Hid (NmOutE w5 (m + 1) none 0 0 [] []) := hide ⟨⟨own_nil, by simp⟩, by intro y hy; simp at hy, by omega, rfl, fun k h => by simp at h⟩
  clear hD hB O OR4 HD4 HB4 OZ hw4 hw3 hm hs4 hk0
  go_wp2_with fail
  go_loopw [4] (fun s4 wr => ∃ (k n c : Nat) (A : Option Addr) (l : List Nm) (F : List Nx.Ent), s4 = .int .i64 (k : Int) ∧ k ≤ 5 ∧ n + 1 ≤ 2 ^ (5 - k) ∧ Obl wr m 41 (oc { Ob.zero with id := 1, kind := 10, names := ⟨A, n, c⟩ }) ∧ Hid (NmOutE wr (m + 1) A n c l F) ∧ Hid (Nx.Space F ∧ ∀ x ∈ F, x.path ∈ pathsL) ∧
      Hid (Obl wr W.heap.size 41 (oc Ob.zero)) ∧ Hid (Dice wr C b) ∧ Hid (Bel W.heap.size b W wr)) (fun s4 _ => (intOf s4).toNat)
  case atStart => exact ⟨k0, 0, 0, none, [], [], rfl, hk5, Nat.one_le_two_pow, O5, HM5, hide ⟨by decide, by simp⟩, OR5, HD5, HB5⟩
  case round =>
    clear O5 HM5 OR5 HD5 HB5 hk5
    obtain ⟨k, n, c, A, l, F, rfl, hk, hn, O, M, HSP, OR, HD, HB⟩ := hrel
    have hml := O.lt
    have hn32 : n + 1 ≤ 32 := Nat.le_trans hn (by have := Nat.pow_le_pow_right (show 0 < 2 by omega) (show 5 - k ≤ 5 by omega); simpa using this)
    by_cases h0 : 0 < k
    · have h0' : (0 : Int) < (k : Int) := by omega
      go_wp2_with fail
      refine region_I (Inv := NInv (fun x => (⟨#[Value.pointer (some ⟨b, 0, none⟩), undef, Value.pointer (some ⟨W.heap.size, 0, none⟩), Value.pointer (some ⟨m, 0, none⟩), Value.int .i64 (k : Int), x 14, u6, u7, Value.agg (oc { Ob.zero with id := 1, kind := 10 }), Value.pointer (some ⟨b, 0, none⟩), Value.int .i64 (k0 : Int), Value.int .i64 (k : Int), Value.bool true, u13, u14, x 0, x 1, x 2, x 3, x 4, x 5, x 6, x 7, x 8, x 9, x 10, x 11, x 12, x 13, u29, u30, u31, u32, u33, u34, u35, u36, u37, u38, u39, u40, u41, u42, u43, u44, u45, u46, u47, undef], []⟩ : Act)) C b m wr.heap.size W wr.drew ({ Ob.zero with id := 1, kind := 10, names := ⟨A, n, c⟩ }) A n c l F) (by kernel_rfl) (by kernel_rfl) ?init ?step ?fin
      case init => exact ⟨fun j => [u15, u16, u17, u18, u19, u20, u21, u22, u23, u24, u25, u26, u27, u28, u5].getD j undef, rfl, ⟨O, ⟨M.out.own, M.out.short, M.out.base_le, M.out.has⟩, OR.out, HD.out, ⟨HB.out.os, HB.out.tape, HB.out.output, HB.out.size, HB.out.block⟩, Bel.refl _ _ _⟩, (fun h => by cases h), (fun _ j hj => by cases hj)⟩
      case step =>
        intro dn a w i o hI hdi ho hall
        obtain ⟨x, rfl, hP, h15t, hF⟩ := hI
        have hbz : b < wr.heap.size := by have := HD.out.lt; exact this
        have hbm : b < m := by omega
        rcases Nat.lt_or_ge i 16 with hi | hi
        case inr => rw [Array.getElem?_eq_none (by simpa using hi)] at ho; cases ho
        have h15 : dn 15 = false := by
          rcases Bool.eq_false_or_eq_true (dn 15) with h | h
          · rcases Nat.lt_or_ge i 15 with h' | h'
            · have := (h15t h).2 i h'
              rw [hdi] at this
              cases this
            · obtain rfl : i = 15 := by omega
              exact hdi
          · exact h
        replace hF := hF h15
        clear h15t
        match i, hi with
        | 0, _ =>
          obtain rfl := Option.some.inj (show some _ = some o from ho)
          refine ⟨rfl, fun K hK => ?_⟩
          refine wp_enter (args := #[]) (by go_simp; try with_reducible rfl) (paths_any _) ?_
          rintro e w' ⟨g, rfl, hg, hO, hb⟩
          refine ⟨_, rfl, ?_⟩
          exact hK _ _ (NInv.one 0 _ h15 (by decide) (hP.next (Bel.of hb) (hP.dice.below hb) (by omega) hbm (by omega) rfl) (Bel.of hb) hbm hbz hF ⟨g, upd_same _ _ _, hO, by have := hP.dice.lt; omega⟩)
        | 1, _ =>
          obtain rfl := Option.some.inj (show some _ = some o from ho)
          refine ⟨rfl, fun K hK => ?_⟩
          refine wp_yield (v := .pointer (some ⟨b, 0, none⟩)) (by go_simp; try with_reducible rfl) ?_
          exact hK _ _ (NInv.one 1 _ h15 (by decide) hP (Bel.refl _ _ _) hbm hbz hF (upd_same _ _ _))
        | 2, _ =>
          obtain rfl := Option.some.inj (show some _ = some o from ho)
          refine ⟨rfl, fun K hK => ?_⟩
          have hx : x 1 = _ := hF 1 (hall ⟨1, .data⟩ (by simp) rfl)
          refine wp_enter (args := #[.pointer (some ⟨b, 0, none⟩), .int .i64 8]) (by go_simp; try with_reducible rfl) (next_dice C b 8 _ hP.dice (by omega) (by omega)) ?_
          rintro e w' ⟨v, rfl, hv, hD, hB⟩
          obtain ⟨v, rfl⟩ := Int.eq_ofNat_of_zero_le hv.1
          refine ⟨_, rfl, ?_⟩
          exact hK _ _ (NInv.one 2 _ h15 (by decide) (hP.next hB hD (by omega) hbm (by omega) rfl) hB hbm hbz hF ⟨v, upd_same _ _ _, by omega⟩)
        | 3, _ =>
          obtain rfl := Option.some.inj (show some _ = some o from ho)
          refine ⟨rfl, fun K hK => ?_⟩
          obtain ⟨g, hx1, hO, hgb⟩ := hF 0 (hall ⟨0, .data⟩ (by simp) rfl)
          obtain ⟨v, hx2, hv⟩ := hF 2 (hall ⟨2, .data⟩ (by simp) rfl)
          have hv1 : (v : Int) < 8 := by omega
          refine wp_yield (v := .pointer (some ⟨g, v, none⟩)) (by go_simp; try with_reducible rfl) ?_
          exact hK _ _ (NInv.one 3 _ h15 (by decide) hP (Bel.refl _ _ _) hbm hbz hF ⟨g, v, upd_same _ _ _, hO, hv, hgb⟩)
        | 4, _ =>
          obtain rfl := Option.some.inj (show some _ = some o from ho)
          refine ⟨rfl, fun K hK => ?_⟩
          obtain ⟨g, v, hx1, hO, hv, hgb⟩ := hF 3 (hall ⟨3, .data⟩ (by simp) rfl)
          have hvl : v < pathsL.length := hv
          have hc : w.cell? ⟨g, v, none⟩ = some (.string ⟨pathsL[v].toArray⟩) := by rw [hO.cell, List.getElem?_toArray, sv_at hvl]
          have hsm : pathsL[v] ∈ pathsL := List.getElem_mem hvl
          have hsl : pathsL[v].length ≤ 1000 := by
            have : ∀ v : Fin 8, (pathsL[v.1]'v.2).length ≤ 1000 := by decide
            exact this ⟨v, hv⟩
          generalize pathsL[v] = s at *
          refine wp_yield (v := .string ⟨s.toArray⟩) (by go_simp; try with_reducible rfl) ?_
          exact hK _ _ (NInv.one 4 _ h15 (by decide) hP (Bel.refl _ _ _) hbm hbz hF ⟨s, upd_same _ _ _, hsl, hsm⟩)
        | 5, _ =>
          obtain rfl := Option.some.inj (show some _ = some o from ho)
          refine ⟨rfl, fun K hK => ?_⟩
          refine wp_yield (w' := w.alloc (.cells (nv .i64 kindsL).toArray 3)) (v := .slice (some ⟨w.heap.size, 0, none⟩) 5 5) (by go_simp; rfl) ?_
          exact hK _ _ (NInv.one 5 _ h15 (by decide) (hP.next (Bel.of ((Below.refl w.heap.size w).alloc (Nat.le_refl _) (.cells (nv .i64 kindsL).toArray 3))) (hP.dice.alloc _) (by omega) hbm (by omega) rfl) (Bel.of ((Below.refl w.heap.size w).alloc (Nat.le_refl _) (.cells (nv .i64 kindsL).toArray 3))) hbm hbz hF ⟨w.heap.size, upd_same _ _ _, Obl.make w _ _, by have := hP.dice.lt; omega⟩)
        | 6, _ =>
          obtain rfl := Option.some.inj (show some _ = some o from ho)
          refine ⟨rfl, fun K hK => ?_⟩
          refine wp_yield (v := .pointer (some ⟨b, 0, none⟩)) (by go_simp; try with_reducible rfl) ?_
          exact hK _ _ (NInv.one 6 _ h15 (by decide) hP (Bel.refl _ _ _) hbm hbz hF (upd_same _ _ _))
        | 7, _ =>
          obtain rfl := Option.some.inj (show some _ = some o from ho)
          refine ⟨rfl, fun K hK => ?_⟩
          have hx : x 6 = _ := hF 6 (hall ⟨6, .data⟩ (by simp) rfl)
          refine wp_enter (args := #[.pointer (some ⟨b, 0, none⟩), .int .i64 5]) (by go_simp; try with_reducible rfl) (next_dice C b 5 _ hP.dice (by omega) (by omega)) ?_
          rintro e w' ⟨v, rfl, hv, hD, hB⟩
          obtain ⟨v, rfl⟩ := Int.eq_ofNat_of_zero_le hv.1
          refine ⟨_, rfl, ?_⟩
          exact hK _ _ (NInv.one 7 _ h15 (by decide) (hP.next hB hD (by omega) hbm (by omega) rfl) hB hbm hbz hF ⟨v, upd_same _ _ _, by omega⟩)
        | 8, _ =>
          obtain rfl := Option.some.inj (show some _ = some o from ho)
          refine ⟨rfl, fun K hK => ?_⟩
          obtain ⟨g, hx1, hO, hgb⟩ := hF 5 (hall ⟨5, .data⟩ (by simp) rfl)
          obtain ⟨v, hx2, hv⟩ := hF 7 (hall ⟨7, .data⟩ (by simp) rfl)
          have hv1 : (v : Int) < 5 := by omega
          refine wp_yield (v := .pointer (some ⟨g, v, none⟩)) (by go_simp; try with_reducible rfl) ?_
          exact hK _ _ (NInv.one 8 _ h15 (by decide) hP (Bel.refl _ _ _) hbm hbz hF ⟨g, v, upd_same _ _ _, hO, hv, hgb⟩)
        | 9, _ =>
          obtain rfl := Option.some.inj (show some _ = some o from ho)
          refine ⟨rfl, fun K hK => ?_⟩
          obtain ⟨g, v, hx1, hO, hv, hgb⟩ := hF 8 (hall ⟨8, .data⟩ (by simp) rfl)
          have hvl : v < kindsL.length := hv
          have hc := hO.num hvl
          generalize kindsL[v] = kd at *
          refine wp_yield (v := .int .i64 kd) (by go_simp; try with_reducible rfl) ?_
          exact hK _ _ (NInv.one 9 _ h15 (by decide) hP (Bel.refl _ _ _) hbm hbz hF ⟨kd, upd_same _ _ _⟩)
        | 10, _ =>
          obtain rfl := Option.some.inj (show some _ = some o from ho)
          refine ⟨rfl, fun K hK => ?_⟩
          refine wp_yield (v := .pointer (some ⟨b, 0, none⟩)) (by go_simp; try with_reducible rfl) ?_
          exact hK _ _ (NInv.one 10 _ h15 (by decide) hP (Bel.refl _ _ _) hbm hbz hF (upd_same _ _ _))
        | 11, _ =>
          obtain rfl := Option.some.inj (show some _ = some o from ho)
          refine ⟨rfl, fun K hK => ?_⟩
          have hx : x 10 = _ := hF 10 (hall ⟨10, .data⟩ (by simp) rfl)
          refine wp_enter (args := #[.pointer (some ⟨b, 0, none⟩)]) (by go_simp; try with_reducible rfl) (id_dice C b _ hP.dice) ?_
          rintro e w' ⟨v, rfl, hD, hB⟩
          refine ⟨_, rfl, ?_⟩
          exact hK _ _ (NInv.one 11 _ h15 (by decide) (hP.next hB hD (by omega) hbm (by omega) rfl) hB hbm hbz hF ⟨v, upd_same _ _ _⟩)
        | 12, _ =>
          obtain rfl := Option.some.inj (show some _ = some o from ho)
          refine ⟨rfl, fun K hK => ?_⟩
          obtain ⟨v, hx⟩ := hF 11 (hall ⟨11, .data⟩ (by simp) rfl)
          have hmw : wr.heap.size ≤ w.heap.size := hP.later.size
          refine wp_yield (w' := w.alloc (.cells #[.int .u64 v] 22)) (v := .slice (some ⟨w.heap.size, 0, none⟩) 1 1) (by go_simp; try with_reducible rfl) ?_
          exact hK _ _ (NInv.one 12 _ h15 (by decide) (hP.next (Bel.of ((Below.refl w.heap.size w).alloc (Nat.le_refl _) (.cells #[.int .u64 v] 22))) (hP.dice.alloc _) (by omega) hbm (by omega) rfl) (Bel.of ((Below.refl w.heap.size w).alloc (Nat.le_refl _) (.cells #[.int .u64 v] 22))) hbm hbz hF ⟨_, 1, [v], upd_same _ _ _, own_list [.int .u64 v] 22 hmw (by simp)⟩)
        | 13, _ =>
          obtain rfl := Option.some.inj (show some _ = some o from ho)
          refine ⟨rfl, fun K hK => ?_⟩
          obtain ⟨s, hx1, hs⟩ := hF 4 (hall ⟨4, .data⟩ (by simp) rfl)
          obtain ⟨kd, hx2⟩ := hF 9 (hall ⟨9, .data⟩ (by simp) rfl)
          obtain ⟨A5, c5, I5, hx3, hown⟩ := hF 12 (hall ⟨12, .data⟩ (by simp) rfl)
          refine wp_yield (v := .agg (nc ⟨s, kd, ⟨A5, 1, c5⟩⟩)) (by
            exact exec_build rfl (vs := [(0, .string ⟨s.toArray⟩), (1, .int .i64 kd), (2, .slice A5 1 c5)]) (by go_simp) (built_nm _ _ _ _ _)) ?_
          exact hK _ _ (NInv.one 13 _ h15 (by decide) hP (Bel.refl _ _ _) hbm hbz hF ⟨s, kd, A5, c5, I5, upd_same _ _ _, hs, hown⟩)
        | 14, _ =>
          obtain rfl := Option.some.inj (show some _ = some o from ho)
          refine ⟨rfl, fun K hK => ?_⟩
          refine wp_yield (w' := w.alloc (.cells #[.string ⟨#[]⟩, .int .i64 0, .slice none 0 0] 56)) (v := .pointer (some ⟨w.heap.size, 0, none⟩)) (by go_simp; try with_reducible rfl) ?_
          exact hK _ _ (NInv.one 14 _ h15 (by decide) (hP.next (Bel.of ((Below.refl w.heap.size w).alloc (Nat.le_refl _) (.cells #[.string ⟨#[]⟩, .int .i64 0, .slice none 0 0] 56))) (hP.dice.alloc _) (by omega) hbm (by omega) rfl) (Bel.of ((Below.refl w.heap.size w).alloc (Nat.le_refl _) (.cells #[.string ⟨#[]⟩, .int .i64 0, .slice none 0 0] 56))) hbm hbz hF ⟨w.heap.size, _, upd_same _ _ _, Obl.make w _ _, rfl, hP.later.size⟩)
        | 15, _ =>
          obtain rfl := Option.some.inj (show some _ = some o from ho)
          refine ⟨rfl, fun K hK => ?_⟩
          obtain ⟨g, cells, hx1, hO, hcs, hg⟩ := hF 14 (hall ⟨14, .data⟩ (by simp) rfl)
          obtain ⟨s, kd, A5, c5, I5, hx2, hs, hown⟩ := hF 13 (hall ⟨13, .data⟩ (by simp) rfl)
          refine wp_store_row _ _ _ rfl g (nc ⟨s, kd, ⟨A5, 1, c5⟩⟩) hx1 hx2 56 cells hO nmSize hcs (nc_one _) ?_
          have hgl := hO.lt
          have hne : some g ≠ blk A5 := fun e => hO.apart hown (by decide) e
          have hm := hP.ob.lt
          refine hK _ _ ⟨x, rfl, ⟨hP.ob.row_other (by omega) _, (show NmOutE wr.drew (m + 1) A n c l F from ⟨M.out.own, M.out.short, M.out.base_le, M.out.has⟩).keep (fun g' h1 h2 => (setRow_other w g _ (by have : g' < wr.heap.size := h2; omega)).trans (hP.later.block g' h2 (by omega))) (by have := hP.later.size; simpa [World.setRow] using this), hP.res.row_other (by omega) _, hP.dice.row_other (by omega) (by have := hP.dice.le; omega) _, hP.bel.rowGe (by omega) _, hP.later.rowGe hg _⟩, fun _ => ⟨⟨g, s, kd, A5, c5, I5, hx1, hO.row_same _, hs, ?_, hg⟩, ?_⟩, fun h => by rw [also_same] at h; cases h⟩
          · exact hown.kept (row := some g) ⟨rfl, rfl, rfl, by simp [World.setRow], fun k _ hk => setRow_other w g _ (fun e => hk (by rw [e]))⟩ (.inr (by rw [ownBlock_slice]; exact fun e => hne e.symm))
          · intro j hj
            have hd : dn j = true := by
              match j, hj with
              | 0, _ => exact hall ⟨0, .phase⟩ (by simp) rfl
              | 1, _ => exact hall ⟨1, .phase⟩ (by simp) rfl
              | 2, _ => exact hall ⟨2, .phase⟩ (by simp) rfl
              | 3, _ => exact hall ⟨3, .phase⟩ (by simp) rfl
              | 4, _ => exact hall ⟨4, .phase⟩ (by simp) rfl
              | 5, _ => exact hall ⟨5, .phase⟩ (by simp) rfl
              | 6, _ => exact hall ⟨6, .phase⟩ (by simp) rfl
              | 7, _ => exact hall ⟨7, .phase⟩ (by simp) rfl
              | 8, _ => exact hall ⟨8, .phase⟩ (by simp) rfl
              | 9, _ => exact hall ⟨9, .phase⟩ (by simp) rfl
              | 10, _ => exact hall ⟨10, .phase⟩ (by simp) rfl
              | 11, _ => exact hall ⟨11, .phase⟩ (by simp) rfl
              | 12, _ => exact hall ⟨12, .phase⟩ (by simp) rfl
              | 13, _ => exact hall ⟨13, .phase⟩ (by simp) rfl
              | 14, _ => exact hall ⟨14, .phase⟩ (by simp) rfl
            unfold also
            split
            · rfl
            · exact hd
      case fin =>
        intro dn a w hI hall
        obtain ⟨x, rfl, hP, h15t, h15f⟩ := hI
        obtain ⟨⟨g, s, kd, A5, c5, I5, hx, hON, hs, hown, hg⟩, _⟩ := h15t (hall 15 (by decide))
        clear hall h15f
        dsimp only
        rw [hx]
        generalize x 0 = y0
        generalize x 1 = y1
        generalize x 2 = y2
        generalize x 3 = y3
        generalize x 4 = y4
        generalize x 5 = y5
        generalize x 6 = y6
        generalize x 7 = y7
        generalize x 8 = y8
        generalize x 9 = y9
        generalize x 10 = y10
        generalize x 11 = y11
        generalize x 12 = y12
        generalize x 13 = y13
        clear hx h15t x
        have hgW : m < g := by have : m < wr.heap.size := hml; omega
        have k1 : w.cell? ⟨g, 1, none⟩ = some (.int .i64 kd) := hON.cell 1
        have k2 : w.cell? ⟨g, 2, none⟩ = some (.slice A5 1 c5) := hON.cell 2
        have HO := hide hP.ob
        have HR := hide hP.res
        have HDw := hide hP.dice
        have HBw := hide hP.bel
        have HLw := hide hP.later
        have HZ := hide (show NmOutE wr.drew (m + 1) A n c l F from ⟨M.out.own, M.out.short, M.out.base_le, M.out.has⟩)
        have hzs : wr.drew.heap.size = wr.heap.size := rfl
        have hzg : wr.drew.heap.size ≤ g := hg
        have hmz : m < wr.drew.heap.size := hml
        have hbz : b < wr.drew.heap.size := by omega
        have hsz := hP.later.size
        clear hP O M OR HD HB
        generalize wr.drew = w0 at *
        by_cases hkd : kd = 2
        focus
          subst hkd
          go_wp2_with fail
          refine region_D (by kernel_rfl) w.drew.heap.size b [5, 7] ?_
          replace hON : Obl w.drew g 56 (nc ⟨s, 2, ⟨A5, 1, c5⟩⟩) := hON
          replace hown : w.drew.ownsRow wr.heap.size 22 1 (.slice A5 1 c5) 1 (nv .u64 I5) := hown
          replace k2 : w.drew.cell? ⟨g, 2, none⟩ = some (.slice A5 1 c5) := k2
          replace HO : Hid (Obl w.drew m 41 (oc ({ Ob.zero with id := 1, kind := 10, names := ⟨A, n, c⟩ }))) := HO
          replace HR : Hid (Obl w.drew W.heap.size 41 (oc Ob.zero)) := HR
          replace HDw : Hid (Dice w.drew C b) := HDw
          replace HBw : Hid (Bel W.heap.size b W w.drew) := hide ⟨HBw.out.os, HBw.out.tape, HBw.out.output, HBw.out.size, HBw.out.block⟩
          replace HLw : Hid (Bel wr.heap.size b w0 w.drew) := hide ⟨HLw.out.os, HLw.out.tape, HLw.out.output, HLw.out.size, HLw.out.block⟩
          replace hsz : w0.heap.size ≤ w.drew.heap.size := hsz
          have hgl : g < w.drew.heap.size := hON.lt
          clear k1
          generalize w.drew = u0 at *
          refine takeDX 0 rfl (by kernel_rfl) (fun _ _ _ h => h) (by rfl) (by intro w'; go_simp; try with_reducible rfl) ?_
          refine takeD 1 [1, 5, 6, 7] rfl (by kernel_rfl) (fun _ _ _ h => h) (by rfl) (by intro w' hq; have g0 := (hq.cell (p := ⟨g, 2, none⟩) (by show g < _; exact hgl) (by show g ≠ b; omega)).trans k2; go_simp; try with_reducible rfl) ?_
          refine takeDX 2 rfl (by kernel_rfl) (fun _ _ _ h => h) (by rfl) (by intro w'; go_simp; try with_reducible rfl) ?_
          refine onlyD 3 rfl (by kernel_rfl) (by rfl) ?_
          intro K hK
          go_simp
          refine (id_dice C b _ HDw.out).mono ?_
          rintro e u1 ⟨v, rfl, hD, hB⟩
          have ON1 := hB.obl' hON (by omega)
          have own1 := own_keep hown (keep_bel hB (by omega))
          have HO1 := hide (hB.obl' HO.out (by omega))
          have HR1 := hide (hB.obl' HR.out (by omega))
          have HD1 := hide hD
          have HB1 := hide (HBw.out.trans (hB.mono HBw.out.size))
          have HL1 := hide (HLw.out.trans (hB.mono (by rw [← hzs]; exact hsz)))
          have hs1 : u0.heap.size ≤ u1.heap.size := hB.size
          refine hK _ _ (fun _ => hB) ?_
          clear hK K hD hB hON hown HO HR HDw HBw HLw k2
          refine onlyD 4 rfl (by kernel_rfl) (by rfl) ?_
          intro K hK
          go_simp
          refine hK _ _ (fun _ => Bel.of ((Below.refl _ _).alloc hs1 _)) ?_
          clear hK K
          have ON2 := ON1.alloc (.cells #[.int .u64 v] 22)
          have own2 := own1.alloc (.cells #[.int .u64 v] 22)
          have HO2 := hide (HO1.out.alloc (.cells #[.int .u64 v] 22))
          have HR2 := hide (HR1.out.alloc (.cells #[.int .u64 v] 22))
          have HD2 := hide (HD1.out.alloc (.cells #[.int .u64 v] 22))
          have HB2 := hide (HB1.out.trans (Bel.of (b := b) ((Below.refl W.heap.size u1).alloc HB1.out.size (.cells #[.int .u64 v] 22))))
          have HL2 := hide (HL1.out.trans (Bel.of (b := b) ((Below.refl wr.heap.size u1).alloc (by omega) (.cells #[.int .u64 v] 22))))
          have hbs : wr.heap.size ≤ (u1.alloc (.cells #[.int .u64 v] 22)).heap.size := by simp; omega
          refine onlyD 5 rfl (by kernel_rfl) (by rfl) ?_
          intro K hK
          refine wp_append_rd (.tmp 33) (.tmp 36) _ rfl idTy (A := A5) (n := 1) (c := c5) (base := wr.heap.size) rfl own2 (B := u1.heap.size + 1) (S := some ⟨u1.heap.size, 0, none⟩) (m := 1) (d := 1) (news := [.int .u64 v]) rfl (Row.new u1 _ _) (by simp [Value.oneCell']) (by unfold maxLen; omega) (by omega) hbs ?_
          intro A6 c6 u3 hown3 hg3 hat3
          have ON3 := ON2.grown hg3 (ON2.apart own2 (by decide))
          have HO3 := hide (HO2.out.grown hg3 (fun e => by have := (own2.lt m (by rw [ownBlock_slice]; exact e.symm)).1; omega))
          have HR3 := hide (HR2.out.grown hg3 (fun e => by have := (own2.lt W.heap.size (by rw [ownBlock_slice]; exact e.symm)).1; omega))
          have HD3 := hide (HD2.out.grown hg3 (fun e => by have := (own2.lt b (by rw [ownBlock_slice]; exact e.symm)).1; omega) (fun j hj => by have := (own2.lt j (by rw [ownBlock_slice]; exact hj)).1; omega))
          have HB3 := hide (HB2.out.trans (Bel.of (b := b) ((below_own (Below.refl wr.heap.size _) own2 hg3 hbs).mono (by omega))))
          have HL3 := hide (HL2.out.trans (Bel.of (b := b) (below_own (Below.refl wr.heap.size _) own2 hg3 hbs)))
          rw [nv_snoc] at hown3
          have hne3 : blk A6 ≠ some g := by
            rcases hat3 with h | h
            · rw [h]; exact fun e => ON2.apart own2 (by decide) e.symm
            · rw [h]; intro e; have := Option.some.inj e; simp at this; omega
          have k3 : u3.cell? ⟨g, 2, none⟩ = some (.slice A5 1 c5) := ON3.cell 2
          have z3 := ON3.free 2
          have ON4 : Obl (u3.setCell ⟨g, 2, none⟩ (.slice A6 (1 + 1) c6)) g 56 (nc ⟨s, 2, ⟨A6, 1 + 1, c6⟩⟩) := ON3.put 2 _
          have own4 := own_put_other (b := g) (i := 2) hown3 (by rw [ownBlock_slice]; exact hne3) (.slice A6 (1 + 1) c6)
          have HO4 := hide (HO3.out.put_other (b' := g) (by omega) 2 (.slice A6 (1 + 1) c6))
          have HR4 := hide (HR3.out.put_other (b' := g) (by omega) 2 (.slice A6 (1 + 1) c6))
          have HD4 := hide (HD3.out.put_other (g := g) (by omega) (by omega) 2 (.slice A6 (1 + 1) c6))
          have HB4 := hide (HB3.out.setGe (g := g) (by omega) 2 (.slice A6 (1 + 1) c6))
          have HL4 := hide (HL3.out.setGe (g := g) (by omega) 2 (.slice A6 (1 + 1) c6))
          clear HO3 HR3 HD3 HB3 HL3 hown3 ON3 hat3 HO2 HR2 HD2 HB2 HL2 ON2 HO1 HR1 HD1 HB1 HL1 ON1 hg3 hne3
          refine hK _ _ (fun h => by cases h) ?_
          clear hK K
          refine takeDX 6 rfl (by kernel_rfl) (fun _ _ _ h => h) (by rfl) (by intro w'; go_simp; try with_reducible rfl) ?_
          refine onlyD 7 rfl (by kernel_rfl) (by rfl) ?_
          intro K hK
          go_simp
          refine hK _ _ (fun h => by cases h) ?_
          clear hK K
          refine doneD (by kernel_rfl) ?_
          generalize u3.setCell ⟨g, 2, none⟩ (.slice A6 (1 + 1) c6) = w4 at *
          clear hs1 own1 own2 k3 z3 hbs
          have hown : w4.ownsRow wr.heap.size 22 1 (.slice A6 2 c6) 2 (nv .u64 (I5 ++ [v])) := own4
          have hON : Obl w4 g 56 (nc ⟨s, 2, ⟨A6, 2, c6⟩⟩) := ON4
          have HO := HO4
          have HR := HR4
          have HDw := HD4
          have HBw := HB4
          have HLw := HL4
          clear own4 ON4 HO4 HR4 HD4 HB4 HL4
          go_wp2_with (first | (refine load_ob rfl _ rfl rfl HO.out ?_) | (refine load_nm rfl _ rfl rfl hON ?_) | fail)
        rotate_left 1
        focus
          have kd' : (kd == 2) = false := by simpa using hkd
          go_wp2_with (first | (refine load_ob rfl _ rfl rfl HO.out ?_) | (refine load_nm rfl _ rfl rfl hON ?_) | fail)
        all_goals
          have hmu := HO.out.lt
          have hNO := hide (HZ.out.keep (fun g' h1 h2 => HLw.out.block g' (by omega) (by omega)) HLw.out.size)
          have hid := hide (Nums.of_own hown)
          refine (refAdd_any { Ob.zero with id := 1, kind := 10, names := ⟨A, n, c⟩ } ⟨s, _, ⟨_, _, _⟩⟩ l F _ _ hNO.out.ents hNO.out.short (by show n ≤ 1000; omega) ⟨hs.1, by simp⟩ hid.out).mono ?_
          rintro e w7 hpost
          have hRl := HR.out.lt
          rcases hpost.known with ⟨A7, n7, c7, l7, rfl, hn7, hM, hb7, hsp7, hmem7⟩ | ⟨r, hr, rfl, hb7⟩
          · obtain ⟨w8, hw8, y, hy, w9, hw9, OZ, OY, hb9, hs9⟩ := laid_ob { Ob.zero with id := 1, kind := 10, names := ⟨A7, n7, c7⟩ } w7
            have hms := hb7.size
            have HO7 := HO.out.below hb7 hmu
            have HR7 := HR.out.below hb7 hRl
            have HO9 := hide (HO7.below hb9 HO7.lt)
            have HR9 := hide (HR7.below hb9 HR7.lt)
            have HD9 := hide ((HDw.out.below hb7).below hb9)
            have HB9 := hide (HBw.out.trans (Bel.of (b := b) ((hb7.trans (hb9.mono hb7.size)).mono HBw.out.size)))
            have HM9 := hide ((hM.keep (keep_below hb9) hb9.size).weaken (base' := m + 1) (by omega))
            have hkn7 : ∀ y ∈ Nx.insertL F _, y.path ∈ pathsL := fun y hy => by
              rcases hmem7 y hy with rfl | h
              · exact hs.2
              · exact HSP.out.2 y h
            have HSP7 := hide (And.intro hsp7 hkn7)
            clear hM hsp7 hmem7 hkn7 hpost
            clear HO7 HR7 hb7 hb9 hNO hid hown hON HO HR HDw HBw HLw HZ
            go_wp2_with (first | (refine store_ob rfl _ _ rfl rfl (c := { Ob.zero with id := 1, kind := 10, names := ⟨A7, n7, c7⟩ }) rfl OZ rfl ?_; rw [hw9]) | (refine load_ob rfl _ rfl rfl OY ?_) | (refine store_ob rfl _ _ rfl rfl (c := { Ob.zero with id := 1, kind := 10, names := ⟨A7, n7, c7⟩ }) rfl HO9.out rfl ?_) | fail)
            go_roundw
            case rel =>
              have hp : 2 ^ (5 - (k - 1)) = 2 * 2 ^ (5 - k) := by rw [show 5 - (k - 1) = (5 - k) + 1 by omega, Nat.pow_succ]; omega
              refine ⟨k - 1, n7, c7, A7, l7, _, by congr 1; omega, by omega, ?_, HO9.out.row_same _, hide (HM9.out.keep (keep_row (m := m) (by omega) _) (by simp [World.setRow])), HSP7, hide (HR9.out.row_other (by omega) _), hide (HD9.out.row_other (by omega) (by omega) _), hide (HB9.out.rowGe (by omega) _)⟩
              rw [hp]
              have hn7' : n7 ≤ 2 * n + 1 := hn7
              omega
            case measure => show ((k : Int) - 1).toNat < (k : Int).toNat; omega
          · have hr' : (r == 0) = false := by simpa using hr
            obtain ⟨w8, hw8, y, hy, w9, hw9, OZ, OY, hb9, hs9⟩ := laid_ob Ob.zero w7
            have hms := hb7.size
            have HO7 := HO.out.below hb7 hmu
            have HR7 := HR.out.below hb7 hRl
            have HO9 := hide (HO7.below hb9 HO7.lt)
            have HR9 := hide (HR7.below hb9 HR7.lt)
            have HD9 := hide ((HDw.out.below hb7).below hb9)
            have HB9 := hide (HBw.out.trans (Bel.of (b := b) ((hb7.trans (hb9.mono hb7.size)).mono HBw.out.size)))
            have HM9 := hide ((hNO.out.keep (keep_below hb7) hb7.size).keep (keep_below hb9) hb9.size)
            clear HO7 HR7 hb7 hb9 hNO hid hown hON HO HR HDw HBw HLw HZ
            go_wp2_with (first | (refine store_ob rfl _ _ rfl rfl (c := Ob.zero) rfl OZ rfl ?_; rw [hw9]) | fail)
            go_roundw
            case rel =>
              have hp : 2 ^ (5 - (k - 1)) = 2 * 2 ^ (5 - k) := by rw [show 5 - (k - 1) = (5 - k) + 1 by omega, Nat.pow_succ]; omega
              refine ⟨k - 1, n, c, A, l, F, by congr 1; omega, by omega, by rw [hp]; omega, HO9.out, HM9, HSP, HR9, HD9, HB9⟩
            case measure => show ((k : Int) - 1).toNat < (k : Int).toNat; omega
    · obtain rfl : k = 0 := by omega
      have OR' := OR.out
      go_wp2_with (first | (refine load_ob rfl _ rfl rfl O ?_) | (refine store_ob rfl _ _ rfl rfl (c := { Ob.zero with id := 1, kind := 10, names := ⟨A, n, c⟩ }) rfl OR' rfl ?_) | fail)
      refine bodyPost_ret (ret_ob rfl _ rfl (OR'.row_same _)) rfl ?_
      exact ⟨A, n, c, l, F, rfl, by omega, (M.out.keep (keep_row (m := W.heap.size) (by omega) _) (by simp [World.setRow])).weaken (by omega), HSP.out.1, HSP.out.2, HD.out.row_other (by omega) (by omega) _, HB.out.rowGe (Nat.le_refl _) _⟩
theorem names_dice (C b : Nat) (W : World) (h : Dice W C b) : Calls Try.prog 27 #[.pointer (some ⟨b, 0, none⟩)] W (ObThrown C b W) :=
  (names_thrown C b W h).mono fun _ _ ⟨_, _, _, l, _, he, hn, hM, _, _, hD, hB⟩ => ⟨_, he, ⟨⟨[], own_nil⟩, ⟨[], own_nil⟩, ⟨[], own_nil⟩, ⟨[], own_nil⟩, ⟨[], own_nil⟩, ⟨l, hM.own, hM.short, by have := own_nmv hM.own.1; omega⟩, noProc_zero, by simp [Ob.Fit, Ob.Small, Ob.zero]⟩, hD, hB⟩
end Go.Proofs.Ytddbohnappogkaa
