/- Layer 2, the reader of a line: contracts of its methods. -/
import Derived.Test.YtfjekckcpkkdiaaGreatDoorWordsMem
import Derived.Test.YtfjekckcpkkdiaaGreatDoorShelf
import Derived.RegionTactic
import Derived.Deep.RegionLaw
namespace Go.Proofs.YtfjekckcpkkdiaaGreatDoor
open Go.RowKit



set_option maxHeartbeats 400000 in
theorem isPlain_any (c : UInt8) (w : World) : Calls Tryz.prog 95 #[.int .u8 (c.toNat : Int)] w fun e w' => e = .returned (.bool (Wd.plain c)) ∧ w = w' := by
  unfold Wd.plain
  have hc := c.toNat_lt
  generalize c.toNat = x at *
  by_cases h1 : 33 ≤ x
  · by_cases h2 : x ≤ 126
    · by_cases h3 : x = 34
      · subst h3
        go_enter Tryz.func95, Tryz.ntmps95
        go_wp2
        go_ret
        exact ⟨rfl, rfl⟩
      · have e3 : ((x : Int) == 34) = false := by simp; omega
        have e3' : ((x : Int) != 34) = true := by simp; omega
        by_cases h4 : x = 92
        · subst h4
          go_enter Tryz.func95, Tryz.ntmps95
          go_wp2
          go_ret
          exact ⟨rfl, rfl⟩
        · have e4 : ((x : Int) == 92) = false := by simp; omega
          have e4' : ((x : Int) != 92) = true := by simp; omega
          go_enter Tryz.func95, Tryz.ntmps95
          go_wp2
          go_ret
          exact ⟨by simp [h1, h2, h3, h4], rfl⟩
    · go_enter Tryz.func95, Tryz.ntmps95
      go_wp2
      go_ret
      exact ⟨by simp, rfl⟩
  · go_enter Tryz.func95, Tryz.ntmps95
    go_wp2
    go_ret
    exact ⟨by simp, rfl⟩

set_option maxHeartbeats 400000 in
theorem keep_any (b base st : Nat) (wd : List UInt8) (ws : List (List UInt8)) (c : UInt8) (after : Nat) (w : World) (hr : RdrE w base b st wd ws) (hl : wd.length ≤ 1099511627776) :
    Calls Tryz.prog 106 #[.pointer (some ⟨b, 0, none⟩), .int .u8 (c.toNat : Int), .int .i64 (after : Int)] w fun e w' => e = .returned (.int .i64 (after : Int)) ∧ RdrE w' base b st (wd ++ [c]) ws ∧ Below base w w' := by
  obtain ⟨A, n, c0, A2, n2, c2, h⟩ := hr
  have hn := own_bytes h.2.2.1
  have hlt := h.1.lt
  have hbb := h.2.1
  have k1 : w.cell? ⟨b, 1, none⟩ = some (.slice A n c0) := h.1.cell 1
  have hn' : n ≤ 1099511627776 := by omega
  clear hn
  go_enter Tryz.func106, Tryz.ntmps106
  go_wp2_with (at_builtin; go_loud (refine wpList_append_rd rfl (.tmp 11) (.tmp 13) _ rfl byteTy rfl (h.2.2.1.alloc _) rfl (Row.new _ _ _) (by simp [Value.oneCell']) (by unfold maxLen; omega) (by omega) (by simp; omega) ?_; intro A3 c3 w3 hown3 hgrow3 hat3; have hO := (h.1.alloc _).grown hgrow3 (h.1.apart h.2.2.1 (by decide)); have f1 := hO.free 1; have k1' : w3.cell? ⟨b, 1, none⟩ = some (.slice A n c0) := hO.cell 1))
  go_ret
  rw [bv_snoc_u8] at hown3
  have hb3 : Below base w w3 := below_own ((Below.refl _ _).alloc h.base_le _) (h.2.2.1.alloc _) hgrow3 (by simp; omega)
  exact ⟨rfl, ⟨_, _, _, _, _, _, (h.alloc _).setWord hgrow3 hown3⟩, hb3.setCell hbb _⟩

set_option maxHeartbeats 400000 in
theorem endWord_any (b base st : Nat) (wd : List UInt8) (ws : List (List UInt8)) (w : World) (hr : RdrE w base b st wd ws) (hl : wd.length ≤ 1099511627776) (hl2 : ws.length ≤ 1048576) :
    Calls Tryz.prog 91 #[.pointer (some ⟨b, 0, none⟩)] w fun e w' => e = .returned (.tuple #[]) ∧ RdrE w' base b st [] (ws ++ [wd]) ∧ Below base w w' := by
  obtain ⟨A, n, c0, A2, n2, c2, h⟩ := hr
  have hn := own_bytes h.2.2.1
  have hn2 := own_strs h.2.2.2
  have hlt := h.1.lt
  have hbb := h.2.1
  have k1 : w.cell? ⟨b, 1, none⟩ = some (.slice A n c0) := h.1.cell 1
  have k2 : w.cell? ⟨b, 2, none⟩ = some (.slice A2 n2 c2) := h.1.cell 2
  have hn' : n ≤ 1099511627776 := by omega
  have hn2' : n2 ≤ 1048576 := by omega
  clear hn hn2
  have ap2 := h.1.apart h.2.2.2 (by decide)
  have hconv := run_string_rd (P := Tryz.prog) w.drew Tryz.underlying26 Tryz.underlying5 Tryz.underlying9 (c := c0) (Bytes.of_own h.2.2.1)
  go_enter Tryz.func91, Tryz.ntmps91
  go_wp2_with fail
  go_region_law (refine step_plain rfl (wp_append_rd (.tmp 6) (.tmp 12) _ rfl strTy (A := A2) (n := n2) (c := c2) (xs := sv ws) (base := base) (B := w.heap.size + 1) (S := some ⟨w.heap.size, 0, none⟩) (m := 1) (d := 1) (news := [.string ⟨wd.toArray⟩]) ?_ ?_ ?_ ?_ ?_ ?_ ?_ ?_ ?_); (· simp [Act.eval]); (· exact h.2.2.2.alloc _); (· simp [Act.eval]); (· exact Row.new _ _ _); (· simp [Value.oneCell']); (· unfold maxLen; omega); (· omega); (· simp; omega); intro A3 c3 w3 hown3 hgrow3 hat3; rw [sv_snoc] at hown3; have hO := Obl.grown (h.1.alloc _).drew hgrow3 ap2; have f2 := hO.free 2; have k2' : w3.cell? ⟨b, 2, none⟩ = some (.slice A2 n2 c2) := hO.cell 2; have hR := (h.alloc (.cells #[.string ⟨wd.toArray⟩] 9)).drew.setWords hgrow3 hown3; have kw : (w3.setCell ⟨b, 2, none⟩ (.slice A3 (n2 + 1) c3)).cell? ⟨b, 1, none⟩ = some (.slice A n c0) := hR.1.cell 1; have fw := hR.1.free 1; have hb3 : Below base w w3 := below_own ((Below.refl _ _).alloc h.base_le _).drew (h.2.2.2.alloc _).drew hgrow3 (by simp; omega); have Hb := hide hb3; have HR := hide hR; clear hR hb3 hO)
  all_goals
    go_wp2
    go_end0
    have hR := HR.out
    exact ⟨rfl, ⟨_, _, _, _, _, _, hR.setWord (World.grownBy.refl _ _) (wd' := []) (own_cut0 hR.2.2.1)⟩, (Hb.out.setCell hbb _).setCell hbb _⟩

/-- What a method that takes a byte leaves: the next state as its result, the word and the words in the reader. -/
def NextPost (base b st : Nat) (r : (Nat × List UInt8 × List (List UInt8))) (w : World) (e : Ending) (w' : World) : Prop := e = .returned (.int .i64 (r.1 : Int)) ∧ RdrE w' base b st r.2.1 r.2.2 ∧ Below base w w'
theorem NextPost.of {base b st : Nat} {r r' : Nat × List UInt8 × List (List UInt8)} {w w' : World} {e : Ending} (hn : r = r') (he : e = .returned (.int .i64 (r'.1 : Int))) (hr : RdrE w' base b st r'.2.1 r'.2.2) (hb : Below base w w') : NextPost base b st r w e w' := by
  subst hn; exact ⟨he, hr, hb⟩

theorem separate_any (b base st : Nat) (wd : List UInt8) (ws : List (List UInt8)) (c : UInt8) (w : World) (hr : RdrE w base b st wd ws) (hl : wd.length ≤ 1099511627776) (hl2 : ws.length ≤ 1048576) :
    Calls Tryz.prog 90 #[.pointer (some ⟨b, 0, none⟩), .int .u8 (c.toNat : Int)] w (NextPost base b st (if c.toNat = 32 then (1, [], ws ++ [wd]) else (6, wd, ws)) w) := by
  by_cases h : c.toNat = 32
  · rw [if_pos h]
    have e1 : ((c.toNat : Int) != 32) = false := by simp; omega
    have hc : (c.toNat : Int) = 32 := by omega
    have Hc := hide hc
    clear h hc
    go_enter Tryz.func90, Tryz.ntmps90
    go_wp2_with fail
    refine (endWord_any b base st wd ws _ hr hl hl2).mono ?_
    rintro e w1 ⟨rfl, hr1, hb1⟩
    go_wp2
    go_ret
    exact NextPost.of rfl rfl hr1 hb1
  · rw [if_neg h]
    have e1 : ((c.toNat : Int) != 32) = true := by simp; omega
    go_enter Tryz.func90, Tryz.ntmps90
    go_wp2
    go_ret
    exact NextPost.of rfl rfl hr (Below.refl _ _)

theorem ix4 (a b d f c : UInt8) (h1 : c ≠ a) (h2 : c ≠ b) (h3 : c ≠ d) (h4 : c ≠ f) : Lib.indexByte [a, b, d, f] c = -1 := by
  have k : ∀ x : UInt8, c ≠ x → (x == c) = false := fun x h => by simpa using fun e => h e.symm
  simp [Lib.indexByte, k a h1, k b h2, k d h3, k f h4]
theorem index_any (s : List UInt8) (c : UInt8) (w : World) : Calls Tryz.prog 96 #[.string ⟨s.toArray⟩, .int .u8 (c.toNat : Int)] w fun e w' => e = .returned (.int .i64 (Lib.indexByte s c)) ∧ w = w' := by
  refine (Tryz.strings_IndexByte ⟨s.toArray⟩ (c.toNat : Int) w).mono ?_
  rintro e w' ⟨rfl, rfl⟩
  have : ((c.toNat : Int)).toNat.toUInt8 = c := by rw [Int.toNat_natCast]; exact UInt8.ofNat_toNat
  rw [this]
  exact ⟨rfl, rfl⟩

set_option maxHeartbeats 400000 in
theorem beginWord_any (b base st : Nat) (wd : List UInt8) (ws : List (List UInt8)) (c : UInt8) (w : World) (hr : RdrE w base b st wd ws) (hl : wd.length ≤ 1099511627776) (_hl2 : ws.length ≤ 1048576) (hs : st ≤ 1) :
    Calls Tryz.prog 86 #[.pointer (some ⟨b, 0, none⟩), .int .u8 (c.toNat : Int)] w (NextPost base b st (Wd.next (st, wd, ws) c) w) := by
  have hn : Wd.next (st, wd, ws) c = if c.toNat = 34 then (3, wd, ws) else if Wd.plain c then (2, wd ++ [c], ws) else (6, wd, ws) := by unfold Wd.next; exact if_pos hs
  rw [hn]
  clear hn
  by_cases h1 : c = 34
  · subst h1
    rw [if_pos (by decide)]
    go_enter Tryz.func86, Tryz.ntmps86
    go_wp2
    go_ret
    exact NextPost.of rfl rfl hr (Below.refl _ _)
  · have n1 := ne_nat h1
    rw [if_neg (by simpa using n1)]
    have e1 : ((c.toNat : Int) == 34) = false := by
      have : c.toNat ≠ 34 := n1
      simp; omega
    cases hp : Wd.plain c with
    | true =>
      rw [if_pos rfl]
      have Hp := hide hp
      clear hp h1 n1
      go_enter Tryz.func86, Tryz.ntmps86
      go_wp2_with fail
      refine (isPlain_any c _).mono ?_
      rintro e w1 ⟨rfl, rfl⟩
      rw [Hp.out]
      go_wp2_with fail
      refine (keep_any b base st wd ws c 2 _ hr hl).mono ?_
      rintro e w1 ⟨rfl, hr1, hb1⟩
      go_wp2
      go_ret
      exact NextPost.of rfl rfl hr1 hb1
    | false =>
      rw [if_neg (by simp)]
      have Hp := hide hp
      clear hp h1 n1
      go_enter Tryz.func86, Tryz.ntmps86
      go_wp2_with fail
      refine (isPlain_any c _).mono ?_
      rintro e w1 ⟨rfl, rfl⟩
      rw [Hp.out]
      go_wp2
      go_ret
      exact NextPost.of rfl rfl hr (Below.refl _ _)

set_option maxHeartbeats 400000 in
theorem readPlain_any (b base st : Nat) (wd : List UInt8) (ws : List (List UInt8)) (c : UInt8) (w : World) (hr : RdrE w base b st wd ws) (hl : wd.length ≤ 1099511627776) (hl2 : ws.length ≤ 1048576) (hs : st = 2) :
    Calls Tryz.prog 87 #[.pointer (some ⟨b, 0, none⟩), .int .u8 (c.toNat : Int)] w (NextPost base b st (Wd.next (st, wd, ws) c) w) := by
  subst hs
  have hn : Wd.next (2, wd, ws) c = if Wd.plain c then (2, wd ++ [c], ws) else if c.toNat = 32 then (1, [], ws ++ [wd]) else (6, wd, ws) := rfl
  rw [hn]
  cases hp : Wd.plain c with
  | true =>
    rw [if_pos rfl]
    have Hp := hide hp
    clear hp hn
    go_enter Tryz.func87, Tryz.ntmps87
    go_wp2_with fail
    refine (isPlain_any c _).mono ?_
    rintro e w1 ⟨rfl, rfl⟩
    rw [Hp.out]
    go_wp2_with fail
    refine (keep_any b base 2 wd ws c 2 _ hr hl).mono ?_
    rintro e w1 ⟨rfl, hr1, hb1⟩
    go_wp2
    go_ret
    exact NextPost.of rfl rfl hr1 hb1
  | false =>
    rw [if_neg (by simp)]
    have Hp := hide hp
    have hs := separate_any b base 2 wd ws c w hr hl hl2
    clear hp hn
    generalize (if c.toNat = 32 then (1, [], ws ++ [wd]) else (6, wd, ws) : (Nat × List UInt8 × List (List UInt8))) = r at hs ⊢
    go_enter Tryz.func87, Tryz.ntmps87
    go_wp2_with fail
    refine (isPlain_any c _).mono ?_
    rintro e w1 ⟨rfl, rfl⟩
    rw [Hp.out]
    go_wp2_with fail
    refine hs.mono ?_
    rintro e w1 ⟨rfl, hr1, hb1⟩
    go_wp2
    go_ret
    exact ⟨rfl, hr1, hb1⟩

set_option maxHeartbeats 400000 in
theorem readQuoted_any (b base st : Nat) (wd : List UInt8) (ws : List (List UInt8)) (c : UInt8) (w : World) (hr : RdrE w base b st wd ws) (hl : wd.length ≤ 1099511627776) (_hl2 : ws.length ≤ 1048576) (hs : st = 3) :
    Calls Tryz.prog 88 #[.pointer (some ⟨b, 0, none⟩), .int .u8 (c.toNat : Int)] w (NextPost base b st (Wd.next (st, wd, ws) c) w) := by
  subst hs
  have hn : Wd.next (3, wd, ws) c = if c.toNat = 34 then (5, wd, ws) else if c.toNat = 92 then (4, wd, ws) else if c.toNat = 10 ∨ c.toNat = 13 then (6, wd, ws) else (3, wd ++ [c], ws) := rfl
  rw [hn]
  clear hn
  by_cases h1 : c = 34
  · subst h1
    go_enter Tryz.func88, Tryz.ntmps88
    go_wp2
    go_ret
    exact NextPost.of rfl rfl hr (Below.refl _ _)
  · by_cases h2 : c = 92
    · subst h2
      go_enter Tryz.func88, Tryz.ntmps88
      go_wp2
      go_ret
      exact NextPost.of rfl rfl hr (Below.refl _ _)
    · by_cases h3 : c = 10
      · subst h3
        go_enter Tryz.func88, Tryz.ntmps88
        go_wp2_with fail
        refine (index_any [34, 92, 10, 13] 10 _).mono ?_
        rintro e w1 ⟨rfl, rfl⟩
        rw [show Lib.indexByte [34, 92, 10, 13] 10 = 2 by decide]
        go_wp2
        go_ret
        exact NextPost.of rfl rfl hr (Below.refl _ _)
      · by_cases h4 : c = 13
        · subst h4
          go_enter Tryz.func88, Tryz.ntmps88
          go_wp2_with fail
          refine (index_any [34, 92, 10, 13] 13 _).mono ?_
          rintro e w1 ⟨rfl, rfl⟩
          rw [show Lib.indexByte [34, 92, 10, 13] 13 = 3 by decide]
          go_wp2
          go_ret
          exact NextPost.of rfl rfl hr (Below.refl _ _)
        · have n1 : c.toNat ≠ 34 := ne_nat h1
          have n2 : c.toNat ≠ 92 := ne_nat h2
          have n3 : c.toNat ≠ 10 := ne_nat h3
          have n4 : c.toNat ≠ 13 := ne_nat h4
          rw [if_neg n1, if_neg n2, if_neg (by omega)]
          have e1 : ((c.toNat : Int) == 34) = false := by simp; omega
          have e2 : ((c.toNat : Int) == 92) = false := by simp; omega
          have Hix := hide (ix4 34 92 10 13 c h1 h2 h3 h4)
          clear n1 n2 n3 n4 h1 h2 h3 h4
          go_enter Tryz.func88, Tryz.ntmps88
          go_wp2_with fail
          refine (index_any [34, 92, 10, 13] c _).mono ?_
          rintro e w1 ⟨rfl, rfl⟩
          rw [Hix.out]
          go_wp2_with fail
          refine (keep_any b base 3 wd ws c 3 _ hr hl).mono ?_
          rintro e w1 ⟨rfl, hr1, hb1⟩
          go_wp2
          go_ret
          exact NextPost.of rfl rfl hr1 hb1

set_option maxHeartbeats 400000 in
theorem readLetter_any (b base st : Nat) (wd : List UInt8) (ws : List (List UInt8)) (c : UInt8) (w : World) (hr : RdrE w base b st wd ws) (hl : wd.length ≤ 1099511627776) (_hl2 : ws.length ≤ 1048576) (hs : st = 4) :
    Calls Tryz.prog 89 #[.pointer (some ⟨b, 0, none⟩), .int .u8 (c.toNat : Int)] w (NextPost base b st (Wd.next (st, wd, ws) c) w) := by
  subst hs
  by_cases h1 : c = 34
  · subst h1
    rw [show Wd.next (4, wd, ws) 34 = (3, wd ++ [34], ws) from rfl]
    go_enter Tryz.func89, Tryz.ntmps89
    go_wp2_with fail
    refine (index_any [34, 92, 110, 114] 34 _).mono ?_
    rintro e w1 ⟨rfl, rfl⟩
    rw [show Lib.indexByte [34, 92, 110, 114] 34 = 0 by decide]
    go_wp2_with fail
    refine (keep_any b base 4 wd ws 34 3 _ hr hl).mono ?_
    rintro e w1 ⟨rfl, hr1, hb1⟩
    go_wp2
    go_ret
    exact NextPost.of (r' := (3, wd ++ [34], ws)) rfl rfl hr1 hb1
  · by_cases h2 : c = 92
    · subst h2
      rw [show Wd.next (4, wd, ws) 92 = (3, wd ++ [92], ws) from rfl]
      go_enter Tryz.func89, Tryz.ntmps89
      go_wp2_with fail
      refine (index_any [34, 92, 110, 114] 92 _).mono ?_
      rintro e w1 ⟨rfl, rfl⟩
      rw [show Lib.indexByte [34, 92, 110, 114] 92 = 1 by decide]
      go_wp2_with fail
      refine (keep_any b base 4 wd ws 92 3 _ hr hl).mono ?_
      rintro e w1 ⟨rfl, hr1, hb1⟩
      go_wp2
      go_ret
      exact NextPost.of (r' := (3, wd ++ [92], ws)) rfl rfl hr1 hb1
    · by_cases h3 : c = 110
      · subst h3
        rw [show Wd.next (4, wd, ws) 110 = (3, wd ++ [10], ws) from rfl]
        go_enter Tryz.func89, Tryz.ntmps89
        go_wp2_with fail
        refine (index_any [34, 92, 110, 114] 110 _).mono ?_
        rintro e w1 ⟨rfl, rfl⟩
        rw [show Lib.indexByte [34, 92, 110, 114] 110 = 2 by decide]
        go_wp2_with fail
        refine (keep_any b base 4 wd ws 10 3 _ hr hl).mono ?_
        rintro e w1 ⟨rfl, hr1, hb1⟩
        go_wp2
        go_ret
        exact NextPost.of (r' := (3, wd ++ [10], ws)) rfl rfl hr1 hb1
      · by_cases h4 : c = 114
        · subst h4
          rw [show Wd.next (4, wd, ws) 114 = (3, wd ++ [13], ws) from rfl]
          go_enter Tryz.func89, Tryz.ntmps89
          go_wp2_with fail
          refine (index_any [34, 92, 110, 114] 114 _).mono ?_
          rintro e w1 ⟨rfl, rfl⟩
          rw [show Lib.indexByte [34, 92, 110, 114] 114 = 3 by decide]
          go_wp2_with fail
          refine (keep_any b base 4 wd ws 13 3 _ hr hl).mono ?_
          rintro e w1 ⟨rfl, hr1, hb1⟩
          go_wp2
          go_ret
          exact NextPost.of (r' := (3, wd ++ [13], ws)) rfl rfl hr1 hb1
        · have hx : Wd.letter c = none := by
            have n1 : c.toNat ≠ 34 := ne_nat h1
            have n2 : c.toNat ≠ 92 := ne_nat h2
            have n3 : c.toNat ≠ 110 := ne_nat h3
            have n4 : c.toNat ≠ 114 := ne_nat h4
            unfold Wd.letter
            rw [if_neg n1, if_neg n2, if_neg n3, if_neg n4]
          have hn : Wd.next (4, wd, ws) c = (6, wd, ws) := by
            have : Wd.next (4, wd, ws) c = (match Wd.letter c with | none => (6, wd, ws) | some x => (3, wd ++ [x], ws)) := rfl
            rw [this, hx]
          rw [hn]
          clear hn
          have Hix := hide (ix4 34 92 110 114 c h1 h2 h3 h4)
          clear h1 h2 h3 h4 hx
          go_enter Tryz.func89, Tryz.ntmps89
          go_wp2_with fail
          refine (index_any [34, 92, 110, 114] c _).mono ?_
          rintro e w1 ⟨rfl, rfl⟩
          rw [Hix.out]
          go_wp2
          go_ret
          exact NextPost.of rfl rfl hr (Below.refl _ _)

/-- What a byte read leaves. -/
def ReadPost (base b : Nat) (r : (Nat × List UInt8 × List (List UInt8))) (w : World) (e : Ending) (w' : World) : Prop := e = .returned (.tuple #[]) ∧ RdrE w' base b r.1 r.2.1 r.2.2 ∧ Below base w w'

theorem next_sep (c : UInt8) (wd : List UInt8) (ws : List (List UInt8)) : Wd.next (5, wd, ws) c = if c.toNat = 32 then (1, [], ws ++ [wd]) else (6, wd, ws) := rfl
theorem next_wrong (c : UInt8) (wd : List UInt8) (ws : List (List UInt8)) : Wd.next (6, wd, ws) c = (6, wd, ws) := rfl

set_option maxHeartbeats 1000000 in
theorem read_any (b base st : Nat) (wd : List UInt8) (ws : List (List UInt8)) (c : UInt8) (w : World) (hr : RdrE w base b st wd ws) (hl : wd.length ≤ 1099511627776) (hl2 : ws.length ≤ 1048576) (hs : st ≤ 6) :
    Calls Tryz.prog 71 #[.pointer (some ⟨b, 0, none⟩), .int .u8 (c.toNat : Int)] w (ReadPost base b (Wd.next (st, wd, ws) c) w) := by
  obtain ⟨A, n, c0, A2, n2, c2, h⟩ := hr
  have k0 : w.cell? ⟨b, 0, none⟩ = some (.int .i64 (st : Int)) := h.1.cell 0
  have hbb := h.2.1
  rcases (show st = 0 ∨ st = 1 ∨ st = 2 ∨ st = 3 ∨ st = 4 ∨ st = 5 ∨ st = 6 by omega) with rfl | rfl | rfl | rfl | rfl | rfl | rfl
  · have hs := beginWord_any b base 0 wd ws c w ⟨_, _, _, _, _, _, h⟩ hl hl2 (by omega)
    generalize Wd.next (0, wd, ws) c = r at hs ⊢
    go_enter Tryz.func71, Tryz.ntmps71
    go_wp2_with fail
    refine hs.mono ?_
    rintro e w1 ⟨rfl, ⟨B, m, d, B2, m2, d2, h1⟩, hb1⟩
    have f0 := h1.1.free 0
    have k1 : w1.cell? ⟨b, 0, none⟩ = some (.int .i64 (0 : Int)) := h1.1.cell 0
    go_wp2
    go_end0
    exact ⟨rfl, ⟨_, _, _, _, _, _, h1.setState r.1⟩, hb1.setCell hbb _⟩
  · have hs := beginWord_any b base 1 wd ws c w ⟨_, _, _, _, _, _, h⟩ hl hl2 (by omega)
    generalize Wd.next (1, wd, ws) c = r at hs ⊢
    go_enter Tryz.func71, Tryz.ntmps71
    go_wp2_with fail
    refine hs.mono ?_
    rintro e w1 ⟨rfl, ⟨B, m, d, B2, m2, d2, h1⟩, hb1⟩
    have f0 := h1.1.free 0
    have k1 : w1.cell? ⟨b, 0, none⟩ = some (.int .i64 (1 : Int)) := h1.1.cell 0
    go_wp2
    go_end0
    exact ⟨rfl, ⟨_, _, _, _, _, _, h1.setState r.1⟩, hb1.setCell hbb _⟩
  · have hs := readPlain_any b base 2 wd ws c w ⟨_, _, _, _, _, _, h⟩ hl hl2 rfl
    generalize Wd.next (2, wd, ws) c = r at hs ⊢
    go_enter Tryz.func71, Tryz.ntmps71
    go_wp2_with fail
    refine hs.mono ?_
    rintro e w1 ⟨rfl, ⟨B, m, d, B2, m2, d2, h1⟩, hb1⟩
    have f0 := h1.1.free 0
    have k1 : w1.cell? ⟨b, 0, none⟩ = some (.int .i64 (2 : Int)) := h1.1.cell 0
    go_wp2
    go_end0
    exact ⟨rfl, ⟨_, _, _, _, _, _, h1.setState r.1⟩, hb1.setCell hbb _⟩
  · have hs := readQuoted_any b base 3 wd ws c w ⟨_, _, _, _, _, _, h⟩ hl hl2 rfl
    generalize Wd.next (3, wd, ws) c = r at hs ⊢
    go_enter Tryz.func71, Tryz.ntmps71
    go_wp2_with fail
    refine hs.mono ?_
    rintro e w1 ⟨rfl, ⟨B, m, d, B2, m2, d2, h1⟩, hb1⟩
    have f0 := h1.1.free 0
    have k1 : w1.cell? ⟨b, 0, none⟩ = some (.int .i64 (3 : Int)) := h1.1.cell 0
    go_wp2
    go_end0
    exact ⟨rfl, ⟨_, _, _, _, _, _, h1.setState r.1⟩, hb1.setCell hbb _⟩
  · have hs := readLetter_any b base 4 wd ws c w ⟨_, _, _, _, _, _, h⟩ hl hl2 rfl
    generalize Wd.next (4, wd, ws) c = r at hs ⊢
    go_enter Tryz.func71, Tryz.ntmps71
    go_wp2_with fail
    refine hs.mono ?_
    rintro e w1 ⟨rfl, ⟨B, m, d, B2, m2, d2, h1⟩, hb1⟩
    have f0 := h1.1.free 0
    have k1 : w1.cell? ⟨b, 0, none⟩ = some (.int .i64 (4 : Int)) := h1.1.cell 0
    go_wp2
    go_end0
    exact ⟨rfl, ⟨_, _, _, _, _, _, h1.setState r.1⟩, hb1.setCell hbb _⟩
  · have hs := separate_any b base 5 wd ws c w ⟨_, _, _, _, _, _, h⟩ hl hl2
    rw [next_sep]
    generalize (if c.toNat = 32 then (1, [], ws ++ [wd]) else (6, wd, ws) : (Nat × List UInt8 × List (List UInt8))) = r at hs ⊢
    go_enter Tryz.func71, Tryz.ntmps71
    go_wp2_with fail
    refine hs.mono ?_
    rintro e w1 ⟨rfl, ⟨B, m, d, B2, m2, d2, h1⟩, hb1⟩
    have f0 := h1.1.free 0
    have k1 : w1.cell? ⟨b, 0, none⟩ = some (.int .i64 (5 : Int)) := h1.1.cell 0
    go_wp2
    go_end0
    exact ⟨rfl, ⟨_, _, _, _, _, _, h1.setState r.1⟩, hb1.setCell hbb _⟩
  · rw [next_wrong]
    go_enter Tryz.func71, Tryz.ntmps71
    go_wp2
    go_end0
    exact ⟨rfl, ⟨_, _, _, _, _, _, h⟩, Below.refl _ _⟩

/-- What the end of a line leaves. -/
def EndPost (base b : Nat) (r : Option (List (List UInt8))) (w : World) (e : Ending) (w' : World) : Prop := Below base w w' ∧ match r with
  | none => e = .returned (.bool false)
  | some l => e = .returned (.bool true) ∧ ∃ st wd, RdrE w' base b st wd l

set_option maxHeartbeats 1000000 in
theorem end_any (b base st : Nat) (wd : List UInt8) (ws : List (List UInt8)) (w : World) (hr : RdrE w base b st wd ws) (hl : wd.length ≤ 1099511627776) (hl2 : ws.length ≤ 1048576) (hs : st ≤ 6) :
    Calls Tryz.prog 72 #[.pointer (some ⟨b, 0, none⟩)] w (EndPost base b (Wd.fin (st, wd, ws)) w) := by
  have he := endWord_any b base st wd ws w hr hl hl2
  obtain ⟨A, n, c0, A2, n2, c2, h⟩ := hr
  have k0 : w.cell? ⟨b, 0, none⟩ = some (.int .i64 (st : Int)) := h.1.cell 0
  rcases (show st = 0 ∨ st = 1 ∨ st = 2 ∨ st = 3 ∨ st = 4 ∨ st = 5 ∨ st = 6 by omega) with rfl | rfl | rfl | rfl | rfl | rfl | rfl
  · go_enter Tryz.func72, Tryz.ntmps72
    go_wp2
    go_ret
    exact ⟨Below.refl _ _, rfl, _, _, _, _, _, _, _, _, h⟩
  · go_enter Tryz.func72, Tryz.ntmps72
    go_wp2
    go_ret
    exact ⟨Below.refl _ _, rfl⟩
  · go_enter Tryz.func72, Tryz.ntmps72
    go_wp2_with fail
    refine he.mono ?_
    rintro e w1 ⟨rfl, hr1, hb1⟩
    go_wp2
    go_ret
    exact ⟨hb1, rfl, _, _, hr1⟩
  · go_enter Tryz.func72, Tryz.ntmps72
    go_wp2
    go_ret
    exact ⟨Below.refl _ _, rfl⟩
  · go_enter Tryz.func72, Tryz.ntmps72
    go_wp2
    go_ret
    exact ⟨Below.refl _ _, rfl⟩
  · go_enter Tryz.func72, Tryz.ntmps72
    go_wp2_with fail
    refine he.mono ?_
    rintro e w1 ⟨rfl, hr1, hb1⟩
    go_wp2
    go_ret
    exact ⟨hb1, rfl, _, _, hr1⟩
  · go_enter Tryz.func72, Tryz.ntmps72
    go_wp2
    go_ret
    exact ⟨Below.refl _ _, rfl⟩
end Go.Proofs.YtfjekckcpkkdiaaGreatDoor
