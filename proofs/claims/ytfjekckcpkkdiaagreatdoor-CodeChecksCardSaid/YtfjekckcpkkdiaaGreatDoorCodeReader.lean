/- Layer 4, the reader of a program's text: contracts. -/
import Derived.Test.YtfjekckcpkkdiaaGreatDoorCodeFind
import Derived.Test.YtfjekckcpkkdiaaGreatDoorCodeRead
import Derived.Test.YtfjekckcpkkdiaaGreatDoorRegionX
namespace Go.Proofs.YtfjekckcpkkdiaaGreatDoor
open Go.RowKit

/-- The blocks below base are as they were, but for block b. -/
structure Bel (base b : Nat) (w w' : World) : Prop where
  os : w'.os = w.os
  tape : w'.tape = w.tape
  output : w'.output = w.output
  size : w.heap.size ≤ w'.heap.size
  block : ∀ k, k < base → k ≠ b → w'.heap[k]? = w.heap[k]?
section
variable {w w' w'' : World} {base b : Nat}
theorem Bel.of (h : Below base w w') : Bel base b w w' := ⟨h.os, h.tape, h.output, h.size, fun k hk _ => h.block k hk⟩
theorem Bel.trans (h : Bel base b w w') (h' : Bel base b w' w'') : Bel base b w w'' :=
  ⟨h'.os.trans h.os, h'.tape.trans h.tape, h'.output.trans h.output, Nat.le_trans h.size h'.size, fun k hk hne => (h'.block k hk hne).trans (h.block k hk hne)⟩
theorem Bel.put (h : Bel base b w w') (i : Nat) (u : Value) : Bel base b w (w'.setCell ⟨b, i, none⟩ u) :=
  ⟨h.os, h.tape, h.output, by simpa [World.setCell] using h.size, fun k hk hne => by
    rw [← h.block k hk hne]
    simp [World.setCell, Array.getElem?_modify, Ne.symm hne]⟩
theorem Bel.cell (h : Bel base b w w') {p : Addr} (hp : p.block < base) (hne : p.block ≠ b) : w'.cell? p = w.cell? p := by
  unfold World.cell?
  rw [h.block _ hp hne]
end
/-- The reader's block holds 'cells'; the rows of instructions and strings are its own. -/
def RdP (w : World) (base b : Nat) (cells : Array Value) (A : Option Addr) (n c : Nat) (D : Option Addr) (m d : Nat) (code : List Cd.Ins) (strs : List (List UInt8)) : Prop :=
  Obl w b 72 cells ∧ base ≤ w.heap.size ∧ w.ownsRow base 32 4 (.slice A n c) n (iv code) ∧ w.ownsRow base 9 1 (.slice D m d) m (sv strs)
section
variable {w w' : World} {base b n c m d : Nat} {cells : Array Value} {A D : Option Addr} {code : List Cd.Ins} {strs : List (List UInt8)}
theorem RdP.below (h : RdP w base b cells A n c D m d code strs) (hb : Below w.heap.size w w') : RdP w' base b cells A n c D m d code strs := ⟨h.1.below hb h.1.lt, Nat.le_trans h.2.1 hb.size, own_below h.2.2.1 hb, own_below h.2.2.2 hb⟩
theorem RdP.alloc (h : RdP w base b cells A n c D m d code strs) (o : Obj) : RdP (w.alloc o) base b cells A n c D m d code strs := h.below ((Below.refl _ _).alloc (Nat.le_refl _) _)
theorem RdP.base_le (h : RdP w base b cells A n c D m d code strs) : base ≤ w.heap.size := h.2.1
theorem RdP.put (h : RdP w base b cells A n c D m d code strs) (i : Nat) (u : Value) : RdP (w.setCell ⟨b, i, none⟩ u) base b (cells.setIfInBounds i u) A n c D m d code strs := by
  refine ⟨h.1.put i u, by simpa [World.setCell] using h.2.1, ownsRow_setCell_other h.2.2.1 ?_ u, ownsRow_setCell_other h.2.2.2 ?_ u⟩
  · rw [ownBlock_slice]; exact fun e => h.1.apart h.2.2.1 (by decide) e.symm
  · rw [ownBlock_slice]; exact fun e => h.1.apart h.2.2.2 (by decide) e.symm
theorem RdP.withStrs (h : RdP w base b cells A n c D m d code strs) (hg : w.grownBy w' (blk D)) {D' : Option Addr} {m' d' : Nat} {strs' : List (List UInt8)} (hown : w'.ownsRow base 9 1 (.slice D' m' d') m' (sv strs')) : RdP w' base b cells A n c D' m' d' code strs' :=
  ⟨h.1.grown hg (h.1.apart h.2.2.2 (by decide)), Nat.le_trans h.2.1 hg.size, h.2.2.1.kept hg (own_apart h.2.2.1 h.2.2.2 (by decide)), hown⟩
theorem RdP.withCode (h : RdP w base b cells A n c D m d code strs) (hg : w.grownBy w' (blk A)) {A' : Option Addr} {n' c' : Nat} {code' : List Cd.Ins} (hown : w'.ownsRow base 32 4 (.slice A' n' c') n' (iv code')) : RdP w' base b cells A' n' c' D m d code' strs :=
  ⟨h.1.grown hg (h.1.apart h.2.2.1 (by decide)), Nat.le_trans h.2.1 hg.size, hown, h.2.2.2.kept hg (own_apart h.2.2.2 h.2.2.1 (by decide))⟩
end
/-- The reader holds a state. -/
def RdC (w : World) (base b : Nat) (s : Cd.St) : Prop := ∃ A n c D m d, RdP w base b #[.slice A n c, .slice D m d, .int .i64 s.prog.pages, .int .i64 (Cd.part s : Int)] A n c D m d s.prog.code s.prog.strs
theorem RdC.below {w w' : World} {base b : Nat} {s : Cd.St} (h : RdC w base b s) (hb : Below w.heap.size w w') : RdC w' base b s := by
  obtain ⟨A, n, c, D, m, d, h⟩ := h
  exact ⟨A, n, c, D, m, d, h.below hb⟩
def ReadPost' (r : Option Cd.St) (base b : Nat) (w : World) (e : Ending) (w' : World) : Prop := e = .returned (.bool r.isSome) ∧ Bel base b w w' ∧ ∀ s', r = some s' → RdC w' base b s'
theorem ReadPost'.no {r : Option Cd.St} {base b : Nat} {w w' : World} {e : Ending} (hr : r = none) (he : e = .returned (.bool false)) (hb : Bel base b w w') : ReadPost' r base b w e w' := by subst hr; exact ⟨he, hb, fun s' h => by cases h⟩
theorem ReadPost'.yes {r : Option Cd.St} {s : Cd.St} {base b : Nat} {w w' : World} {e : Ending} (hr : r = some s) (he : e = .returned (.bool true)) (hb : Bel base b w w') (hs : RdC w' base b s) : ReadPost' r base b w e w' := by
  subst hr; exact ⟨he, hb, fun s' h => by cases h; exact hs⟩

theorem part_zero {s : Cd.St} (h : Cd.part s = 0) : s.prog.code = [] ∧ s.paged = false ∧ s.prog.strs = [] := by
  unfold Cd.part at h
  split at h
  · omega
  · rename_i h1
    split at h
    · omega
    · rename_i h2
      refine ⟨by simpa using h1, ?_, ?_⟩
      · cases hp : s.paged with
        | false => rfl
        | true => exact absurd (.inl hp) h2
      · simpa using fun e => h2 (.inr e)
theorem part_le (s : Cd.St) : Cd.part s ≤ 2 := by unfold Cd.part; split <;> (try split) <;> omega
theorem part_two {s : Cd.St} (h : Cd.part s ≠ 2) : s.prog.code = [] := by
  unfold Cd.part at h
  split at h
  · exact absurd rfl h
  · rename_i h1; simpa using h1
theorem one_of {α : Type} {l : List α} (h : l.length = 1) (d : α) : l = [l.getD 0 d] := by
  rcases l with _ | ⟨x, _ | ⟨y, l⟩⟩
  · simp at h
  · rfl
  · simp at h
theorem rdPages_no {s : Cd.St} {rest : List (List UInt8)} (h : ¬ (Cd.part s = 0 ∧ rest.length = 1)) : Cd.readPages s rest = none := by unfold Cd.readPages; rw [if_neg h]
theorem rdPages_bad {s : Cd.St} {rest : List (List UInt8)} (hr : Cd.readOp 110 (rest.getD 0 []) = none) : Cd.readPages s rest = none := by
  unfold Cd.readPages
  split
  · rw [hr]; rfl
  · rfl
theorem rdPages_ok {s : Cd.St} {rest : List (List UInt8)} (h : Cd.part s = 0 ∧ rest.length = 1) {v : Int} (hr : Cd.readOp 110 (rest.getD 0 []) = some v) : Cd.readPages s rest = some ⟨true, ⟨s.prog.code, s.prog.strs, v⟩⟩ := by unfold Cd.readPages; rw [if_pos h, hr]; rfl
theorem rdStr_no {s : Cd.St} {rest : List (List UInt8)} (h : ¬ (Cd.part s ≠ 2 ∧ rest.length = 1)) : Cd.readStr s rest = none := by unfold Cd.readStr; rw [if_neg h]
theorem rdStr_ok {s : Cd.St} {rest : List (List UInt8)} (h : Cd.part s ≠ 2 ∧ rest.length = 1) : Cd.readStr s rest = some ⟨s.paged, ⟨s.prog.code, s.prog.strs ++ [rest.getD 0 []], s.prog.pages⟩⟩ := by unfold Cd.readStr; rw [if_pos h]
theorem part_pages {s : Cd.St} (h : Cd.part s = 0) (v : Int) : Cd.part ⟨true, ⟨s.prog.code, s.prog.strs, v⟩⟩ = 1 := by
  unfold Cd.part; rw [if_neg (by simp [(part_zero h).1]), if_pos (.inl rfl)]
theorem part_str {s : Cd.St} (h : Cd.part s ≠ 2) (x : List UInt8) : Cd.part ⟨s.paged, ⟨s.prog.code, s.prog.strs ++ [x], s.prog.pages⟩⟩ = 1 := by
  unfold Cd.part; rw [if_neg (by simp [part_two h]), if_pos (.inr (by simp))]
theorem part_ins (s : Cd.St) (x : Cd.Ins) : Cd.part ⟨s.paged, ⟨s.prog.code ++ [x], s.prog.strs, s.prog.pages⟩⟩ = 2 := by
  unfold Cd.part; rw [if_pos (by simp)]

set_option maxRecDepth 100000 in
set_option maxHeartbeats 2000000 in
theorem readPages_any (b base : Nat) (s : Cd.St) (E : Option Addr) (q c0 : Nat) (rest : List (List UInt8)) (w : World) (hr : RdC w base b s) (hs : Strs w w.heap.size E q rest) (hq : q ≤ 9223372036854775807) (hw : ∀ x ∈ rest, x.length ≤ 4096) (hL : Laid w) :
    Calls Tryz.prog 73 #[.pointer (some ⟨b, 0, none⟩), .slice E q c0] w (ReadPost' (Cd.readPages s rest) base b w) := by
  obtain ⟨A, n, c, D, m, d, h⟩ := hr
  have hlt := h.1.lt
  have hlen := hs.len
  have k3 : w.cell? ⟨b, 3, none⟩ = some (.int .i64 (Cd.part s : Int)) := h.1.cell 3
  have HH := hide h
  have hbase := h.base_le
  by_cases hp : Cd.part s = 0
  · have HP := hide hp
    rw [hp] at k3
    by_cases hq1 : q = 1
    · subst hq1
      have HC : Hid (Cd.part s = 0 ∧ rest.length = 1) := hide ⟨hp, hlen⟩
      obtain ⟨be, oe, hl0, rfl, hbe, hce⟩ := hs.at_ (k := 0) (by omega)
      have hx0 : rest.getD 0 [] = rest[0] := Cd.getD_at _ _ hl0
      have hxs : (⟨rest[0].toArray⟩ : ByteArray).size ≤ 1048576 := by rw [ba_size]; have := hw _ (List.getElem_mem hl0); omega
      have HX := hide hx0
      have HL := hide hL
      rw [Nat.add_zero] at hce
      clear hp hs hw hx0 h hL
      generalize rest[0] = x at *
      cases hro : Cd.readOp 110 x with
      | none =>
        have HN : Hid (Cd.readPages s rest = none) := hide (rdPages_bad (by rw [HX.out]; exact hro))
        have HO := hide hro
        clear hro
        go_enter Tryz.func73, Tryz.ntmps73
        go_wp2_with fail
        refine (readOperand_any 110 ⟨x.toArray⟩ _ hxs HL.out).mono ?_
        rintro e w1 ⟨rfl, hb1⟩
        rw [show (⟨x.toArray⟩ : ByteArray).data.toList = x from rfl, HO.out]
        simp only [Option.getD_none, Option.isSome_none]
        have h1 := HH.out.below hb1
        have z2 := h1.1.free 2
        have z3 := h1.1.free 3
        have p2 := h1.1.cell 2
        have p3 := h1.1.cell 3
        simp at p2 p3
        have hfin := ((Bel.of (b := b) (hb1.mono hbase)).put 3 (.int .i64 1)).put 2 (.int .i64 0)
        go_wp2
        go_ret
        exact ReadPost'.no HN.out rfl hfin
      | some v =>
        have HN : Hid (Cd.readPages s rest = some ⟨true, ⟨s.prog.code, s.prog.strs, v⟩⟩) := hide (rdPages_ok HC.out (by rw [HX.out]; exact hro))
        have HO := hide hro
        clear hro
        go_enter Tryz.func73, Tryz.ntmps73
        go_wp2_with fail
        refine (readOperand_any 110 ⟨x.toArray⟩ _ hxs HL.out).mono ?_
        rintro e w1 ⟨rfl, hb1⟩
        rw [show (⟨x.toArray⟩ : ByteArray).data.toList = x from rfl, HO.out]
        simp only [Option.getD_some, Option.isSome_some]
        have h1 := HH.out.below hb1
        have z2 := h1.1.free 2
        have z3 := h1.1.free 3
        have p2 := h1.1.cell 2
        have p3 := h1.1.cell 3
        simp at p2 p3
        have hfin := ((Bel.of (b := b) (hb1.mono hbase)).put 3 (.int .i64 1)).put 2 (.int .i64 v)
        have hP := (h1.put 3 (.int .i64 1)).put 2 (.int .i64 v)
        have HR : Hid (RdC ((w1.setCell ⟨b, 3, none⟩ (.int .i64 1)).setCell ⟨b, 2, none⟩ (.int .i64 v)) base b ⟨true, ⟨s.prog.code, s.prog.strs, v⟩⟩) := hide ⟨A, n, c, D, m, d, by rw [part_pages HP.out]; exact hP⟩
        clear hP
        go_wp2
        go_ret
        exact ReadPost'.yes HN.out rfl hfin HR.out
    · have HN : Hid (Cd.readPages s rest = none) := hide (rdPages_no (fun h => hq1 (by rw [← hlen]; exact h.2)))
      have eq1 : ((q : Int) == 1) = false := by simp; omega
      have eq2 : ¬ (q : Int) = 1 := by omega
      clear hp
      go_enter Tryz.func73, Tryz.ntmps73
      go_wp2
      go_ret
      exact ReadPost'.no HN.out rfl (Bel.of (Below.refl _ _))
  · have HN : Hid (Cd.readPages s rest = none) := hide (rdPages_no (fun h => hp h.1))
    have ep : ¬ (Cd.part s : Int) = 0 := by omega
    clear hp
    generalize (Cd.part s : Int) = pt at *
    go_enter Tryz.func73, Tryz.ntmps73
    go_wp2
    go_ret
    exact ReadPost'.no HN.out rfl (Bel.of (Below.refl _ _))

set_option maxRecDepth 100000 in
set_option maxHeartbeats 2000000 in
theorem readString_any (b base : Nat) (s : Cd.St) (E : Option Addr) (q c0 : Nat) (rest : List (List UInt8)) (w : World) (hr : RdC w base b s) (hs : Strs w w.heap.size E q rest) (hq : q ≤ 9223372036854775807) (hsl : s.prog.strs.length ≤ 1000000) :
    Calls Tryz.prog 74 #[.pointer (some ⟨b, 0, none⟩), .slice E q c0] w (ReadPost' (Cd.readStr s rest) base b w) := by
  obtain ⟨A, n, c, D, m, d, h⟩ := hr
  have hlt := h.1.lt
  have hlen := hs.len
  have hm := own_strs h.2.2.2
  have k1 : w.cell? ⟨b, 1, none⟩ = some (.slice D m d) := h.1.cell 1
  have k3 : w.cell? ⟨b, 3, none⟩ = some (.int .i64 (Cd.part s : Int)) := h.1.cell 3
  have hbase := h.base_le
  by_cases hp : Cd.part s = 2
  · have HN : Hid (Cd.readStr s rest = none) := hide (rdStr_no (fun h => h.1 hp))
    rw [hp] at k3
    clear hp h
    go_enter Tryz.func74, Tryz.ntmps74
    go_wp2
    go_ret
    exact ReadPost'.no HN.out rfl (Bel.of (Below.refl _ _))
  · have ep : ¬ (Cd.part s : Int) = 2 := by omega
    have ep' : ((Cd.part s : Int) == 2) = false := by simp; omega
    by_cases hq1 : q = 1
    · subst hq1
      have HN : Hid (Cd.readStr s rest = some _) := hide (rdStr_ok ⟨hp, hlen⟩)
      obtain ⟨be, oe, hl0, rfl, hbe, hce⟩ := hs.at_ (k := 0) (by omega)
      have hx0 : rest.getD 0 [] = rest[0] := Cd.getD_at _ _ hl0
      rw [hx0] at HN
      have HP := hide (part_str hp rest[0])
      rw [Nat.add_zero] at hce
      clear hp hs hx0
      generalize rest[0] = x at *
      generalize hpt : (Cd.part s : Int) = pt at *
      go_enter Tryz.func74, Tryz.ntmps74
      go_wp2_with fail
      refine region_C (by kernel_rfl) w.drew.heap.size [11, 14, 18] ?_
      have hb0 : Below base w w.drew := (Below.refl _ _).drew
      replace h : RdP w.drew base b #[.slice A n c, .slice D m d, .int .i64 s.prog.pages, .int .i64 pt] A n c D m d s.prog.code s.prog.strs := h
      replace hlt : b < w.drew.heap.size := hlt
      replace hbe : be < w.drew.heap.size := hbe
      replace k1 : w.drew.cell? ⟨b, 1, none⟩ = some (.slice D m d) := k1
      replace hce : w.drew.cell? ⟨be, oe, none⟩ = some (.string ⟨x.toArray⟩) := hce
      clear k3
      generalize w.drew = w0 at *
      refine takeX 0 rfl (by kernel_rfl) (fun _ _ _ h => h) (by rfl) (by intro w'; go_simp; try with_reducible rfl) ?_
      refine takeX 1 rfl (by kernel_rfl) (fun _ _ _ h => h) (by rfl) (by intro w'; go_simp; try with_reducible rfl) ?_
      refine takeX 2 rfl (by kernel_rfl) (fun _ _ _ h => h) (by rfl) (by intro w'; go_simp; try with_reducible rfl) ?_
      refine takeX 3 rfl (by kernel_rfl) (fun _ _ _ h => h) (by rfl) (by intro w'; go_simp; try with_reducible rfl) ?_
      refine takeX 4 rfl (by kernel_rfl) (fun _ _ _ h => h) (by rfl) (by intro w'; go_simp; try with_reducible rfl) ?_
      refine takeX 5 rfl (by kernel_rfl) (fun _ _ _ h => h) (by rfl) (by intro w'; go_simp; try with_reducible rfl) ?_
      refine takeC 6 [6, 11, 12, 13, 14, 15, 16, 17, 18] rfl (by kernel_rfl) (fun _ _ _ h => h) (by rfl) (by intro w' hg; have g0 := (hg.cell (p := ⟨b, 1, none⟩) hlt).trans k1; go_simp; try with_reducible rfl) ?_
      refine takeX 7 rfl (by kernel_rfl) (fun _ _ _ h => h) (by rfl) (by intro w'; go_simp; try with_reducible rfl) ?_
      refine takeX 8 rfl (by kernel_rfl) (fun _ _ _ h => h) (by rfl) (by intro w'; go_simp; try with_reducible rfl) ?_
      refine takeC 9 [9, 10, 11, 12, 13, 14, 15, 16, 17, 18] rfl (by kernel_rfl) (fun _ _ _ h => h) (by rfl) (by intro w' hg; have g0 := (hg.cell (p := ⟨be, oe, none⟩) hbe).trans hce; go_simp; try with_reducible rfl) ?_
      refine onlyC 10 rfl (by kernel_rfl) (by rfl) ?_
      intro K hK
      go_simp
      refine hK _ _ (fun _ => (Below.refl _ _).alloc (Nat.le_refl _) _) ?_
      clear hK K
      have h2 := h.alloc (.cells #[.string ⟨x.toArray⟩] 9)
      have hb2 := hb0.alloc h.base_le (.cells #[.string ⟨x.toArray⟩] 9)
      refine onlyC 11 rfl (by kernel_rfl) (by rfl) ?_
      intro K hK
      refine wp_append_rd (.tmp 21) (.tmp 25) _ rfl strTy (A := D) (n := m) (c := d) rfl h2.2.2.2 (B := w0.heap.size + 1) (S := some ⟨w0.heap.size, 0, none⟩) (m := 1) (d := 1) (news := [.string ⟨x.toArray⟩]) rfl (Row.new _ _ _) (by simp [Value.oneCell']) (by unfold maxLen; omega) (by omega) h2.base_le ?_
      intro A3 c3 w3 hown3 hgrow3 hat3
      rw [sv_snoc] at hown3
      have hb3 := below_own hb2 h2.2.2.2 hgrow3 h2.base_le
      have h3 := h2.withStrs hgrow3 hown3
      refine hK _ _ (fun h => absurd h (by decide)) ?_
      clear hK K
      have p3 := h3.1.cell 3
      have z3 := h3.1.free 3
      simp at p3
      refine takeX 12 rfl (by kernel_rfl) (fun _ _ _ h => h) (by rfl) (by intro w'; go_simp; try with_reducible rfl) ?_
      refine takeX 13 rfl (by kernel_rfl) (fun _ _ _ h => h) (by rfl) (by intro w'; go_simp; try with_reducible rfl) ?_
      refine onlyC 14 rfl (by kernel_rfl) (by rfl) ?_
      intro K hK
      go_simp
      refine hK _ _ (fun h => absurd h (by decide)) ?_
      clear hK K
      have h4 := h3.put 3 (.int .i64 1)
      have hb4 := (Bel.of (b := b) hb3).put 3 (.int .i64 1)
      generalize w3.setCell ⟨b, 3, none⟩ (.int .i64 1) = w4 at *
      have p1 := h4.1.cell 1
      have z1 := h4.1.free 1
      simp at p1
      refine takeX 15 rfl (by kernel_rfl) (fun _ _ _ h => h) (by rfl) (by intro w'; go_simp; try with_reducible rfl) ?_
      refine takeX 16 rfl (by kernel_rfl) (fun _ _ _ h => h) (by rfl) (by intro w'; go_simp; try with_reducible rfl) ?_
      refine takeX 17 rfl (by kernel_rfl) (fun _ _ _ h => h) (by rfl) (by intro w'; go_simp; try with_reducible rfl) ?_
      refine onlyC 18 rfl (by kernel_rfl) (by rfl) ?_
      intro K hK
      go_simp
      refine hK _ _ (fun h => absurd h (by decide)) ?_
      clear hK K
      have h5 := h4.put 1 (.slice A3 (m + 1) c3)
      have hb5 := hb4.put 1 (.slice A3 (m + 1) c3)
      generalize w4.setCell ⟨b, 1, none⟩ (.slice A3 (m + 1) c3) = w5 at *
      refine doneC (by kernel_rfl) ?_
      go_simp
      have HR : Hid (RdC w5 base b ⟨s.paged, ⟨s.prog.code, s.prog.strs ++ [x], s.prog.pages⟩⟩) := hide ⟨A, n, c, A3, m + 1, c3, by rw [HP.out]; exact h5⟩
      clear h5 h4 h3 h2 h
      go_wp2
      go_ret
      exact ReadPost'.yes HN.out rfl hb5 HR.out
    · have HN : Hid (Cd.readStr s rest = none) := hide (rdStr_no (fun h => hq1 (by rw [← hlen]; exact h.2)))
      have eq1 : ((q : Int) == 1) = false := by simp; omega
      have eq2 : ¬ (q : Int) = 1 := by omega
      clear hp h
      generalize (Cd.part s : Int) = pt at *
      go_enter Tryz.func74, Tryz.ntmps74
      go_wp2
      go_ret
      exact ReadPost'.no HN.out rfl (Bel.of (Below.refl _ _))
end Go.Proofs.YtfjekckcpkkdiaaGreatDoor
