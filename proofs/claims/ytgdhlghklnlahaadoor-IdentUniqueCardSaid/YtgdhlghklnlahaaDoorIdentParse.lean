/- Layer 3, the identifier of a text: contracts of ident.Parse and of the document's own answer. -/
import Derived.Test.YtgdhlghklnlahaaDoorIdentText
import Derived.Test.YtgdhlghklnlahaaDoorCut
namespace Go.Proofs.YtgdhlghklnlahaaDoor
open Go.RowKit

namespace Id
/-- A number without a sign. -/
def num (l : List UInt8) : Int × Nat := if Wd.neg l then (0, 5) else Wd.number l
theorem num_cases (l : List UInt8) : (num l).2 = 0 ∨ num l = (0, 2) ∨ num l = (0, 5) := by
  unfold num Wd.number
  repeat' split
  all_goals simp
/-- What three numbers with their errors make. -/
def three (p q r : Int × Nat) : Int × Nat :=
  if p.2 = 5 ∨ q.2 = 5 ∨ r.2 = 5 then (0, 5) else if p.2 ≠ 0 ∨ q.2 ≠ 0 ∨ r.2 ≠ 0 then (0, 2) else mk p.1 q.1 r.1
def parse (l : List UInt8) : Int × Nat := three (num (l.takeWhile (Ct.no 46))) (num ((Ct.after 46 l).takeWhile (Ct.no 46))) (num (Ct.after 46 (Ct.after 46 l)))
end Id

theorem readNumber_any (s : ByteArray) (w : World) (hs : s.size ≤ 1048576) (hL : Laid w) : Calls Tryd.prog 34 #[.string s] w (NumPost (Id.num s.data.toList) w) := by
  have HL := hide hL
  clear hL
  have hP := Tryd.strings_HasPrefix s ⟨#[45]⟩ w
  have hP : Calls Tryd.prog 37 #[.string s, .string ⟨#[45]⟩] w fun e w' => e = .returned (.bool (Wd.neg s.data.toList)) ∧ w' = w := hP
  cases hn : Wd.neg s.data.toList with
  | true =>
    have Hr : Hid (Id.num s.data.toList = (0, 5)) := hide (by unfold Id.num; rw [if_pos hn])
    rw [hn] at hP
    clear hn
    go_enter Tryd.func34, Tryd.ntmps34
    go_wp2_with fail
    refine hP.mono ?_
    rintro e w1 ⟨rfl, rfl⟩
    clear hP
    go_wp2
    go_ret2
    exact NumPost.of Hr.out rfl (Below.refl _ _)
  | false =>
    have Hr : Hid (Id.num s.data.toList = Wd.number s.data.toList) := hide (by unfold Id.num; rw [if_neg (by simp [hn])])
    rw [hn] at hP
    clear hn
    go_enter Tryd.func34, Tryd.ntmps34
    go_wp2_with fail
    refine hP.mono ?_
    rintro e w1 ⟨rfl, rfl⟩
    clear hP
    have HN := hide (number_any s w1 hs HL.out)
    generalize Wd.number s.data.toList = r at *
    obtain ⟨v, er⟩ := r
    go_wp2_with fail
    refine HN.out.mono ?_
    rintro e w2 ⟨rfl, hb⟩
    go_wp2
    go_ret2
    exact NumPost.of Hr.out rfl hb

/-- Where the reading of three numbers stands: the found error, the numbers so far. -/
def R3 (p q r : Int × Nat) (k : Nat) (found : Nat) (x y z : Int) : Prop :=
  (k = 0 ∧ found = 0 ∧ x = 0 ∧ y = 0 ∧ z = 0) ∨
  (k = 1 ∧ p.2 ≠ 5 ∧ found = p.2 ∧ x = p.1 ∧ y = 0 ∧ z = 0) ∨
  (k = 2 ∧ p.2 ≠ 5 ∧ q.2 ≠ 5 ∧ found = (if q.2 = 0 then p.2 else q.2) ∧ x = p.1 ∧ y = q.1 ∧ z = 0) ∨
  (k = 3 ∧ p.2 ≠ 5 ∧ q.2 ≠ 5 ∧ r.2 ≠ 5 ∧ found = (if r.2 = 0 then (if q.2 = 0 then p.2 else q.2) else r.2) ∧ x = p.1 ∧ y = q.1 ∧ z = r.1)

theorem R3.s0 {p q r : Int × Nat} {f : Nat} {x y z : Int} (h : R3 p q r 0 f x y z) (hp : p.2 ≠ 5) : R3 p q r 1 (if p.2 = 0 then f else p.2) p.1 y z := by
  rcases h with ⟨_, rfl, rfl, rfl, rfl⟩ | ⟨h, _⟩ | ⟨h, _⟩ | ⟨h, _⟩
  · exact .inr (.inl ⟨rfl, hp, by split <;> simp_all, rfl, rfl, rfl⟩)
  all_goals omega
theorem R3.s1 {p q r : Int × Nat} {f : Nat} {x y z : Int} (h : R3 p q r 1 f x y z) (hq : q.2 ≠ 5) : R3 p q r 2 (if q.2 = 0 then f else q.2) x q.1 z := by
  rcases h with ⟨h, _⟩ | ⟨_, hp, rfl, rfl, rfl, rfl⟩ | ⟨h, _⟩ | ⟨h, _⟩
  · omega
  · exact .inr (.inr (.inl ⟨rfl, hp, hq, rfl, rfl, rfl, rfl⟩))
  · omega
  · omega
theorem R3.s2 {p q r : Int × Nat} {f : Nat} {x y z : Int} (h : R3 p q r 2 f x y z) (hr : r.2 ≠ 5) : R3 p q r 3 (if r.2 = 0 then f else r.2) x y r.1 := by
  rcases h with ⟨h, _⟩ | ⟨h, _⟩ | ⟨_, hp, hq, rfl, rfl, rfl, rfl⟩ | ⟨h, _⟩
  · omega
  · omega
  · exact .inr (.inr (.inr ⟨rfl, hp, hq, hr, rfl, rfl, rfl, rfl⟩))
  · omega
theorem R3.done {p q r : Int × Nat} {f : Nat} {x y z : Int} (h : R3 p q r 3 f x y z) (cp : p.2 = 0 ∨ p = (0, 2) ∨ p = (0, 5)) (cq : q.2 = 0 ∨ q = (0, 2) ∨ q = (0, 5)) (cr : r.2 = 0 ∨ r = (0, 2) ∨ r = (0, 5)) :
    x = p.1 ∧ y = q.1 ∧ z = r.1 ∧ ((f = 0 ∧ Id.three p q r = Id.mk p.1 q.1 r.1) ∨ (f = 2 ∧ Id.three p q r = (0, 2))) := by
  rcases h with ⟨h, _⟩ | ⟨h, _⟩ | ⟨h, _⟩ | ⟨_, hp, hq, hr, rfl, rfl, rfl, rfl⟩
  · omega
  · omega
  · omega
  refine ⟨rfl, rfl, rfl, ?_⟩
  have cp' : p.2 = 0 ∨ p.2 = 2 := by rcases cp with h | h | h <;> simp_all
  have cq' : q.2 = 0 ∨ q.2 = 2 := by rcases cq with h | h | h <;> simp_all
  have cr' : r.2 = 0 ∨ r.2 = 2 := by rcases cr with h | h | h <;> simp_all
  unfold Id.three
  rcases cp' with h1 | h1 <;> rcases cq' with h2 | h2 <;> rcases cr' with h3 | h3 <;> simp [h1, h2, h3]

theorem arr3 : (Tryd.prog.info? 53).map (·.size) = some 3 := by kernel_rfl

/-- Three numbers and an error code. -/
def ThreePost (p q r : Int × Nat) (w : World) (e : Ending) (w' : World) : Prop :=
  (∃ x y z : Int, ∃ er : Nat, er ≠ 0 ∧ e = .returned (.tuple #[.agg #[.int .i64 x, .int .i64 y, .int .i64 z], .int .i64 (er : Int)]) ∧ Id.three p q r = (0, er) ∧ Below w.heap.size w w') ∨
  (e = .returned (.tuple #[.agg #[.int .i64 p.1, .int .i64 q.1, .int .i64 r.1], .int .i64 0]) ∧ Id.three p q r = Id.mk p.1 q.1 r.1 ∧ Below w.heap.size w w')

set_option maxRecDepth 100000 in
set_option maxHeartbeats 2000000 in
theorem readNumbers_any (s0 s1 s2 : ByteArray) (w : World) (h0 : s0.size ≤ 1048576) (h1 : s1.size ≤ 1048576) (h2 : s2.size ≤ 1048576) (hL : Laid w) :
    Calls Tryd.prog 26 #[.agg #[.string s0, .string s1, .string s2]] w (ThreePost (Id.num s0.data.toList) (Id.num s1.data.toList) (Id.num s2.data.toList) w) := by
  have HL := hide hL
  have N0 := hide (readNumber_any s0)
  have N1 := hide (readNumber_any s1)
  have N2 := hide (readNumber_any s2)
  have C0 := hide (Id.num_cases s0.data.toList)
  have C1 := hide (Id.num_cases s1.data.toList)
  have C2 := hide (Id.num_cases s2.data.toList)
  generalize Id.num s0.data.toList = r0 at *
  generalize Id.num s1.data.toList = r1 at *
  generalize Id.num s2.data.toList = r2 at *
  obtain ⟨v0, e0⟩ := r0
  obtain ⟨v1, e1⟩ := r1
  obtain ⟨v2, e2⟩ := r2
  clear hL
  have i0 : ∀ w, (Instr.index 56 (.agg #[.string s0, .string s1, .string s2]) (.int .i64 0)).run Tryd.prog w = .ok (.string s0) w := fun _ => by kernel_rfl
  have i1 : ∀ w, (Instr.index 56 (.agg #[.string s0, .string s1, .string s2]) (.int .i64 1)).run Tryd.prog w = .ok (.string s1) w := fun _ => by kernel_rfl
  have i2 : ∀ w, (Instr.index 56 (.agg #[.string s0, .string s1, .string s2]) (.int .i64 2)).run Tryd.prog w = .ok (.string s2) w := fun _ => by kernel_rfl
  go_enter Tryd.func26, Tryd.ntmps26
  go_wp2_with fail
  have hs1 : (w.alloc (.cells #[.string s0, .string s1, .string s2] 56)).heap.size = w.heap.size + 1 := by simp
  have hs2 : ((w.alloc (.cells #[.string s0, .string s1, .string s2] 56)).alloc (.cells #[.int .i64 0, .int .i64 0, .int .i64 0] 53)).heap.size = w.heap.size + 2 := by simp
  have OR := (Obl.make (w.alloc (.cells #[.string s0, .string s1, .string s2] 56)) 53 #[.int .i64 0, .int .i64 0, .int .i64 0]).alloc (.cells #[.int .i64 0, .int .i64 0, .int .i64 0] 53)
  have ON := Obl.make ((w.alloc (.cells #[.string s0, .string s1, .string s2] 56)).alloc (.cells #[.int .i64 0, .int .i64 0, .int .i64 0] 53)) 53 #[.int .i64 0, .int .i64 0, .int .i64 0]
  rw [hs1] at OR
  rw [hs2] at ON
  have hb0 : Below w.heap.size w (((w.alloc (.cells #[.string s0, .string s1, .string s2] 56)).alloc (.cells #[.int .i64 0, .int .i64 0, .int .i64 0] 53)).alloc (.cells #[.int .i64 0, .int .i64 0, .int .i64 0] 53)) := (((Below.refl _ w).alloc (Nat.le_refl _) _).alloc (by simp) _).alloc (by simp; omega) _
  clear hs1 hs2
  go_loopw [5, 11] (fun s5 s11 wr => ∃ (k found : Nat) (x y z : Int), s5 = .int .i64 (found : Int) ∧ s11 = .int .i64 (k : Int) ∧ k ≤ 3 ∧ Obl wr (w.heap.size + 1) 53 #[.int .i64 0, .int .i64 0, .int .i64 0] ∧ Obl wr (w.heap.size + 2) 53 #[.int .i64 x, .int .i64 y, .int .i64 z] ∧ Below w.heap.size w wr ∧ Hid (R3 (v0, e0) (v1, e1) (v2, e2) k found x y z)) (fun _ s11 _ => 3 - (intOf s11).toNat)
  case atStart => exact ⟨0, 0, 0, 0, 0, rfl, rfl, by omega, OR, ON, hb0, hide (.inl ⟨rfl, rfl, rfl, rfl, rfl⟩)⟩
  case round =>
    clear OR ON hb0
    obtain ⟨k, found, x, y, z, rfl, rfl, hk, OR, ON, hb, HH⟩ := hrel
    rcases (show k = 0 ∨ k = 1 ∨ k = 2 ∨ k = 3 by omega) with rfl | rfl | rfl | rfl
    · have plt := OR.lt
      have nlt := ON.lt
      go_wp2_with fail
      refine (N0.out _ h0 (HL.out.below hb)).mono ?_
      rintro e w1 ⟨rfl, hb1⟩
      have OR1 := OR.below hb1 plt
      have ON1 := ON.below hb1 nlt
      have hbb := hb.trans (hb1.mono hb.size)
      clear OR ON hb hb1 plt nlt
      have q0 := ON1.cell 0
      have z0 := ON1.free 0
      have p0 := OR1.cell 0
      have p1 := OR1.cell 1
      have p2 := OR1.cell 2
      have f0 := OR1.free 0
      have f1 := OR1.free 1
      have f2 := OR1.free 2
      simp at q0 p0 p1 p2
      rcases C0.out with hc | hc | hc
      · have hs := HH.out.s0 (by show e0 ≠ 5; omega)
        rw [if_pos hc] at hs
        subst hc
        have HS := hide hs
        clear hs HH
        go_wp2_with fail
        go_roundw
        case rel => exact ⟨1, found, v0, y, z, rfl, by go_num, by omega, OR1.put_other (by omega) _ _, ON1.put 0 _, hbb.setCell (by simp; omega) _, HS⟩
        case measure => simp [intOf]
      · simp only [Prod.mk.injEq] at hc
        have hs := HH.out.s0 (by show e0 ≠ 5; omega)
        rw [if_neg (show ¬ e0 = 0 by omega)] at hs
        obtain ⟨rfl, rfl⟩ := hc
        have HS := hide hs
        clear hs HH
        go_wp2_with fail
        go_roundw
        case rel => exact ⟨1, 2, 0, y, z, rfl, by go_num, by omega, OR1.put_other (by omega) _ _, ON1.put 0 _, hbb.setCell (by simp; omega) _, HS⟩
        case measure => simp [intOf]
      · simp only [Prod.mk.injEq] at hc
        obtain ⟨rfl, rfl⟩ := hc
        clear HH
        go_wp2
        refine bodyPost_ret (results_cell_2 rfl _ (b := w.heap.size + 1) rfl (((OR1.put 0 _).put 1 _).put 2 _) Tryd.underlying53 rfl arr3) rfl ?_
        exact .inl ⟨0, 0, 0, 5, by omega, rfl, by simp [Id.three], ((hbb.setCell (by simp) _).setCell (by simp) _).setCell (by simp) _⟩
    · have plt := OR.lt
      have nlt := ON.lt
      go_wp2_with fail
      refine (N1.out _ h1 (HL.out.below hb)).mono ?_
      rintro e w1 ⟨rfl, hb1⟩
      have OR1 := OR.below hb1 plt
      have ON1 := ON.below hb1 nlt
      have hbb := hb.trans (hb1.mono hb.size)
      clear OR ON hb hb1 plt nlt
      have q0 := ON1.cell 1
      have z0 := ON1.free 1
      have p0 := OR1.cell 0
      have p1 := OR1.cell 1
      have p2 := OR1.cell 2
      have f0 := OR1.free 0
      have f1 := OR1.free 1
      have f2 := OR1.free 2
      simp at q0 p0 p1 p2
      rcases C1.out with hc | hc | hc
      · have hs := HH.out.s1 (by show e1 ≠ 5; omega)
        rw [if_pos hc] at hs
        subst hc
        have HS := hide hs
        clear hs HH
        go_wp2_with fail
        go_roundw
        case rel => exact ⟨2, found, x, v1, z, rfl, by go_num, by omega, OR1.put_other (by omega) _ _, ON1.put 1 _, hbb.setCell (by simp; omega) _, HS⟩
        case measure => simp [intOf]
      · simp only [Prod.mk.injEq] at hc
        have hs := HH.out.s1 (by show e1 ≠ 5; omega)
        rw [if_neg (show ¬ e1 = 0 by omega)] at hs
        obtain ⟨rfl, rfl⟩ := hc
        have HS := hide hs
        clear hs HH
        go_wp2_with fail
        go_roundw
        case rel => exact ⟨2, 2, x, 0, z, rfl, by go_num, by omega, OR1.put_other (by omega) _ _, ON1.put 1 _, hbb.setCell (by simp; omega) _, HS⟩
        case measure => simp [intOf]
      · simp only [Prod.mk.injEq] at hc
        obtain ⟨rfl, rfl⟩ := hc
        clear HH
        go_wp2
        refine bodyPost_ret (results_cell_2 rfl _ (b := w.heap.size + 1) rfl (((OR1.put 0 _).put 1 _).put 2 _) Tryd.underlying53 rfl arr3) rfl ?_
        exact .inl ⟨0, 0, 0, 5, by omega, rfl, by simp [Id.three], ((hbb.setCell (by simp) _).setCell (by simp) _).setCell (by simp) _⟩
    · have plt := OR.lt
      have nlt := ON.lt
      go_wp2_with fail
      refine (N2.out _ h2 (HL.out.below hb)).mono ?_
      rintro e w1 ⟨rfl, hb1⟩
      have OR1 := OR.below hb1 plt
      have ON1 := ON.below hb1 nlt
      have hbb := hb.trans (hb1.mono hb.size)
      clear OR ON hb hb1 plt nlt
      have q0 := ON1.cell 2
      have z0 := ON1.free 2
      have p0 := OR1.cell 0
      have p1 := OR1.cell 1
      have p2 := OR1.cell 2
      have f0 := OR1.free 0
      have f1 := OR1.free 1
      have f2 := OR1.free 2
      simp at q0 p0 p1 p2
      rcases C2.out with hc | hc | hc
      · have hs := HH.out.s2 (by show e2 ≠ 5; omega)
        rw [if_pos hc] at hs
        subst hc
        have HS := hide hs
        clear hs HH
        go_wp2_with fail
        go_roundw
        case rel => exact ⟨3, found, x, y, v2, rfl, by go_num, by omega, OR1.put_other (by omega) _ _, ON1.put 2 _, hbb.setCell (by simp; omega) _, HS⟩
        case measure => simp [intOf]
      · simp only [Prod.mk.injEq] at hc
        have hs := HH.out.s2 (by show e2 ≠ 5; omega)
        rw [if_neg (show ¬ e2 = 0 by omega)] at hs
        obtain ⟨rfl, rfl⟩ := hc
        have HS := hide hs
        clear hs HH
        go_wp2_with fail
        go_roundw
        case rel => exact ⟨3, 2, x, y, 0, rfl, by go_num, by omega, OR1.put_other (by omega) _ _, ON1.put 2 _, hbb.setCell (by simp; omega) _, HS⟩
        case measure => simp [intOf]
      · simp only [Prod.mk.injEq] at hc
        obtain ⟨rfl, rfl⟩ := hc
        clear HH
        go_wp2
        refine bodyPost_ret (results_cell_2 rfl _ (b := w.heap.size + 1) rfl (((OR1.put 0 _).put 1 _).put 2 _) Tryd.underlying53 rfl arr3) rfl ?_
        exact .inl ⟨0, 0, 0, 5, by omega, rfl, by simp [Id.three], ((hbb.setCell (by simp) _).setCell (by simp) _).setCell (by simp) _⟩
    · have hd := HH.out.done C0.out C1.out C2.out
      have q0 := ON.cell 0
      have q1 := ON.cell 1
      have q2 := ON.cell 2
      have p0 := OR.cell 0
      have p1 := OR.cell 1
      have p2 := OR.cell 2
      have f0 := OR.free 0
      have f1 := OR.free 1
      have f2 := OR.free 2
      simp at q0 q1 q2 p0 p1 p2
      obtain ⟨rfl, rfl, rfl, hd⟩ := hd
      have HD := hide hd
      clear hd HH
      go_wp2
      refine bodyPost_ret (results_cell_2 rfl _ (b := w.heap.size + 1) rfl (((OR.put 0 _).put 1 _).put 2 _) Tryd.underlying53 rfl arr3) rfl ?_
      have hbf := ((hb.setCell (p := ⟨w.heap.size + 1, 0, none⟩) (by simp) (.int .i64 x)).setCell (p := ⟨w.heap.size + 1, 1, none⟩) (by simp) (.int .i64 y)).setCell (p := ⟨w.heap.size + 1, 2, none⟩) (by simp) (.int .i64 z)
      rcases HD.out with ⟨rfl, h3⟩ | ⟨rfl, h3⟩
      · exact .inr ⟨rfl, h3, hbf⟩
      · exact .inl ⟨_, _, _, 2, by omega, rfl, h3, hbf⟩

set_option maxRecDepth 100000 in
set_option maxHeartbeats 2000000 in
theorem parse_any (s : ByteArray) (w : World) (hs : s.size ≤ 1048576) (hL : Laid w) : Calls Tryd.prog 13 #[.string s] w fun e w' => ∃ v er, Id.parse s.data.toList = (v, er) ∧ e = .returned (.tuple #[.int .u64 v, .int .i64 (er : Int)]) ∧ Below w.heap.size w w' := by
  have HL := hide hL
  have Hp : Hid (Id.parse s.data.toList = Id.three (Id.num (s.data.toList.takeWhile (Ct.no 46))) (Id.num ((Ct.after 46 s.data.toList).takeWhile (Ct.no 46))) (Id.num (Ct.after 46 (Ct.after 46 s.data.toList)))) := hide rfl
  have l1 : (s.data.toList.takeWhile (Ct.no 46)).length ≤ s.size := by rw [Lib.size_eq]; exact (List.takeWhile_sublist _).length_le
  have l2 : (Ct.after 46 s.data.toList).length ≤ s.size := by
    rw [Lib.size_eq]; unfold Ct.after; rw [List.length_drop]
    have := (List.dropWhile_sublist (Ct.no 46) (l := s.data.toList)).length_le
    omega
  have l3 : ((Ct.after 46 s.data.toList).takeWhile (Ct.no 46)).length ≤ s.size := Nat.le_trans (List.takeWhile_sublist _).length_le l2
  have l4 : (Ct.after 46 (Ct.after 46 s.data.toList)).length ≤ s.size := by
    refine Nat.le_trans ?_ l2
    rw [show Ct.after 46 (Ct.after 46 s.data.toList) = ((Ct.after 46 s.data.toList).dropWhile (Ct.no 46)).drop 1 from rfl, List.length_drop]
    have := (List.dropWhile_sublist (Ct.no 46) (l := Ct.after 46 s.data.toList)).length_le
    omega
  have K1 := hide (fun w => cutB_any s 46 w (by omega))
  have K2 := hide (fun w => cutB_any ⟨(Ct.after 46 s.data.toList).toArray⟩ 46 w (by rw [ba_size]; omega))
  simp only at K2
  generalize s.data.toList.takeWhile (Ct.no 46) = a at *
  generalize Ct.after 46 s.data.toList = r at *
  generalize r.takeWhile (Ct.no 46) = b at *
  generalize Ct.after 46 r = c at *
  have K3 := hide (fun w h => readNumbers_any ⟨a.toArray⟩ ⟨b.toArray⟩ ⟨c.toArray⟩ w (by rw [ba_size]; omega) (by rw [ba_size]; omega) (by rw [ba_size]; omega) h)
  simp only at K3
  clear hL
  go_enter Tryd.func13, Tryd.ntmps13
  go_wp2_with fail
  refine (K1.out _).mono ?_
  rintro e w1 ⟨q1, f1, rfl, rfl⟩
  go_wp2_with fail
  refine (K2.out _).mono ?_
  rintro e w2 ⟨q2, f2, rfl, rfl⟩
  go_wp2_with fail
  have hb0 : Below w.heap.size w (w.drewN (q1 + q2)) := ⟨rfl, rfl, rfl, Nat.le_refl _, fun _ _ => rfl⟩
  refine (K3.out _ (HL.out.below hb0)).mono ?_
  rintro e w3 hp
  rcases hp with ⟨x, y, z, er, hne, rfl, h3, hb3⟩ | ⟨rfl, h3, hb3⟩
  · have hb : Below w.heap.size w w3 := hb0.trans (hb3.mono hb0.size)
    have H3 := hide h3
    have e1 : ((er : Int) != 0) = true := by simp; omega
    clear h3 hb3 hb0
    go_wp2
    go_ret2
    exact ⟨0, er, by rw [Hp.out, H3.out], rfl, hb.alloc hb.size _⟩
  · have hb : Below w.heap.size w w3 := hb0.trans (hb3.mono hb0.size)
    have H3 := hide h3
    clear h3 hb3 hb0
    generalize Id.num a = r0 at *
    generalize Id.num b = r1 at *
    generalize Id.num c = r2 at *
    obtain ⟨v0, e0⟩ := r0
    obtain ⟨v1, e1⟩ := r1
    obtain ⟨v2, e2⟩ := r2
    have HM := hide (build_any v0 v1 v2)
    generalize hm : Id.mk v0 v1 v2 = m at *
    obtain ⟨v, er⟩ := m
    go_wp2_with fail
    refine (HM.out _).mono ?_
    rintro e w4 ⟨rfl, rfl⟩
    go_wp2
    go_ret2
    exact ⟨v, er, by rw [Hp.out, H3.out], rfl, hb.alloc hb.size _⟩
end Go.Proofs.YtgdhlghklnlahaaDoor
