/- Layer 4, code.Format: a contract. -/
import Derived.Test.YtfjekckcpkkdiaaGreatDoorCodeIns
import Derived.Test.YtfjekckcpkkdiaaGreatDoorCodeCheck
import Derived.Test.YtfjekckcpkkdiaaGreatDoorCodeSame
import Derived.Test.YtfjekckcpkkdiaaGreatDoorCodeText
import Derived.Test.YtfjekckcpkkdiaaGreatDoorBuild
namespace Go.Proofs.YtfjekckcpkkdiaaGreatDoor
open Go.RowKit

theorem builder_below {B b : Nat} {bs : List Value} {w w' : World} (h : Lib.IsBuilder 58 5 B b bs w) (hb : Below w.heap.size w w') : Lib.IsBuilder 58 5 B b bs w' := by
  have key : ∀ p, Lib.BuilderAt 58 5 B b p bs w → Lib.BuilderAt 58 5 B b p bs w' := by
    intro p h
    have hlt := h.lt
    obtain ⟨h1, v, h2, h3, h4⟩ := h
    exact ⟨h1, v, (hb.block b hlt).trans h2, own_below h3 hb, h4⟩
  rcases h with h | h
  · exact .inl (key _ h)
  · exact .inr (key _ h)
theorem builder_alloc {B b : Nat} {bs : List Value} {w : World} (h : Lib.IsBuilder 58 5 B b bs w) (o : Obj) : Lib.IsBuilder 58 5 B b bs (w.alloc o) := builder_below h ((Below.refl _ _).alloc (Nat.le_refl _) _)

set_option maxHeartbeats 1000000 in
theorem writeLine_any (B b : Nat) (l : List UInt8) (A : Option Addr) (n c C : Nat) (ws : List (List UInt8)) (w : World) (h : Lib.IsBuilder 58 5 B b (Lib.byteCells l) w) (hs : Strs w C A n ws) (hC : C ≤ w.heap.size) (hn : n ≤ 9223372036854775807) (hw : ∀ x ∈ ws, x.length ≤ 1000000)
    (hlen : l.length ≤ 1000000) (hj : (Wd.join ws).1.length ≤ 1000000) (hBw : B ≤ w.heap.size) :
    Calls Tryz.prog 27 #[.pointer (some ⟨b, 0, none⟩), .slice A n c] w fun e w' => e = .returned (.tuple #[]) ∧ (Lib.IsBuilder 58 5 B b (Lib.byteCells (l ++ Cd.lineOf ws)) w' ∧ Below B w w') := by
  have hjs : (⟨(Wd.join ws).1.toArray⟩ : ByteArray).size ≤ 1000000 := by rw [ba_size]; exact hj
  go_enter Tryz.func27, Tryz.ntmps27
  go_wp2_with fail
  refine (join_any A n c ws _ C hs hC hn hw).mono ?_
  rintro e w1 ⟨rfl, hb1⟩
  have h1 := builder_below h hb1
  have hB1 := Nat.le_trans hBw hb1.size
  have HL : Hid ((l ++ (Wd.join ws).1) ++ [10] = l ++ Cd.lineOf ws) := hide (by unfold Cd.lineOf; simp)
  generalize (Wd.join ws).1 = js at *
  generalize (Wd.join ws).2 = er at *
  go_wp2_with fail
  refine (writeString_any B b l ⟨js.toArray⟩ _ h1 (by omega) hB1).mono ?_
  rintro e w2 ⟨rfl, h2, hb2⟩
  replace h2 : Lib.IsBuilder 58 5 B b (Lib.byteCells (l ++ js)) w2 := h2
  have hB2 := Nat.le_trans hB1 hb2.size
  go_wp2_with fail
  refine (writeString_any B b (l ++ js) ⟨#[10]⟩ _ h2 (by rw [List.length_append]; simp [ByteArray.size]; omega) hB2).mono ?_
  rintro e w3 ⟨rfl, h3, hb3⟩
  rw [show ((⟨#[10]⟩ : ByteArray).data.toList) = [10] from rfl, HL.out] at h3
  have hfin := ((hb1.mono hBw).trans hb2).trans hb3
  go_wp2
  go_end0
  exact ⟨rfl, h3, hfin⟩

theorem StrPost.none {r : List UInt8 × Nat} {er : Nat} {w w' : World} {e : Ending} (hr : r = ([], er)) (he : e = .returned (.tuple #[.string ⟨#[]⟩, .int .i64 (er : Int)])) (hb : Below w.heap.size w w') : StrPost r w e w' := by subst hr; exact ⟨he, hb⟩
namespace Cd
def strsTo (p : Pr) (i : Nat) : List UInt8 := pagesL p.pages ++ (p.strs.take i).flatMap strL
def codeTo (p : Pr) (i : Nat) : List UInt8 := pagesL p.pages ++ p.strs.flatMap strL ++ (p.code.take i).flatMap insL
theorem strsTo_zero (p : Pr) : strsTo p 0 = pagesL p.pages := by simp [strsTo]
theorem strsTo_succ {p : Pr} {i : Nat} (h : i < p.strs.length) : strsTo p (i + 1) = strsTo p i ++ strL p.strs[i] := by
  unfold strsTo; rw [List.take_succ_eq_append_getElem h, List.flatMap_append]; simp
theorem strsTo_all {p : Pr} : strsTo p p.strs.length = codeTo p 0 := by simp [strsTo, codeTo]
theorem codeTo_succ {p : Pr} {i : Nat} (h : i < p.code.length) : codeTo p (i + 1) = codeTo p i ++ insL p.code[i] := by
  unfold codeTo; rw [List.take_succ_eq_append_getElem h, List.flatMap_append]; simp
theorem codeTo_all {p : Pr} : codeTo p p.code.length = text p := by simp [codeTo, text]
theorem strsTo_le {p : Pr} (h : Good p) (i : Nat) : (strsTo p i).length ≤ 10000 := by
  obtain ⟨⟨h1, h2, h3⟩, ⟨h4, h5⟩, h6⟩ := ok_of_check h.1
  have l1 := pagesL_le (n := p.pages) (by omega) (by omega)
  have l2 := flat_le strL (p.strs.take i) 270 (fun s hs => by have := h3 s (List.mem_of_mem_take hs); have := strL_le (s := s) (by omega); omega)
  have l3 := List.length_take_le i p.strs
  have l4 : (p.strs.take i).length ≤ 32 := by rw [List.length_take]; omega
  unfold strsTo
  simp only [List.length_append]
  omega
theorem codeTo_le {p : Pr} (h : Good p) (i : Nat) : (codeTo p i).length ≤ 40000 := by
  have l0 := strsTo_le h p.strs.length
  obtain ⟨⟨h1, h2, h3⟩, ⟨h4, h5⟩, h6⟩ := ok_of_check h.1
  have l2 := flat_le insL (p.code.take i) 110 (fun x hx => by obtain ⟨⟨g0, g1⟩, _⟩ := right_fits (h6 x (List.mem_of_mem_take hx)); exact insL_le (h.2 x (List.mem_of_mem_take hx)) g0 g1)
  have l4 : (p.code.take i).length ≤ 256 := by rw [List.length_take]; omega
  unfold strsTo at l0
  rw [List.take_of_length_le (Nat.le_refl _)] at l0
  unfold codeTo
  simp only [List.length_append] at l0 ⊢
  omega
theorem format_ok {p : Pr} (h : (check p).2 = 0) : format p = (text p, 0) := by unfold format; rw [if_pos h]
theorem format_no {p : Pr} (h : (check p).2 ≠ 0) : format p = ([], (check p).2) := by unfold format; rw [if_neg h]
theorem words_le {p : Pr} (h : Good p) : (∀ x ∈ [pagesW, Lib.itoa p.pages], x.length ≤ 1000000) ∧ (∀ s ∈ p.strs, ∀ x ∈ [stringW, s], x.length ≤ 1000000) ∧ ∀ y ∈ p.code, ∀ x ∈ insWords y, x.length ≤ 1000000 := by
  obtain ⟨⟨h1, h2, h3⟩, ⟨h4, h5⟩, h6⟩ := ok_of_check h.1
  refine ⟨fun x hx => ?_, fun s hs x hx => ?_, fun y hy x hx => ?_⟩
  · have := Wd.itoa_le (n := p.pages) (by omega) (by omega)
    simp only [List.mem_cons, List.not_mem_nil, or_false] at hx
    rcases hx with rfl | rfl
    · decide
    · omega
  · have := h3 s hs
    simp only [List.mem_cons, List.not_mem_nil, or_false] at hx
    rcases hx with rfl | rfl
    · decide
    · omega
  · obtain ⟨⟨g0, g1⟩, _⟩ := right_fits (h6 y hy)
    unfold insWords at hx
    rcases List.mem_cons.1 hx with rfl | hx
    · have := (name_ok g0 g1).2.2.1; omega
    · simp only [opWords, List.mem_map] at hx
      obtain ⟨i, _, rfl⟩ := hx
      have : (opWord y i).length ≤ 31 := operand_le _ (arg64 (h.2 y hy) i).1 (arg64 (h.2 y hy) i).2
      omega
theorem join_le (l : List (List UInt8)) : (Wd.join l).1.length ≤ 1000000 := by
  unfold Wd.join
  split
  · simp
  · cases hj : Wd.joinG [] true l with
    | none => simp
    | some x => have := Wd.joinG_le hj (by simp); simp only; omega
end Cd

set_option maxRecDepth 100000 in
set_option maxHeartbeats 4000000 in
theorem format4_any (p : Cd.Pr) (A D : Option Addr) (n c m d B : Nat) (w : World) (hi : Inss w B A n p.code) (hs : Strs w B D m p.strs) (hB : B ≤ w.heap.size) (hn : n ≤ 9223372036854775807) (hm : m ≤ 9223372036854775807) (hl : ∀ x ∈ p.strs, x.length ≤ 9223372036854775807) (h64 : ∀ x ∈ p.code, Cd.in64 x) (hL : LaidO w) (hT : LaidT w) :
    Calls Tryz.prog 13 #[pa A n c D m d p.pages] w (StrPost (Cd.format p) w) := by
  have O1 := Obl.make w 25 #[.slice A n c, .slice D m d, .int .i64 p.pages]
  have hb0 : Below w.heap.size w (w.alloc (.cells #[.slice A n c, .slice D m d, .int .i64 p.pages] 25)) := (Below.refl _ _).alloc (Nat.le_refl _) _
  have hi1 := hi.alloc hB (.cells #[.slice A n c, .slice D m d, .int .i64 p.pages] 25)
  have hs1 : Strs (w.alloc (.cells #[.slice A n c, .slice D m d, .int .i64 p.pages] 25)) B D m p.strs := hs.below ((Below.refl _ _).alloc hB _)
  have HL1 := hide (hL.alloc (.cells #[.slice A n c, .slice D m d, .int .i64 p.pages] 25))
  have HT1 : Hid (LaidT (w.alloc (.cells #[.slice A n c, .slice D m d, .int .i64 p.pages] 25))) := hide (hT.below hb0)
  have hlt0 := hL.lt
  have HM := hide hl
  have H64 := hide h64
  have hnl := hi.len
  have hml := hs.len
  have HNL := hide hnl
  have HML := hide hml
  clear hi hs hL hT hl h64 hnl hml
  unfold pa
  cases he : (Cd.check p).2 with
  | succ er =>
    have HF : Hid (Cd.format p = ([], er + 1)) := hide (by rw [Cd.format_no (by omega), he])
    have HE := hide he
    have ne : ((((er + 1 : Nat)) : Int) != 0) = true := by simp; omega
    clear he
    go_enter Tryz.func13, Tryz.ntmps13
    go_wp2_with fail
    refine (check_any p A D n c m d B _ hi1 hs1 (by simp; omega) hn hm HM.out HL1.out).mono ?_
    rintro e w1 ⟨rfl, hb1⟩
    rw [HE.out]
    have hfin := below_boxed hb1
    go_wp2
    go_ret2
    exact StrPost.none HF.out rfl hfin
  | zero =>
    have hG : Cd.Good p := ⟨he, H64.out⟩
    have HG := hide hG
    have HF : Hid (Cd.format p = (Cd.text p, 0)) := hide (Cd.format_ok he)
    have HE := hide he
    obtain ⟨⟨k1, k2, k3⟩, ⟨k4, k5⟩, k6⟩ := Cd.ok_of_check he
    have K3 := hide k3
    have K6 := hide k6
    have HW := hide (Cd.words_le hG)
    clear he hG k3 k6
    go_enter Tryz.func13, Tryz.ntmps13
    go_wp2_with fail
    refine (check_any p A D n c m d B _ hi1 hs1 (by simp; omega) hn hm HM.out HL1.out).mono ?_
    rintro e w1 ⟨rfl, hb1⟩
    rw [HE.out]
    have hb01 := below_boxed hb1
    have hsz1 := hb1.size
    simp at hsz1
    have Q1 := O1.below hb1 (by simp)
    have hi2 := hi1.belowLe hb1 (by simp; omega)
    have hs2 := hs1.belowLe hb1 (by simp; omega)
    have HL2 := hide (HL1.out.below hb1)
    have HT2 := hide (HT1.out.below hb1)
    clear hi1 hs1 O1 hb0 hb1 HL1 HT1
    have fb := Lib.fresh_isBuilder 58 5 w1
    have Q2 := Q1.alloc (.cells #[.pointer none, .slice none 0 0] 58)
    have r2 := Q2.cell 2
    simp at r2
    have hbB : Below w1.heap.size w1 (w1.alloc (.cells #[.pointer none, .slice none 0 0] 58)) := (Below.refl _ _).alloc (Nat.le_refl _) _
    have HT3 := hide (HT2.out.below hbB)
    have hsB : (w1.alloc (.cells #[.pointer none, .slice none 0 0] 58)).heap.size = w1.heap.size + 1 := by simp
    go_wp2_with fail
    refine (formatT_any p.pages _ (by omega) (by omega) HT3.out).mono ?_
    rintro e w2 ⟨rfl, hb2⟩
    have fb2 := builder_below fb hb2
    have hbB2 := hbB.trans (hb2.mono (by simp))
    have hsz2 := hbB2.size
    have fb3 := builder_alloc fb2 (.cells #[.string ⟨#[112, 97, 103, 101, 115]⟩, .string ⟨(Lib.itoa p.pages).toArray⟩] 9)
    have hbB3 := hbB2.alloc hsz2 (.cells #[.string ⟨#[112, 97, 103, 101, 115]⟩, .string ⟨(Lib.itoa p.pages).toArray⟩] 9)
    have hS3 : Strs (w2.alloc (.cells #[.string ⟨#[112, 97, 103, 101, 115]⟩, .string ⟨(Lib.itoa p.pages).toArray⟩] 9)) (w2.heap.size + 1) (some ⟨w2.heap.size, 0, none⟩) 2 [Cd.pagesW, Lib.itoa p.pages] := ⟨rfl, Row.list w2 _ _⟩
    clear fb fb2 hbB Q2 r2
    go_wp2_with fail
    refine (writeLine_any w1.heap.size w1.heap.size [] _ 2 2 (w2.heap.size + 1) [Cd.pagesW, Lib.itoa p.pages] _ fb3 hS3 (by simp) (by omega) HW.out.1 (by simp) (Cd.join_le _) (by simp; omega)).mono ?_
    rintro e w3 ⟨rfl, fb4, hb4⟩
    have hbB4 := hbB3.trans hb4
    have hsz4 := hbB4.size
    rw [show [] ++ Cd.lineOf [Cd.pagesW, Lib.itoa p.pages] = Cd.strsTo p 0 from (Cd.strsTo_zero p).symm] at fb4
    have Q4 := Q1.below hbB4 Q1.lt
    have r1 := Q4.cell 1
    simp at r1
    clear fb3 hbB3 hS3 hb4
    have hbe := Nat.le_trans hsz2 (Nat.le_refl _)
    go_wp2_with fail
    go_loopw [27] (fun s27 wr => ∃ i : Nat, s27 = .int .i64 (i : Int) ∧ i ≤ m ∧ Lib.IsBuilder 58 5 w1.heap.size w1.heap.size (Lib.byteCells (Cd.strsTo p i)) wr ∧ Below w1.heap.size w1 wr) (fun s27 _ => m - (intOf s27).toNat)
    case atStart => exact ⟨0, rfl, by omega, fb4, hbB4⟩
    case round =>
      clear fb4 hbB4 hsz4 Q4 r1
      obtain ⟨i, rfl, hi, fb, hb⟩ := hrel
      have hsz := hb.size
      have Q := Q1.below hb Q1.lt
      have r1 := Q.cell 1
      have r0 := Q.cell 0
      simp at r0 r1
      by_cases hlt : i < m
      · obtain ⟨b, o, hil, rfl, hbb, hc⟩ := (hs2.belowLe hb (by omega)).at_ hlt
        have HS := hide (Cd.strsTo_succ hil)
        have HWi := hide (HW.out.2.1 _ (List.getElem_mem hil))
        have HLe := hide (Cd.strsTo_le HG.out i)
        generalize p.strs[i] = x at *
        have fb3 := builder_alloc fb (.cells #[.string ⟨#[115, 116, 114, 105, 110, 103]⟩, .string ⟨x.toArray⟩] 9)
        have hb3 := hb.alloc hsz (.cells #[.string ⟨#[115, 116, 114, 105, 110, 103]⟩, .string ⟨x.toArray⟩] 9)
        have hS3 : Strs (wr.alloc (.cells #[.string ⟨#[115, 116, 114, 105, 110, 103]⟩, .string ⟨x.toArray⟩] 9)) (wr.heap.size + 1) (some ⟨wr.heap.size, 0, none⟩) 2 [Cd.stringW, x] := ⟨rfl, Row.list wr _ _⟩
        go_wp2_with fail
        refine (writeLine_any w1.heap.size w1.heap.size (Cd.strsTo p i) _ 2 2 (wr.heap.size + 1) [Cd.stringW, x] _ fb3 hS3 (by simp) (by omega) HWi.out (by have := HLe.out; omega) (Cd.join_le _) (by simp; omega)).mono ?_
        rintro e w4 ⟨rfl, fb4, hb4⟩
        rw [show Cd.strsTo p i ++ Cd.lineOf [Cd.stringW, x] = Cd.strsTo p (i + 1) from HS.out.symm] at fb4
        have hb5 := hb3.trans hb4
        go_wp2
        go_roundw
        case rel => exact ⟨i + 1, by go_num, by omega, fb4, hb5⟩
        case measure => simp [intOf]; omega
      · have him : i = m := by omega
        have HA : Hid (Cd.strsTo p i = Cd.codeTo p 0) := hide (by rw [him, ← HML.out]; exact Cd.strsTo_all)
        rw [HA.out] at fb
        clear him
        go_wp2_with fail
        go_loopw [38] (fun s38 wv => ∃ j : Nat, s38 = .int .i64 (j : Int) ∧ j ≤ n ∧ Lib.IsBuilder 58 5 w1.heap.size w1.heap.size (Lib.byteCells (Cd.codeTo p j)) wv ∧ Below w1.heap.size w1 wv) (fun s38 _ => n - (intOf s38).toNat)
        case atStart => exact ⟨0, rfl, by omega, fb, hb⟩
        case round =>
          clear fb hb hsz Q r1 r0
          obtain ⟨j, rfl, hj, fb, hb⟩ := hrel
          have hsz := hb.size
          by_cases hlt : j < n
          · obtain ⟨b, o, hjl, rfl, hbb, c0, c1, c2, c3⟩ := (hi2.belowLe hb (by omega)).at_ hlt
            have HS := hide (Cd.codeTo_succ hjl)
            have HWi := hide (HW.out.2.2 _ (List.getElem_mem hjl))
            have HLe := hide (Cd.codeTo_le HG.out j)
            have hR := Cd.right_fits (K6.out _ (List.getElem_mem hjl))
            have H6 := hide (H64.out _ (List.getElem_mem hjl))
            generalize p.code[j] = x at *
            obtain ⟨⟨x0, x12⟩, _⟩ := hR
            obtain ⟨op, xa, xb, xc⟩ := x
            obtain ⟨k, rfl⟩ := Int.eq_ofNat_of_zero_le x0
            simp only at c0 c1 c2 c3 x12
            have hbx := hb.alloc hsz (.cells #[.int .i64 (k : Int), .int .i64 xa, .int .i64 xb, .int .i64 xc] 32)
            have fbx := builder_alloc fb (.cells #[.int .i64 (k : Int), .int .i64 xa, .int .i64 xb, .int .i64 xc] 32)
            have HLx := hide (HL2.out.below hbx)
            have HTx := hide (HT2.out.below hbx)
            go_wp2_with fail
            refine (instructionWords_any k xa xb xc _ (by omega) H6.out HLx.out HTx.out).mono ?_
            rintro e w4 ⟨A4, c4, rfl, hc4, hc63, hS4, hb4⟩
            have hbv := hbx.trans (hb4.mono (by simp; omega))
            have fbv := builder_below fbx hb4
            have hszv := hbv.size
            go_wp2_with fail
            refine (writeLine_any w1.heap.size w1.heap.size (Cd.codeTo p j) A4 _ c4 w4.heap.size (Cd.insWords ⟨(k : Int), xa, xb, xc⟩) _ fbv hS4 (Nat.le_refl _) (by omega) HWi.out (by have := HLe.out; omega) (Cd.join_le _) hszv).mono ?_
            rintro e w5 ⟨rfl, fb5, hb5⟩
            rw [show Cd.codeTo p j ++ Cd.lineOf (Cd.insWords ⟨(k : Int), xa, xb, xc⟩) = Cd.codeTo p (j + 1) from HS.out.symm] at fb5
            have hb6 := hbv.trans hb5
            go_wp2
            go_roundw
            case rel => exact ⟨j + 1, by go_num, by omega, fb5, hb6⟩
            case measure => simp [intOf]; omega
          · have hjn : j = n := by omega
            have HA : Hid (Cd.codeTo p j = Cd.text p) := hide (by rw [hjn, ← HNL.out]; exact Cd.codeTo_all)
            rw [HA.out] at fb
            clear hjn
            go_wp2_with fail
            refine (Tryz.Builder_String_any w1.heap.size w1.heap.size (Cd.text p) _ fb hsz).mono ?_
            rintro e w6 ⟨rfl, hb6⟩
            have hfin := hb01.trans ((hb.trans hb6).mono (by omega))
            go_wp2
            go_ret2
            exact StrPost.of HF.out rfl hfin
end Go.Proofs.YtfjekckcpkkdiaaGreatDoor
