/- Layer 4, the document's own answer to Format: a contract. -/
import Derived.Test.YtfjekckcpkkdiaaGreatDoorCodeFormat
import Derived.Test.YtfjekckcpkkdiaaGreatDoorCodeRefCheck2
namespace Go.Proofs.YtfjekckcpkkdiaaGreatDoor
open Go.RowKit

theorem ba_app (a b : ByteArray) : (a ++ b).data.toList = a.data.toList ++ b.data.toList := by simp
theorem str_of_list {S : ByteArray} {l : List UInt8} (h : S.data.toList = l) : S = ⟨l.toArray⟩ := by subst h; rfl
theorem StrPost.ba {r : List UInt8 × Nat} {S : ByteArray} {l : List UInt8} {er : Nat} {w w' : World} {e : Ending} (hr : r = (l, er)) (hS : S.data.toList = l) (he : e = .returned (.tuple #[.string S, .int .i64 (er : Int)])) (hb : Below w.heap.size w w') : StrPost r w e w' := by
  rw [str_of_list hS] at he
  exact StrPost.of hr he hb

set_option maxRecDepth 100000 in
set_option maxHeartbeats 4000000 in
theorem ref4Format_any (p : Cd.Pr) (A D : Option Addr) (n c m d B : Nat) (w : World) (hi : Inss w B A n p.code) (hs : Strs w B D m p.strs) (hB : B ≤ w.heap.size) (hn : n ≤ 9223372036854775807) (hm : m ≤ 9223372036854775807) (hl : ∀ x ∈ p.strs, x.length ≤ 9223372036854775807) (h64 : ∀ x ∈ p.code, Cd.in64 x) :
    Calls Tryz.prog 14 #[pa A n c D m d p.pages] w (StrPost (Cd.format p) w) := by
  have O1 := Obl.make w 25 #[.slice A n c, .slice D m d, .int .i64 p.pages]
  have hi1 := hi.alloc hB (.cells #[.slice A n c, .slice D m d, .int .i64 p.pages] 25)
  have hs1 : Strs (w.alloc (.cells #[.slice A n c, .slice D m d, .int .i64 p.pages] 25)) B D m p.strs := hs.below ((Below.refl _ _).alloc hB _)
  have HM := hide hl
  have H64 := hide h64
  have HNL := hide hi.len
  have HML := hide hs.len
  clear hi hs hl h64
  unfold pa
  cases he : (Cd.check p).2 with
  | succ er =>
    have HF : Hid (Cd.format p = ([], er + 1)) := hide (by rw [Cd.format_no (by omega), he])
    have HE := hide he
    have ne : ((((er + 1 : Nat)) : Int) != 0) = true := by simp; omega
    clear he
    go_enter Tryz.func14, Tryz.ntmps14
    go_wp2_with fail
    refine (refCheck_any p A D n c m d B _ hi1 hs1 (by simp; omega) hn hm HM.out).mono ?_
    rintro e w1 ⟨rfl, hb1⟩
    rw [HE.out]
    have hfin := below_boxed hb1
    go_wp2
    go_ret2
    exact StrPost.none HF.out rfl hfin
  | zero =>
    have hG : Cd.Good p := ⟨he, H64.out⟩
    have HG := hide hG
    have HF : Hid (Cd.format p = (Cd.text p, 0)) := hide (Cd.format_ok he)
    have HE := hide he
    obtain ⟨⟨k1, k2, k3⟩, ⟨k4, k5⟩, k6⟩ := Cd.ok_of_check he
    have K6 := hide k6
    have HW := hide (Cd.words_le hG)
    have HSt := hide fun i => Cd.strsTo_le hG i
    have HCt := hide fun i => Cd.codeTo_le hG i
    clear he hG k3 k6
    go_enter Tryz.func14, Tryz.ntmps14
    go_wp2_with fail
    refine (refCheck_any p A D n c m d B _ hi1 hs1 (by simp; omega) hn hm HM.out).mono ?_
    rintro e w1 ⟨rfl, hb1⟩
    rw [HE.out]
    have hb01 := below_boxed hb1
    have hsz1 := hb1.size
    simp at hsz1
    have Q1 := O1.below hb1 (by simp)
    have hi2 := hi1.belowLe hb1 (by simp; omega)
    have hs2 := hs1.belowLe hb1 (by simp; omega)
    have r2 := Q1.cell 2
    simp at r2
    clear hi1 hs1 O1 hb1
    go_wp2_with fail
    refine (refFormat_any p.pages _ (by omega) (by omega)).mono ?_
    rintro e w2 ⟨rfl, hb2⟩
    have hsz2 := hb2.size
    have hit := itoa_size (n := p.pages) (by omega) (by omega)
    have HS0 : Hid (((⟨#[112, 97, 103, 101, 115, 32]⟩ ++ ⟨(Lib.itoa p.pages).toArray⟩ : ByteArray) ++ ⟨#[10]⟩).data.toList = Cd.strsTo p 0) := hide (by
      rw [Cd.strsTo_zero, ba_app, ba_app]
      unfold Cd.pagesL Cd.lineOf
      rw [Cd.pages_join (by omega) (by omega)]
      simp [Cd.pagesW])
    have Q2 := Q1.below hb2 Q1.lt
    have r1 := Q2.cell 1
    simp at r1
    generalize (⟨(Lib.itoa p.pages).toArray⟩ : ByteArray) = si at *
    go_wp2_with fail
    go_loopw [6, 33] (fun s6 s33 wr => ∃ (i : Nat) (T : ByteArray), s6 = .string T ∧ s33 = .int .i64 (i : Int) ∧ i ≤ m ∧ Hid (T.data.toList = Cd.strsTo p i) ∧ Below w1.heap.size w1 wr) (fun _ s33 _ => m - (intOf s33).toNat)
    case atStart => exact ⟨0, _, rfl, rfl, by omega, HS0, hb2⟩
    case round =>
      clear HS0 Q2 r1 hb2 hsz2
      obtain ⟨i, T, rfl, rfl, hi, HT, hb⟩ := hrel
      have hsz := hb.size
      have hTs : T.size ≤ 10000 := by rw [Lib.size_eq, HT.out]; exact HSt.out i
      by_cases hlt : i < m
      · obtain ⟨b, o, hil, rfl, hbb, hc⟩ := (hs2.belowLe hb (by omega)).at_ hlt
        have HS := hide (Cd.strsTo_succ hil)
        have HWi := hide (HW.out.2.1 _ (List.getElem_mem hil))
        generalize p.strs[i] = x at *
        have hb3 := hb.alloc hsz (.cells #[.string ⟨#[115, 116, 114, 105, 110, 103]⟩, .string ⟨x.toArray⟩] 9)
        have hS3 : Strs (wr.alloc (.cells #[.string ⟨#[115, 116, 114, 105, 110, 103]⟩, .string ⟨x.toArray⟩] 9)) (wr.heap.size + 1) (some ⟨wr.heap.size, 0, none⟩) 2 [Cd.stringW, x] := ⟨rfl, Row.list wr _ _⟩
        go_wp2_with fail
        refine (refJoin_any _ 2 2 [Cd.stringW, x] _ (wr.heap.size + 1) hS3 (by simp) (by omega) HWi.out).mono ?_
        rintro e w4 ⟨rfl, hb4⟩
        have hb5 := hb3.trans (hb4.mono (by simp; omega))
        have hjs : (⟨(Wd.join [Cd.stringW, x]).1.toArray⟩ : ByteArray).size ≤ 1000000 := by rw [ba_size]; exact Cd.join_le _
        have HS2 : Hid ((T ++ (⟨(Wd.join [Cd.stringW, x]).1.toArray⟩ ++ ⟨#[10]⟩ : ByteArray)).data.toList = Cd.strsTo p (i + 1)) := hide (by
          rw [HS.out, ba_app, ba_app, HT.out]; rfl)
        generalize (⟨(Wd.join [Cd.stringW, x]).1.toArray⟩ : ByteArray) = sj at *
        generalize (Wd.join [Cd.stringW, x]).2 = ej at *
        go_wp2
        go_roundw
        case rel => exact ⟨i + 1, _, rfl, by go_num, by omega, HS2, hb5⟩
        case measure => simp [intOf]; omega
      · have him : i = m := by omega
        have HA : Hid (T.data.toList = Cd.codeTo p 0) := hide (by rw [HT.out, him, ← HML.out]; exact Cd.strsTo_all)
        have Q := Q1.below hb Q1.lt
        have r0 := Q.cell 0
        simp at r0
        clear him HT hTs
        go_wp2_with fail
        go_loopw [6, 51] (fun s6 s51 wv => ∃ (j : Nat) (T : ByteArray), s6 = .string T ∧ s51 = .int .i64 (j : Int) ∧ j ≤ n ∧ Hid (T.data.toList = Cd.codeTo p j) ∧ Below w1.heap.size w1 wv) (fun _ s51 _ => n - (intOf s51).toNat)
        case atStart => exact ⟨0, T, rfl, rfl, by omega, HA, hb⟩
        case round =>
          clear HA hb hsz Q r0
          obtain ⟨j, U, rfl, rfl, hj, HU, hb⟩ := hrel
          have hsz := hb.size
          have hUs : U.size ≤ 40000 := by rw [Lib.size_eq, HU.out]; exact HCt.out j
          by_cases hlt : j < n
          · obtain ⟨b, o, hjl, rfl, hbb, c0, c1, c2, c3⟩ := (hi2.belowLe hb (by omega)).at_ hlt
            have HS := hide (Cd.codeTo_succ hjl)
            have hR := Cd.right_fits (K6.out _ (List.getElem_mem hjl))
            have H6 := hide (H64.out _ (List.getElem_mem hjl))
            generalize p.code[j] = x at *
            obtain ⟨⟨x0, x12⟩, _⟩ := hR
            have HI := hide (Cd.insL_eq H6.out x0 x12)
            obtain ⟨op, xa, xb, xc⟩ := x
            obtain ⟨k, rfl⟩ := Int.eq_ofNat_of_zero_le x0
            simp only at c0 c1 c2 c3 x12
            have hk : k < 13 := by omega
            have hbx := hb.alloc hsz (.cells #[.int .i64 (k : Int), .int .i64 xa, .int .i64 xb, .int .i64 xc] 32)
            have Ox := Obl.make wr 32 #[.int .i64 (k : Int), .int .i64 xa, .int .i64 xb, .int .i64 xc]
            have HRf3 := hide (show (⟨(Cd.opn (k : Int)).form.toArray⟩ : ByteArray).size ≤ 3 by rw [ba_size]; exact Cd.form_le _)
            have HRn5 := hide (show (⟨(Cd.opn (k : Int)).name.toArray⟩ : ByteArray).size ≤ 5 by rw [ba_size]; exact (Cd.name_ok (op := (k : Int)) (by omega) (by omega)).2.2.1)
            go_wp2_with fail
            refine (form_any (k : Int) _).mono ?_
            rintro e u1 ⟨rfl, hbu⟩
            obtain ⟨nm, f, ls, ms, ho, hnm, hf⟩ : ∃ (nm f : ByteArray) (ls ms : Int), Cd.opn (k : Int) = ⟨nm.data.toList, f.data.toList, ls, ms⟩ ∧ (⟨(Cd.opn (k : Int)).name.toArray⟩ : ByteArray) = nm ∧ (⟨(Cd.opn (k : Int)).form.toArray⟩ : ByteArray) = f :=
              ⟨⟨(Cd.opn (k : Int)).name.toArray⟩, ⟨(Cd.opn (k : Int)).form.toArray⟩, (Cd.opn (k : Int)).least, (Cd.opn (k : Int)).most, rfl, rfl, rfl⟩
            rw [hf] at HRf3
            rw [hnm] at HRn5
            rw [hnm, hf]
            have HO := hide ho
            have hf3 := HRf3.out
            have hn5 := HRn5.out
            clear ho hnm hf
            have Ox1 := Ox.below hbu Ox.lt
            have d1 := Ox1.cell 1
            have d2 := Ox1.cell 2
            have d3 := Ox1.cell 3
            simp at d1 d2 d3
            have hbu1 := hbx.trans (hbu.mono (by simp; omega))
            have Oy := Obl.make u1 3 #[.int .i64 xa, .int .i64 xb, .int .i64 xc]
            have hb5 := hbu1.alloc hbu1.size (.cells #[.int .i64 xa, .int .i64 xb, .int .i64 xc] 3)
            have hby0 : Below (u1.heap.size + 1) (u1.alloc (.cells #[.int .i64 xa, .int .i64 xb, .int .i64 xc] 3)) (u1.alloc (.cells #[.int .i64 xa, .int .i64 xb, .int .i64 xc] 3)) := Below.refl _ _
            have HZ0 : Hid ((U ++ nm).data.toList = Cd.codeTo p j ++ (nm.data.toList ++ (Cd.opWords ⟨(k : Int), xa, xb, xc⟩ (min 0 f.size)).flatMap (fun w => 32 :: w))) := hide (by
              rw [ba_app, HU.out]; simp [Cd.opWords])
            clear hbu Ox Ox1 c0 c1 c2 c3 hb hbx
            go_wp2_with fail
            go_loopw [6, 72] (fun s6 s72 wz => ∃ (i : Nat) (T : ByteArray), s6 = .string T ∧ s72 = .int .i64 (i : Int) ∧ i ≤ 3 ∧ Hid (T.data.toList = Cd.codeTo p j ++ (nm.data.toList ++ (Cd.opWords ⟨(k : Int), xa, xb, xc⟩ (min i f.size)).flatMap (fun w => 32 :: w))) ∧ Below (u1.heap.size + 1) (u1.alloc (.cells #[.int .i64 xa, .int .i64 xb, .int .i64 xc] 3)) wz) (fun _ s72 _ => 3 - (intOf s72).toNat)
            case atStart => exact ⟨0, _, rfl, rfl, by omega, HZ0, hby0⟩
            case round =>
              clear HZ0 hby0 d1 d2 d3
              obtain ⟨i, T, rfl, rfl, hi, HT, hbz⟩ := hrel
              have hbw := hb5.trans (hbz.mono (by have := hbu1.size; omega))
              have hTs : T.size ≤ 50000 := by
                have h1 := HCt.out j
                have h2 := Cd.opWords_size H6.out (min i f.size)
                have h3 := Cd.tail_len (Cd.opWords ⟨(k : Int), xa, xb, xc⟩ (min i f.size))
                rw [h2.2] at h3
                have h4 := Lib.size_eq nm
                rw [Lib.size_eq, HT.out, List.length_append, List.length_append, h3]
                have := h2.1
                omega
              by_cases hlt3 : i < 3
              · have hi3 : (i : Int) < 3 := by omega
                obtain ⟨v, hv⟩ : ∃ v, Cd.arg ⟨(k : Int), xa, xb, xc⟩ i = v := ⟨_, rfl⟩
                have ra : wr.cell? ⟨u1.heap.size, i, none⟩ = some (.int .i64 v) := by
                  rw [(Oy.below hbz (by omega)).cell, ← hv]
                  rcases (show i = 0 ∨ i = 1 ∨ i = 2 by omega) with rfl | rfl | rfl <;> rfl
                obtain ⟨hv1, hv2⟩ := Cd.arg64 H6.out i
                rw [hv] at hv1 hv2
                by_cases hif : i < f.size
                · have hx : Cd.opWord ⟨(k : Int), xa, xb, xc⟩ i = Cd.operand f[i] v := by
                    unfold Cd.opWord
                    rw [hv, HO.out]
                    simp only
                    rw [Cd.getD_at _ _ (by rw [← Lib.size_eq]; exact hif)]; rfl
                  have hos : (⟨(Cd.operand f[i] v).toArray⟩ : ByteArray).size ≤ 31 := by rw [ba_size]; exact Cd.operand_le _ hv1 hv2
                  have HT2 : Hid ((T ++ (⟨#[32]⟩ ++ ⟨(Cd.operand f[i] v).toArray⟩ : ByteArray)).data.toList = Cd.codeTo p j ++ (nm.data.toList ++ (Cd.opWords ⟨(k : Int), xa, xb, xc⟩ (min (i + 1) f.size)).flatMap (fun w => 32 :: w))) := hide (by
                    rw [show min (i + 1) f.size = i + 1 by omega, Cd.opWords_succ, hx, ba_app, ba_app, HT.out, show min i f.size = i by omega]
                    simp)
                  clear hv hx
                  go_wp2_with fail
                  refine (refOperand_any f[i] v _ hv1 hv2).mono ?_
                  rintro e w6 ⟨rfl, hb6⟩
                  have hb7 := hbz.trans (hb6.mono (by have := hbz.size; simpa using this))
                  generalize (⟨(Cd.operand f[i] v).toArray⟩ : ByteArray) = so at *
                  go_wp2
                  go_roundw
                  case rel => exact ⟨i + 1, _, rfl, by go_num, by omega, HT2, hb7⟩
                  case measure => simp [intOf]; omega
                · have HT2 : Hid (T.data.toList = Cd.codeTo p j ++ (nm.data.toList ++ (Cd.opWords ⟨(k : Int), xa, xb, xc⟩ (min (i + 1) f.size)).flatMap (fun w => 32 :: w))) := hide (by
                    rw [HT.out, show min (i + 1) f.size = min i f.size by omega])
                  clear hv
                  go_wp2
                  go_roundw
                  case rel => exact ⟨i + 1, _, rfl, by go_num, by omega, HT2, hbz⟩
                  case measure => simp [intOf]; omega
              · obtain rfl : i = 3 := by omega
                have HE : Hid ((T ++ ⟨#[10]⟩ : ByteArray).data.toList = Cd.codeTo p (j + 1)) := hide (by
                  rw [HS.out, HI.out, ba_app, HT.out, HO.out]
                  simp only
                  rw [show min 3 f.size = f.size by omega, Lib.size_eq]
                  simp)
                go_wp2
                go_roundw
                case rel => exact ⟨j + 1, _, rfl, by go_num, by omega, HE, hbw⟩
                case measure => simp [intOf]; omega
          · have hjn : j = n := by omega
            have HA : Hid (U.data.toList = Cd.text p) := hide (by rw [HU.out, hjn, ← HNL.out]; exact Cd.codeTo_all)
            have hfin := hb01.trans (hb.mono (by omega))
            go_wp2
            go_ret2
            exact StrPost.ba HF.out HA.out rfl hfin
end Go.Proofs.YtfjekckcpkkdiaaGreatDoor
