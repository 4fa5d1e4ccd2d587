/- Layer 4: a line that cannot be read is reported by its number (CodeLines): the walk. -/
import Derived.Test.YtfjekckcpkkdiaaGreatDoorLawBack
import Derived.Test.YtfjekckcpkkdiaaGreatDoorOwn
import Derived.Lib.OthersKept
namespace Go.Proofs.YtfjekckcpkkdiaaGreatDoor
open Go.RowKit

theorem own_iterAt {w : World} {B e size n : Nat} {v : Value} {xs : List Value} {k : Nat} {s : ByteArray} {pos : Nat} (h : w.ownsRow B e size v n xs) (hk : w.heap[k]? = some (.stringIter s pos)) (pos' : Nat) : (w.iterAt k s pos').ownsRow B e size v n xs := by
  refine ⟨h.1, ?_⟩
  rcases h.2 with h0 | ⟨g, cap, cur, hv, hg, hh, hn⟩
  · exact .inl h0
  · refine .inr ⟨g, cap, cur, hv, hg, ?_, hn⟩
    rw [Lib.iterAt_other _ _ _ _ _ (fun e => by subst e; rw [hk] at hh; cases hh)]
    exact hh
theorem own_ne_iter {w : World} {B e size n c : Nat} {A : Option Addr} {xs : List Value} {k : Nat} {s : ByteArray} {pos : Nat} (h : w.ownsRow B e size (.slice A n c) n xs) (hk : w.heap[k]? = some (.stringIter s pos)) : some k ≠ blk A := by
  rcases h.2 with ⟨hv, _⟩ | ⟨g, cap, cur, hv, _, hh, _⟩
  · cases hv; simp [blk]
  · cases hv
    intro he
    simp only [blk, Option.map_some, Option.some.injEq] at he
    subst he
    rw [hk] at hh
    cases hh
theorem Obl_iter {w : World} {k : Nat} {s : ByteArray} {pos : Nat} (h : w.heap[k]? = some (.stringIter s pos)) (o : Obj) : (w.alloc o).heap[k]? = some (.stringIter s pos) := (Below.heap_alloc w o k (lt_of_block h)).trans h
/-- Where an iterator stands. -/
def iterPos (w : World) (k : Nat) : Nat := match w.heap[k]? with
  | some (.stringIter _ p) => p
  | _ => 0
theorem iterPos_eq {w : World} {k : Nat} {s : ByteArray} {p : Nat} (h : w.heap[k]? = some (.stringIter s p)) : iterPos w k = p := by unfold iterPos; rw [h]
namespace Cd
/-- How far the lines of the first i bytes reach. -/
def from_ (T : List UInt8) (i : Nat) : Nat := i - (cuts (T.take i)).2.length
def sofar (T : List UInt8) (i : Nat) : List (List UInt8) := (cuts (T.take i)).1
theorem take_succ' {T : List UInt8} {i : Nat} (h : i < T.length) : T.take (i + 1) = T.take i ++ [T[i]] := List.take_succ_eq_append_getElem h
theorem from_le (T : List UInt8) (i : Nat) : from_ T i ≤ i := Nat.sub_le _ _
theorem from_no {T : List UInt8} {i : Nat} (h : i < T.length) (hc : T[i] ≠ 10) : from_ T (i + 1) = from_ T i ∧ sofar T (i + 1) = sofar T i := by
  have hl := cuts_le (T.take i)
  rw [List.length_take] at hl
  unfold from_ sofar
  rw [take_succ' h, cuts_snoc_no hc]
  simp only [List.length_append, List.length_cons, List.length_nil, and_true]
  omega
theorem from_lf {T : List UInt8} {i : Nat} (h : i < T.length) (hc : T[i] = 10) : from_ T (i + 1) = i + 1 ∧ sofar T (i + 1) = sofar T i ++ [(T.take (i + 1)).drop (from_ T i)] := by
  have hl := cuts_le (T.take i)
  have hr := cuts_rest (T.take i)
  rw [List.length_take, Nat.min_eq_left (by omega)] at hl hr
  unfold from_ sofar
  rw [take_succ' h, cuts_snoc_lf hc]
  refine ⟨by simp, ?_⟩
  rw [List.drop_append_of_le_length (by rw [List.length_take]; omega), hr]
theorem sofar_zero (T : List UInt8) : from_ T 0 = 0 ∧ sofar T 0 = [] := ⟨rfl, rfl⟩
theorem sofar_le (T : List UInt8) (i : Nat) : (sofar T i).length ≤ i := by
  have key : ∀ (l : List UInt8) (s : List (List UInt8) × List UInt8), (l.foldl cutS s).1.length ≤ s.1.length + l.length := by
    intro l
    induction l with
    | nil => intro s; simp
    | cons c l ih =>
      intro s
      have := ih (cutS s c)
      have h1 : (cutS s c).1.length ≤ s.1.length + 1 := by unfold cutS; split <;> simp
      rw [List.foldl_cons, List.length_cons]
      omega
  have := key (T.take i) ([], [])
  rw [List.length_take] at this
  unfold sofar cuts
  simp only [List.length_nil] at this
  omega
end Cd
theorem ext_list (T : ByteArray) (a b : Nat) : T.extract a b = ⟨((T.data.toList.take b).drop a).toArray⟩ := by
  apply ByteArray.ext
  apply Array.ext'
  simp [List.drop_take]

theorem Cd.flat_take_le (L : List (List UInt8)) (j : Nat) : ((L.take j).flatten).length ≤ L.flatten.length := by
  have h : L.flatten = (L.take j).flatten ++ (L.drop j).flatten := by rw [← List.flatten_append, List.take_append_drop]
  rw [h, List.length_append]
  omega
theorem bad_at (z : Nat) (hz : z < 7) : ∃ bl, (#[.string ⟨#[98, 111, 111, 10]⟩, .string ⟨#[115, 101, 116, 32, 114, 49, 10]⟩, .string ⟨#[97, 100, 100, 32, 114, 49, 32, 114, 50, 32, 114, 51, 32, 114, 52, 10]⟩, .string ⟨#[106, 117, 109, 112, 32, 120, 10]⟩, .string ⟨#[115, 101, 116, 32, 49, 32, 50, 10]⟩, .string ⟨#[110, 111, 112, 32, 10]⟩, .string ⟨#[34, 10]⟩] : Array Value)[z]? = some (.string ⟨(bl ++ [10]).toArray⟩) ∧ bl ∈ Cd.badL := by
  rcases (show z = 0 ∨ z = 1 ∨ z = 2 ∨ z = 3 ∨ z = 4 ∨ z = 5 ∨ z = 6 by omega) with rfl | rfl | rfl | rfl | rfl | rfl | rfl
  · exact ⟨[98, 111, 111], rfl, by decide⟩
  · exact ⟨[115, 101, 116, 32, 114, 49], rfl, by decide⟩
  · exact ⟨[97, 100, 100, 32, 114, 49, 32, 114, 50, 32, 114, 51, 32, 114, 52], rfl, by decide⟩
  · exact ⟨[106, 117, 109, 112, 32, 120], rfl, by decide⟩
  · exact ⟨[115, 101, 116, 32, 49, 32, 50], rfl, by decide⟩
  · exact ⟨[110, 111, 112, 32], rfl, by decide⟩
  · exact ⟨[34], rfl, by decide⟩

set_option maxRecDepth 100000 in
set_option maxHeartbeats 4000000 in
theorem codeLines_any (S : Option Addr) (q r x y : Nat) (l : List UInt8) (W : World) (h : Bytes W W.heap.size S q l) (hq : q ≤ r ∧ r ≤ 9223372036854775807) (_hx : x < 256) (hy : y < 256) (hL : Laid W) (hO : LaidO W) :
    Calls Tryz.prog 6 #[.slice S q r, .int .u8 (x : Int), .int .u8 (y : Int)] W fun e w' => e = .returned (.bool true) ∧ Below W.heap.size W w' := by
  have HE := hide (Env.start hL hO)
  have HS := hide h
  clear hL hO h
  go_enter Tryz.func6, Tryz.ntmps6
  go_wp2_with fail
  refine (sane_any _ HE.out.laid HE.out.ops HE.out.tab).mono ?_
  rintro e w1 ⟨rfl, hb⟩
  have HE1 := hide (HE.out.next hb)
  have HS1 := hide (HS.out.below hb)
  clear hb HE HS
  go_wp2_with fail
  refine (made_any S q r _ l w1 HS1.out HE1.out.bel.size hq).mono ?_
  rintro e w2 h
  obtain ⟨A, n, c, D, m, d, p, rfl, hp, hi, hs, hn, hm, hb⟩ := h.got
  have HM := hide hp
  have HE2 := hide (HE1.out.next hb)
  have HI := hide hi
  have HJ := hide hs
  clear hb hi hs HE1 HS1 h hp
  go_wp2_with fail
  refine (format4_any p A D n c m d w2.heap.size w2 HI.out HJ.out (Nat.le_refl _) (by omega) (by omega) HM.out.fine.1 HM.out.fine.2 HE2.out.ops HE2.out.tab).mono ?_
  rintro e w3 h
  obtain ⟨rfl, hb⟩ := h.got (Cd.format_ok HM.out.good.1)
  have HE3 := hide (HE2.out.next hb)
  have hTl := Cd.text_le HM.out.good
  obtain ⟨T, hT⟩ : ∃ T : ByteArray, T = ⟨(Cd.text p).toArray⟩ := ⟨_, rfl⟩
  rw [← hT]
  have hTs : T.size ≤ 60000 := by rw [hT, ba_size]; exact hTl
  have HT : Hid (T.data.toList = Cd.text p) := hide (by rw [hT])
  clear hT hTl hb h HI HJ HE2
  have hTl : T.data.toList.length = T.size := (Lib.size_eq T).symm
  have HA : Hid (∀ i (h : i < T.size), T[i].toNat < 128) := hide (fun i h => Cd.text_ascii HM.out.good HM.out.strs_ascii T[i] (by rw [← HT.out]; exact List.getElem_mem (l := T.data.toList) (n := i) (by rw [hTl]; exact h)))
  go_wp2_with fail
  go_loopw [9, 10] (fun s9 s10 wr => ∃ (i n c : Nat) (A : Option Addr), i ≤ T.size ∧ s9 = .slice A n c ∧ s10 = .int .i64 (Cd.from_ T.data.toList i : Int) ∧ wr.heap[w3.heap.size + 1]? = some (.stringIter T i) ∧ wr.ownsRow w3.heap.size 9 1 (.slice A n c) n (sv (Cd.sofar T.data.toList i)) ∧ Hid (Below w3.heap.size w3 wr)) (fun _ _ wr => T.size - iterPos wr (w3.heap.size + 1))
  case atStart =>
    exact ⟨0, 0, 0, some ⟨w3.heap.size, 0, none⟩, by omega, rfl, rfl, by have := World.iter_heap (w3.alloc (.cells #[] 9)) T 0; simpa using this, (own_list [] 9 (Nat.le_refl _) (by simp)).alloc _, hide (((Below.refl _ _).alloc (Nat.le_refl _) _).alloc (by simp) _)⟩
  case round =>
    obtain ⟨i, n, c, A, hi, rfl, rfl, hit, hown, HB⟩ := hrel
    by_cases hlt : i < T.size
    · have hax := HA.out i hlt
      have hit' := Lib.iterAt_heap wr (w3.heap.size + 1) T i (i + 1) hit
      have hown' := own_iterAt hown hit (i + 1)
      have hks := lt_of_block hit
      have HB' := hide (Lib.below_iterAt HB.out (k := w3.heap.size + 1) (by omega) T (i + 1))
      have hnx := fun ty => Lib.run_next_ascii_at (P := Tryz.prog) wr (w3.heap.size + 1) T i ty hit hlt hax
      have hil : i < T.data.toList.length := by omega
      have hsl := Cd.sofar_le T.data.toList i
      have hnl := own_strs hown
      have hf := Cd.from_le T.data.toList i
      have hbs := HB.out.size
      have hip := iterPos_eq hit
      clear hit hown HB hax
      by_cases hc : T.data.toList[i] = 10
      · obtain ⟨l1, l2⟩ := Cd.from_lf hil hc
        have hcb : ((T[i].toNat : Int) == 10) = true := by
          have : T[i] = 10 := hc
          rw [this]; rfl
        have hbase : w3.heap.size ≤ ((wr.iterAt (w3.heap.size + 1) T (i + 1)).alloc (.cells #[.string (T.extract (Cd.from_ T.data.toList i) (i + 1))] 9)).heap.size := by
          have := Lib.iterAt_size wr (w3.heap.size + 1) T (i + 1)
          simp
          omega
        go_wp2_with (at_builtin; refine wpList_append_rd rfl (.tmp 41) (.tmp 47) _ rfl strTy (A := A) (n := n) (c := c) rfl (hown'.alloc _) rfl (Row.new _ _ _) (by simp [Value.oneCell']) (by unfold maxLen; omega) (by omega) hbase ?_; intro A9 c9 w9 hown9 hgrow9 hat9)
        have hit9 := (hgrow9.block (w3.heap.size + 1) (lt_of_block (Obl_iter hit' _)) (own_ne_iter hown' hit')).trans (Obl_iter hit' _)
        have HB9 := hide (below_own (HB'.out.alloc (by rw [Lib.iterAt_size]; omega) _) (hown'.alloc _) hgrow9 hbase)
        rw [ext_list, sv_snoc, ← l2] at hown9
        go_roundw
        case rel => exact ⟨i + 1, n + 1, c9, A9, by omega, rfl, by rw [l1]; rfl, hit9, hown9, HB9⟩
        case measure => rw [iterPos_eq hit9, hip]; omega
      · obtain ⟨l1, l2⟩ := Cd.from_no hil hc
        have hcb : ((T[i].toNat : Int) == 10) = false := by
          have : T[i] ≠ 10 := hc
          have h2 := ne_nat this
          simp only [beq_eq_false_iff_ne, ne_eq]
          intro h3
          exact h2 (by have : (10 : UInt8).toNat = 10 := rfl; omega)
        go_wp2_with fail
        go_roundw
        case rel => exact ⟨i + 1, n, c, A, by omega, rfl, by rw [l1], hit', by rw [l2]; exact hown', HB'⟩
        case measure => rw [iterPos_eq hit', hip]; omega
    · have hie : i = T.size := by omega
      have hnx := fun ty => Lib.run_next_end_at (P := Tryz.prog) wr (w3.heap.size + 1) T i ty hit hlt
      have hall : Cd.sofar T.data.toList i = (Cd.lineList p).map (· ++ [10]) := by
        unfold Cd.sofar
        rw [hie, ← hTl, List.take_length, HT.out, Cd.text_lineList, Cd.cuts_text _ (Cd.lineList_10 p)]
      rw [hall] at hown
      have hnl := own_strs hown
      rw [List.length_map] at hnl
      have hn6 : n ≤ 60000 := by
        have := Cd.sofar_le T.data.toList i
        rw [hall, List.length_map] at this
        omega
      have hn1 : 0 < n := by
        rw [← hnl]
        simp [Cd.lineList, Cd.wordLines]
      have hnc := own_cap hown
      have hc63 := own_cap63 hown
      have hflat : ((Cd.lineList p).map (· ++ [10])).flatten.length = T.size := by
        rw [← hTl, HT.out, Cd.text_lineList]
        simp [Wd.text, List.flatMap]
      have HEr := hide (HE3.out.next HB.out)
      obtain ⟨g, rfl, hg1, hg2⟩ := own_addr hown hn1
      obtain ⟨k, hk, hkn⟩ : ∃ k : Nat, (x : Int) % ((n : Int) + 1) = (k : Int) ∧ k ≤ n := ⟨x % (n + 1), by rw [show ((n : Int) + 1) = ((n + 1 : Nat) : Int) by omega]; exact (Int.natCast_emod x (n + 1)).symm, by have := Nat.mod_lt x (show 0 < n + 1 by omega); omega⟩
      have hkn' : (k : Int) ≤ (n : Int) := by omega
      have hkc' : (k : Int) ≤ (c : Int) := by omega
      have hnz : ¬ (n : Int) + 1 = 0 := by omega
      clear hit HB hall hi hTl
      obtain ⟨L, hL⟩ : ∃ L, L = (Cd.lineList p).map (· ++ [10]) := ⟨_, rfl⟩
      rw [← hL] at hown hflat
      have hLn : L.length = n := by rw [hL, List.length_map]; exact hnl
      have HL := hide hL
      clear hL
      go_wp2_with fail
      go_loop [13, 61] (fun s13 s61 => ∃ (j : Nat) (X : ByteArray), j ≤ k ∧ s61 = .int .i64 (j : Int) ∧ s13 = .string X ∧ Hid (X.data.toList = (L.take j).flatten)) (fun _ s61 => k - (intOf s61).toNat)
      case atStart => exact ⟨0, ⟨#[]⟩, by omega, rfl, rfl, hide rfl⟩
      case round =>
        obtain ⟨j, X, hj, rfl, rfl, HX⟩ := hrel
        have hXs : X.size ≤ 60000 := by
          rw [Lib.size_eq, HX.out]
          have := Cd.flat_take_le L j
          omega
        by_cases hjk : j < k
        · have hjk' : (j : Int) < (k : Int) := by omega
          have hjl : j < L.length := by omega
          have q0 := own_cell hown (sv_at hjl)
          have hadd : (X ++ (⟨L[j].toArray⟩ : ByteArray)).data.toList = (L.take (j + 1)).flatten := by
            rw [List.take_succ_eq_append_getElem hjl, List.flatten_append, ← HX.out]
            simp
          have hls : (⟨L[j].toArray⟩ : ByteArray).size ≤ 60000 := by
            have h1 := Cd.flat_take_le L (j + 1)
            have e1 : (X ++ (⟨L[j].toArray⟩ : ByteArray)).data.toList.length = X.data.toList.length + L[j].length := by simp
            rw [← hadd, e1] at h1
            rw [ba_size]
            omega
          have HX1 := hide hadd
          clear hadd HX
          go_wp2
          go_round
          case rel => exact ⟨j + 1, _, by omega, by go_num, rfl, HX1⟩
          case measure => simp [intOf]; omega
        · have hjk' : ¬ (j : Int) < (k : Int) := by omega
          obtain rfl : j = k := by omega
          obtain ⟨z, hz, hz7⟩ : ∃ z : Nat, (y : Int) % 7 = (z : Int) ∧ z < 7 := ⟨y % 7, by omega, Nat.mod_lt _ (by omega)⟩
          have hz7' : (z : Int) < 7 := by omega
          obtain ⟨bl, hbl, hbad⟩ := bad_at z hz7
          have hO : Obl (wr.alloc (.cells #[.string ⟨#[98, 111, 111, 10]⟩, .string ⟨#[115, 101, 116, 32, 114, 49, 10]⟩, .string ⟨#[97, 100, 100, 32, 114, 49, 32, 114, 50, 32, 114, 51, 32, 114, 52, 10]⟩, .string ⟨#[106, 117, 109, 112, 32, 120, 10]⟩, .string ⟨#[115, 101, 116, 32, 49, 32, 50, 10]⟩, .string ⟨#[110, 111, 112, 32, 10]⟩, .string ⟨#[34, 10]⟩] 9)) wr.heap.size 9 #[.string ⟨#[98, 111, 111, 10]⟩, .string ⟨#[115, 101, 116, 32, 114, 49, 10]⟩, .string ⟨#[97, 100, 100, 32, 114, 49, 32, 114, 50, 32, 114, 51, 32, 114, 52, 10]⟩, .string ⟨#[106, 117, 109, 112, 32, 120, 10]⟩, .string ⟨#[115, 101, 116, 32, 49, 32, 50, 10]⟩, .string ⟨#[110, 111, 112, 32, 10]⟩, .string ⟨#[34, 10]⟩] := Obl.make _ _ _
          have q7 := (hO.cell z).trans hbl
          have hbs : (⟨(bl ++ [10]).toArray⟩ : ByteArray).size ≤ 21 := by
            rw [ba_size, List.length_append]
            have := Cd.badL_le bl hbad
            simp only [List.length_cons, List.length_nil]
            omega
          obtain ⟨Bl, hBl⟩ : ∃ Bl : ByteArray, Bl = ⟨(bl ++ [10]).toArray⟩ := ⟨_, rfl⟩
          rw [← hBl] at q7 hbs
          have HBl : Hid (Bl.data.toList = bl ++ [10]) := hide (by rw [hBl])
          clear hO hbl hBl
          obtain ⟨AR, hAR⟩ : ∃ AR : Option Addr, (if c = j then some (⟨g, 0, none⟩ : Addr) else some (⟨g, j, none⟩ : Addr)) = AR := ⟨_, rfl⟩
          have h3 : Strs wr wr.heap.size AR (n - j) (L.drop j) := by
            by_cases hcj : c = j
            · have : L.drop j = [] := List.drop_eq_nil_of_le (by omega)
              rw [this, show n - j = 0 by omega]
              exact Strs.nil
            · rw [if_neg hcj] at hAR
              subst hAR
              refine ⟨by rw [List.length_drop]; omega, ⟨by rw [sv_length, List.length_drop]; omega, by simp, ?_⟩⟩
              have := (Rd.of_own hown).drop_ j
              simpa [sv] using this
          have h3' := h3.below (bel_alloc wr (.cells #[.string ⟨#[98, 111, 111, 10]⟩, .string ⟨#[115, 101, 116, 32, 114, 49, 10]⟩, .string ⟨#[97, 100, 100, 32, 114, 49, 32, 114, 50, 32, 114, 51, 32, 114, 52, 10]⟩, .string ⟨#[106, 117, 109, 112, 32, 120, 10]⟩, .string ⟨#[115, 101, 116, 32, 49, 32, 50, 10]⟩, .string ⟨#[110, 111, 112, 32, 10]⟩, .string ⟨#[34, 10]⟩] 9))
          clear h3
          have hdl : (L.drop j).length = n - j := by rw [List.length_drop]; omega
          have HE3' := hide (HEr.out.alloc (.cells #[.string ⟨#[98, 111, 111, 10]⟩, .string ⟨#[115, 101, 116, 32, 114, 49, 10]⟩, .string ⟨#[97, 100, 100, 32, 114, 49, 32, 114, 50, 32, 114, 51, 32, 114, 52, 10]⟩, .string ⟨#[106, 117, 109, 112, 32, 120, 10]⟩, .string ⟨#[115, 101, 116, 32, 49, 32, 50, 10]⟩, .string ⟨#[110, 111, 112, 32, 10]⟩, .string ⟨#[34, 10]⟩] 9))
          have hX0 : (X ++ Bl).data.toList = (L.take j).flatten ++ (bl ++ [10]) := by
            rw [← HX.out, ← HBl.out]
            simp
          have hsplit : (L.take j).flatten.length + (L.drop j).flatten.length = L.flatten.length := by rw [← List.length_append, ← List.flatten_append, List.take_append_drop]
          have hpre : (X ++ Bl).size + (L.drop j).flatten.length ≤ 60021 := by
            rw [Lib.size_eq, hX0, List.length_append]
            rw [Lib.size_eq, HBl.out] at hbs
            omega
          have HX0 := hide hX0
          have hbLl : bl.length ≤ 20 := Cd.badL_le bl hbad
          have HSP := hide hsplit
          clear hX0 HX HBl hsplit
          have hcj : (j : Int) ≤ (c : Int) := hkc'
          go_wp2_with fail
          clear q7 hAR hbs hXs
          generalize wr.alloc (.cells #[.string ⟨#[98, 111, 111, 10]⟩, .string ⟨#[115, 101, 116, 32, 114, 49, 10]⟩, .string ⟨#[97, 100, 100, 32, 114, 49, 32, 114, 50, 32, 114, 51, 32, 114, 52, 10]⟩, .string ⟨#[106, 117, 109, 112, 32, 120, 10]⟩, .string ⟨#[115, 101, 116, 32, 49, 32, 50, 10]⟩, .string ⟨#[110, 111, 112, 32, 10]⟩, .string ⟨#[34, 10]⟩] 9) = wq at *
          go_loop [13, 80] (fun s13 s80 => ∃ (f : Nat) (Y : ByteArray), f ≤ n - j ∧ s80 = .int .i64 (f : Int) ∧ s13 = .string Y ∧ Hid (Y.data.toList = (L.take j).flatten ++ (bl ++ [10]) ++ ((L.drop j).take f).flatten)) (fun _ s80 => (n - j) - (intOf s80).toNat)
          case atStart => exact ⟨0, _, by omega, rfl, rfl, hide (by rw [HX0.out]; simp)⟩
          case round =>
            obtain ⟨f, Y, hf, rfl, rfl, HY⟩ := hrel
            have hYs : Y.size ≤ 61000 := by
              rw [Lib.size_eq, HY.out]
              have h1 := Cd.flat_take_le (L.drop j) f
              have h2 := HSP.out
              simp only [List.length_append, List.length_cons, List.length_nil]
              omega
            by_cases hfk : f < n - j
            · have hfk' : (f : Int) < (n : Int) - (j : Int) := by omega
              have hfk2 : (f : Int) < ((n - j : Nat) : Int) := by omega
              obtain ⟨bb, oo, hfl, rfl, hbb, hcell⟩ := h3'.at_ hfk
              have hadd : (Y ++ (⟨(L.drop j)[f].toArray⟩ : ByteArray)).data.toList = (L.take j).flatten ++ (bl ++ [10]) ++ ((L.drop j).take (f + 1)).flatten := by
                rw [List.take_succ_eq_append_getElem hfl, List.flatten_append, ← List.append_assoc, ← HY.out]
                simp
              have hls : (⟨(L.drop j)[f].toArray⟩ : ByteArray).size ≤ 60000 := by
                have h1 := Cd.flat_take_le (L.drop j) (f + 1)
                rw [List.take_succ_eq_append_getElem hfl, List.flatten_append, List.length_append] at h1
                simp only [List.flatten_cons, List.flatten_nil, List.append_nil] at h1
                have h2 := HSP.out
                rw [ba_size]
                omega
              rw [List.getElem_drop] at hcell hadd hls
              have HY1 := hide hadd
              clear hadd HY
              go_wp2
              go_round
              case rel => exact ⟨f + 1, _, by omega, by go_num, rfl, HY1⟩
              case measure => simp [intOf]; omega
            · have hfk' : ¬ (f : Int) < (n : Int) - (j : Int) := by omega
              have hfk2 : ¬ (f : Int) < ((n - j : Nat) : Int) := by omega
              obtain rfl : f = n - j := by omega
              have hY : Y.data.toList = Wd.text ((Cd.lineList p).take j) ++ (bl ++ [10]) ++ Wd.text ((Cd.lineList p).drop j) := by
                have e : (L.drop j).take (n - j) = L.drop j := List.take_of_length_le (by rw [hdl]; exact Nat.le_refl _)
                rw [HY.out, e, HL.out, Cd.flat_take, Cd.flat_drop]
              have hjn : j ≤ (Cd.lineList p).length := by
                have := congrArg List.length HL.out
                rw [List.length_map] at this
                omega
              have HP := hide (Cd.parse_bad HM.out.good j hjn hbad)
              have HYt := hide hY
              clear hY HY
              go_wp2_with fail
              refine (parse4_any Y wq (by omega) HE3'.out.laid HE3'.out.ops).mono ?_
              rintro e u1 h
              obtain ⟨A1, n1, c1, D1, m1, d1, rfl, ⟨hi1, hs1⟩, _, hb⟩ := h.got (p := Cd.zero) (i := j + 1) (er := 5) (by rw [HYt.out]; exact HP.out)
              obtain rfl : n1 = 0 := hi1.len.symm
              have HE4 := hide (HE3'.out.next hb)
              have hbel := HE4.out.bel
              have HBF := hide (HE4.out.alloc (.cells #[.slice A1 0 c1, .slice D1 m1 d1, .int .i64 0] 25))
              clear hb hi1 hs1 h hbel
              simp only [Cd.zero]
              go_wp2
              go_ret
              exact ⟨rfl, HBF.out.bel⟩
end Go.Proofs.YtfjekckcpkkdiaaGreatDoor
