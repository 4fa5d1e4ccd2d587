/- Layer 12: calls are accepted in the order in which they came (ChannelCalls): the walk. -/
import Derived.Test.YteaippnffmhhnaaChLaw
import Derived.Deep.CutBlock
namespace Go.Proofs.Yteaippnffmhhnaa
open Go.RowKit

namespace Ch
/-- n identifiers from f on. -/
def ids (f n : Nat) : List Int := (List.range' f n).map fun (k : Nat) => (k : Int)
theorem ids_length (f n : Nat) : (ids f n).length = n := by simp [ids]
theorem ids_snoc (f n : Nat) : ids f n ++ [((f : Int) + (n : Int))] = ids f (n + 1) := by simp [ids, List.range'_concat]
theorem ids_cons (f n : Nat) : ids f (n + 1) = (f : Int) :: ids (f + 1) n := by simp [ids, List.range'_succ]
theorem ids_mem {f n : Nat} {x : Int} (h : x ∈ ids f n) : (f : Int) ≤ x ∧ x < (f : Int) + (n : Int) := by
  simp only [ids, List.mem_map, List.mem_range'_1] at h
  obtain ⟨k, ⟨h1, h2⟩, rfl⟩ := h
  omega
theorem ids_clean {f n : Nat} (hf : 1 ≤ f) : (∀ x ∈ ids f n, x ≠ 0) ∧ (ids f n).Nodup := by
  refine ⟨fun x hx => by have := ids_mem hx; omega, ?_⟩
  unfold ids
  rw [List.Nodup, List.pairwise_map]
  exact (List.nodup_range' (s := f) (n := n) (step := 1)).imp (fun h e => h (by omega))
end Ch
/-- Block m is the port 4, with n channels in its backlog, from f on. -/
structure CallsAt (W w : World) (m : Nat) (f n : Nat) : Prop where
  at_ : ∃ s : Sl, Obl w m 41 (oc (Ob.port 4 1 s)) ∧ New64 (m + 1) w s (Ch.ids f n)
  le : 1 ≤ f ∧ n ≤ 8
  low : W.heap.size ≤ m
  below : Below W.heap.size W w
theorem CallsAt.later {W w w' : World} {m f n : Nat} (h : CallsAt W w m f n) (hb : Below w.heap.size w w') : CallsAt W w' m f n :=
  ⟨h.at_.imp fun _ h => ⟨h.1.below hb h.1.lt, h.2.below hb⟩, h.le, h.low, h.below.trans (hb.mono h.below.size)⟩
/-- The port is laid anew, with another backlog. -/
theorem CallsAt.turn {W w0 w : World} {m f n f' n' : Nat} (h : CallsAt W w0 m f n) (hb : Below w0.heap.size w0 w) {s : Sl} (hs : New64 w0.heap.size w s (Ch.ids f' n')) (hle : 1 ≤ f' ∧ n' ≤ 8) : CallsAt W (w.setRow m (oc (Ob.port 4 1 s))) m f' n' := by
  obtain ⟨s0, O, _⟩ := h.at_
  have hm := O.lt
  exact ⟨⟨s, (O.below hb hm).row_same _, (hs.mono hm).row _⟩, hle, h.low, below_row (h.below.trans (hb.mono h.below.size)) h.low _⟩
theorem calls_port {m f n : Nat} {w : World} {s : Sl} (hs : New64 m w s (Ch.ids f n)) (hle : 1 ≤ f ∧ n ≤ 8) (r : Int) (hr : 0 ≤ r ∧ r ≤ 1073741824) : (Ob.port 4 r s).Port (Ch.ids f n) :=
  port_port (by decide) hr (by rw [hs.len, Ch.ids_length]; exact hle.2) (Ch.ids_clean hle.1)
theorem calls_err {m f n : Nat} {w : World} {s : Sl} (hs : New64 m w s (Ch.ids f n)) (hle : 1 ≤ f ∧ n ≤ 8) (r : Int) (hr : 0 ≤ r ∧ r ≤ 1073741824) : (Ob.port 4 r s).callErr (Ch.ids f n) ((f : Int) + (n : Int)) = if r = 0 then 13 else if 8 ≤ n then 9 else 0 := by
  unfold Ob.callErr
  rw [if_pos ⟨calls_port hs hle r hr, by omega, fun h => by have := Ch.ids_mem h; omega⟩]
  have h8 : (Ob.port 4 r s).backlog.n = n := by show s.n = n; rw [hs.len, Ch.ids_length]
  rw [h8]
  rfl
theorem accs_err {m f n : Nat} {w : World} {s : Sl} (hs : New64 m w s (Ch.ids f n)) (hle : 1 ≤ f ∧ n ≤ 8) : (Ob.port 4 1 s).accErr (Ch.ids f n) = if n = 0 then 12 else 0 := by
  unfold Ob.accErr
  rw [if_pos (calls_port hs hle 1 (by decide))]
  have h8 : (Ob.port 4 1 s).backlog.n = n := by show s.n = n; rw [hs.len, Ch.ids_length]
  rw [h8]

set_option maxRecDepth 100000 in
set_option maxHeartbeats 8000000 in
theorem channelCalls_any (S : Option Addr) (q r : Nat) (l : List UInt8) (W : World) (hS : Bytes W W.heap.size S q l) (hq : q ≤ 9223372036854775807) :
    Calls Try.prog 6 #[.slice S q r] W (BoolPost true W) := by
  have HS := hide hS
  clear hS
  go_enter Try.func6, Try.ntmps6
  try dsimp only [List.append]
  go_wp2_with fail
  refine (chSane_any _).mono ?_
  rintro e w1 ⟨rfl, hb1⟩
  have HB1 := hide hb1
  clear hb1
  go_wp2_with fail
  refine (chNewPort_any 4 _).mono ?_
  rintro e w2 ⟨rfl, hb2⟩
  obtain ⟨w3, hw3, m, hm, w4, hw4, OZ, OM, hb4, hs4⟩ := laid_ob (Ob.port 4 1 noSl) w2
  have hmW : W.heap.size ≤ m := by have := HB1.out.size; have := hb2.size; omega
  have HK : Hid (CallsAt W w4 m 10 0) := hide ⟨⟨noSl, OM, (show Nums .u64 w4 w4.heap.size none 0 [] from Nums.nil), Above.none, Nat.le_refl _⟩, ⟨by omega, by omega⟩, hmW, HB1.out.trans ((hb2.trans (hb4.mono hb2.size)).mono HB1.out.size)⟩
  clear hb2 hb4 HB1 OM
  go_upto_block 0 with (first | (refine store_ob rfl _ _ rfl rfl (c := Ob.port 4 1 noSl) rfl OZ rfl ?_; rw [hw4]) | fail)
  clear OZ hw4 hw3 hm hs4 hmW
  go_cut [4, 5] from 6 to 70 (fun s4 s5 wx => ∃ f n : Nat, s4 = .int .u64 ((f : Int) + (n : Int)) ∧ s5 = .int .u64 (f : Int) ∧ f + n ≤ 70 ∧ Hid (CallsAt W wx m f n))
  case first =>
    go_wp2_with fail
    go_loopw [20, 4, 5] (fun s20 s4 s5 wr => ∃ k f n : Nat, s20 = .int .i64 (k : Int) ∧ s4 = .int .u64 ((f : Int) + (n : Int)) ∧ s5 = .int .u64 (f : Int) ∧ k ≤ q ∧ k ≤ 60 ∧ f + n ≤ 10 + k ∧ Hid (CallsAt W wr m f n)) (fun s20 _ _ _ => q - (intOf s20).toNat)
    case atStart => exact ⟨0, 10, 0, rfl, rfl, rfl, by omega, by omega, by omega, HK⟩
    case round =>
      clear HK
      obtain ⟨k, f, n, rfl, rfl, rfl, hk, hk60, hfn, HK⟩ := hrel
      by_cases hlt : k < q
      · have hlt' : (k : Int) < (q : Int) := by omega
        obtain ⟨b, o, hl, rfl, hbb, hc⟩ := HS.out.at_ hlt
        have hc' : wr.cell? ⟨b, o + k, none⟩ = some (.int .u8 (l[k].toNat : Int)) := (HK.out.below.cell (p := ⟨b, o + k, none⟩) hbb).trans hc
        have ha : l[k].toNat < 256 := l[k].toNat_lt
        generalize l[k].toNat = a at *
        clear hc
        by_cases h60 : k < 60
        · have h60' : ¬ (60 : Int) ≤ (k : Int) := by omega
          obtain ⟨s, O, hs⟩ := HK.out.at_
          have HN := hide hs
          have hle := HK.out.le
          have HE := hide (calls_err hs hle 1 (by decide))
          have HA := hide (accs_err hs hle)
          clear hs
          by_cases hx : 0 < a % 3
          · have hx' : (0 : Int) < (a : Int) % 3 := by omega
            go_wp2_with (first | (refine load_ob rfl _ rfl rfl O ?_) | fail)
            by_cases hfull : 8 ≤ n
            · have he : (Ob.port 4 1 s).callErr (Ch.ids f n) ((f : Int) + (n : Int)) = 9 := by rw [HE.out, if_neg (by decide), if_pos hfull]
              refine (chCall_no (Ob.port 4 1 s) _ (Ch.ids f n) _ (by rw [he]; decide) HN.out.1 HN.out.2.2 (show s.n ≤ _ by rw [HN.out.len, Ch.ids_length]; omega)).mono ?_
              rintro e w6 ⟨rfl, hb6⟩
              rw [he]
              obtain ⟨w7, hw7, g, hg, w8, hw8, OZ, _, hb8, hs8⟩ := laid_ob Ob.zero w6
              have HK2 := hide (HK.out.later (hb6.trans (hb8.mono hb6.size)))
              have hd : IntKind.u64.wrap (((f : Int) + (n : Int)) - (f : Int)) = 8 := by rw [IntKind.wrap_u64]; omega
              clear hb6 hb8 HK HN HE HA O he
              go_wp2_with (first | (refine store_ob rfl _ _ rfl rfl (c := Ob.zero) rfl OZ rfl ?_; rw [hw8]) | fail)
              go_roundw
              case rel => exact ⟨k + 1, f, n, by go_num, rfl, rfl, by omega, by omega, by omega, HK2⟩
              case measure => simp [intOf]; omega
            · have hn8 : n < 8 := by omega
              refine (chCall_ok (Ob.port 4 1 s) ((f : Int) + (n : Int)) (Ch.ids f n) _ (calls_port HN.out hle 1 (by decide)) (by omega) (fun h => by have := Ch.ids_mem h; omega) (show (1 : Int) ≠ 0 by decide) (show s.n < 8 by rw [HN.out.len, Ch.ids_length]; exact hn8) HN.out.1 HN.out.2.2 (show s.n ≤ _ by rw [HN.out.len, Ch.ids_length]; omega)).mono ?_
              rintro e w6 ⟨s1, rfl, hs1, hb6⟩
              rw [Ch.ids_snoc] at hs1
              obtain ⟨w7, hw7, g, hg, w8, hw8, OZ, ON, hb8, hs8⟩ := laid_ob (Ob.port 4 1 s1) w6
              have HK2 := hide (HK.out.turn (f' := f) (n' := n + 1) (hb6.trans (hb8.mono hb6.size)) (hs1.below hb8) (by omega))
              have O8 := O.below (hb6.trans (hb8.mono hb6.size)) O.lt
              have hwn : IntKind.u64.wrap ((f : Int) + (n : Int) + 1) = (f : Int) + ((n + 1 : Nat) : Int) := by rw [IntKind.wrap_u64]; omega
              clear hb6 hb8 HK HN HE HA O hs1
              go_wp2_with (first | (refine store_ob rfl _ _ rfl rfl (c := Ob.port 4 1 s1) rfl OZ rfl ?_; rw [hw8]) | (refine load_ob rfl _ rfl rfl ON ?_) | (refine store_ob rfl _ _ rfl rfl (c := Ob.port 4 1 s1) rfl O8 rfl ?_) | fail)
              go_roundw
              case rel => exact ⟨k + 1, f, n + 1, by go_num, by congr 1, rfl, by omega, by omega, by omega, HK2⟩
              case measure => simp [intOf]; omega
          · have hx' : ¬ (0 : Int) < (a : Int) % 3 := by omega
            go_wp2_with (first | (refine load_ob rfl _ rfl rfl O ?_) | fail)
            by_cases h0 : n = 0
            · have he : (Ob.port 4 1 s).accErr (Ch.ids f n) = 12 := by rw [HA.out, if_pos h0]
              refine (chAccept_no (Ob.port 4 1 s) (Ch.ids f n) _ (by rw [he]; decide) HN.out.1 HN.out.2.2).mono ?_
              rintro e w6 ⟨rfl, hb6⟩
              rw [he]
              obtain ⟨w7, hw7, g, hg, w8, hw8, OZ, _, hb8, hs8⟩ := laid_ob Ob.zero w6
              have HK2 := hide (HK.out.later (hb6.trans (hb8.mono hb6.size)))
              clear hb6 hb8 HK HN HE HA O he
              subst h0
              go_wp2_with (first | (refine store_ob rfl _ _ rfl rfl (c := Ob.zero) rfl OZ rfl ?_; rw [hw8]) | fail)
              go_roundw
              case rel => exact ⟨k + 1, f, 0, by go_num, rfl, rfl, by omega, by omega, by omega, HK2⟩
              case measure => simp [intOf]; omega
            · obtain ⟨p, rfl⟩ : ∃ p, n = p + 1 := ⟨n - 1, by omega⟩
              have hids := Ch.ids_cons f p
              have HP := hide (calls_port HN.out hle 1 (by decide))
              rw [hids] at HP HN
              refine (chAccept_ok (Ob.port 4 1 s) (f : Int) (Ch.ids (f + 1) p) _ HP.out HN.out.1 HN.out.2.2).mono ?_
              rintro e w6 ⟨s1, rfl, hs1, hb6⟩
              obtain ⟨w7, hw7, g, hg, w8, hw8, OZ, ON, hb8, hs8⟩ := laid_ob (Ob.port 4 1 s1) w6
              have HK2 := hide (HK.out.turn (f' := f + 1) (n' := p) (hb6.trans (hb8.mono hb6.size)) (hs1.below hb8) (by omega))
              have O8 := O.below (hb6.trans (hb8.mono hb6.size)) O.lt
              have hwf : IntKind.u64.wrap ((f : Int) + 1) = ((f + 1 : Nat) : Int) := by rw [IntKind.wrap_u64]; omega
              clear hb6 hb8 HK HN HE HA O hs1 hids HP h0
              go_wp2_with (first | (refine store_ob rfl _ _ rfl rfl (c := Ob.port 4 1 s1) rfl OZ rfl ?_; rw [hw8]) | (refine load_ob rfl _ rfl rfl ON ?_) | (refine store_ob rfl _ _ rfl rfl (c := Ob.port 4 1 s1) rfl O8 rfl ?_) | fail)
              go_roundw
              case rel => exact ⟨k + 1, f + 1, p, by go_num, by go_num, by congr 1, by omega, by omega, by omega, HK2⟩
              case measure => simp [intOf]; omega
        · have h60' : (60 : Int) ≤ (k : Int) := by omega
          go_wp2_with fail
          go_meet
          case rel => exact ⟨f, n, rfl, rfl, by omega, HK⟩
      · have hlt' : ¬ (k : Int) < (q : Int) := by omega
        go_wp2_with fail
        go_meet
        case rel => exact ⟨f, n, rfl, rfl, by omega, HK⟩
  case rest =>
    clear HK
    obtain ⟨f, n, rfl, rfl, hfn, HK⟩ := hcut
    obtain ⟨s, O, hs⟩ := HK.out.at_
    have hle := HK.out.le
    have hmW := HK.out.low
    have z2 := O.free 2
    have k2 : wc.cell? ⟨m, 2, none⟩ = some (.int .i64 1) := O.cell 2
    have O5 : Obl (wc.setCell ⟨m, 2, none⟩ (.int .i64 0)) m 41 (oc (Ob.port 4 0 s)) := O.put 2 _
    have HN := hide (hs.put 2 (.int .i64 0))
    have HB := hide (HK.out.below.setCell (p := ⟨m, 2, none⟩) hmW (.int .i64 0))
    have he : (Ob.port 4 0 s).callErr (Ch.ids f n) ((f : Int) + (n : Int)) = 13 := by rw [calls_err hs hle 0 (by decide), if_pos rfl]
    have HE := hide he
    obtain ⟨wd, hwd⟩ : ∃ wd, wc.setCell ⟨m, 2, none⟩ (.int .i64 0) = wd := ⟨_, rfl⟩
    rw [hwd] at O5 HN HB
    clear O hs he HK hmW
    go_wp2_with (first | (refine load_ob rfl _ rfl rfl O5 ?_) | fail)
    refine (chCall_no (Ob.port 4 0 s) _ (Ch.ids f n) _ (by rw [HE.out]; decide) HN.out.1 HN.out.2.2 (show s.n ≤ _ by rw [HN.out.len, Ch.ids_length]; omega)).mono ?_
    rintro e w6 ⟨rfl, hb6⟩
    rw [HE.out]
    obtain ⟨w7, hw7, g, hg, w8, hw8, OZ, _, hb8, hs8⟩ := laid_ob Ob.zero w6
    have HB8 := hide (HB.out.trans ((hb6.trans (hb8.mono hb6.size)).mono HB.out.size))
    clear hb6 hb8 HN HE HB O5
    go_wp2_with (first | (refine store_ob rfl _ _ rfl rfl (c := Ob.zero) rfl OZ rfl ?_; rw [hw8]) | fail)
    go_ret
    exact ⟨rfl, HB8.out⟩
end Go.Proofs.Yteaippnffmhhnaa
