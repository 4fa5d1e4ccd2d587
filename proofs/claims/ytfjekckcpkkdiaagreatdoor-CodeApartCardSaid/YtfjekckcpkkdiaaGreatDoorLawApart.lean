/- Layer 4: two programs have the same text exactly if they are the same (CodeApart): the walk. -/
import Derived.Test.YtfjekckcpkkdiaaGreatDoorLawBack
import Derived.Test.YtfjekckcpkkdiaaGreatDoorOwn
import Derived.Test.YtfjekckcpkkdiaaGreatDoorRegion
import Derived.Deep.QuietTactic
import Derived.BigQuiet
namespace Go.Proofs.YtfjekckcpkkdiaaGreatDoor
open Go.RowKit

theorem rfl_bool (b : Bool) : ∃ v, b = v := ⟨b, rfl⟩
theorem Cd.text_beq {p q : Cd.Pr} (hp : Cd.Good p) (hq : Cd.Good q) : (Cd.text p == Cd.text q) = decide (p = q) := by
  by_cases h : p = q
  · subst h; simp
  · have : Cd.text p ≠ Cd.text q := fun e => h (Cd.text_inj hp hq e)
    simp [h, this]

set_option maxRecDepth 100000 in
set_option maxHeartbeats 4000000 in
theorem codeApart_any (S S' : Option Addr) (q r q' r' x y : Nat) (l l' : List UInt8) (W : World) (h : Bytes W W.heap.size S q l) (h' : Bytes W W.heap.size S' q' l') (hq : q ≤ r ∧ r ≤ 9223372036854775807) (hq' : q' ≤ r' ∧ r' ≤ 9223372036854775807)
    (hx : x < 256) (hy : y < 256) (hL : Laid W) (hO : LaidO W) :
    Calls Tryz.prog 7 #[.slice S q r, .slice S' q' r', .int .u8 (x : Int), .int .u8 (y : Int)] W fun e w' => e = .returned (.bool true) ∧ Below W.heap.size W w' := by
  have HE := hide (Env.start hL hO)
  have HS := hide h
  have HS' := hide h'
  clear hL hO h h'
  go_enter Tryz.func7, Tryz.ntmps7
  go_wp2_with fail
  refine (sane_any _ HE.out.laid HE.out.ops HE.out.tab).mono ?_
  rintro e w1 ⟨rfl, hb⟩
  have HE1 := hide (HE.out.next hb)
  have HS1 := hide (HS.out.below hb)
  have HT1 := hide (HS'.out.below hb)
  clear hb HE HS HS'
  go_wp2_with fail
  refine (made_any S q r _ l w1 HS1.out HE1.out.bel.size hq).mono ?_
  rintro e w2 h
  obtain ⟨A, n, c, D, m, d, p, rfl, hp, hi, hs, hn, hm, hb⟩ := h.got
  have HE2 := hide (HE1.out.next hb)
  have HT2 := hide (HT1.out.belowLe hb HE1.out.bel.size)
  have HI := hide hi
  have HJ := hide hs
  have HM := hide hp
  clear hb hi hs HE1 HS1 HT1 h hp
  go_wp2_with fail
  refine (made_any S' q' r' _ l' w2 HT2.out HE2.out.bel.size hq').mono ?_
  rintro e w3 h
  obtain ⟨A', n', c', D', m', d', p', rfl, hp, hi, hs, hn', hm', hb⟩ := h.got
  have HE3 := hide (HE2.out.next hb)
  have HI3 := hide ((HI.out.below hb).mono hb.size)
  have HJ3 := hide ((HJ.out.below hb).mono hb.size)
  have HI3' := hide hi
  have HJ3' := hide hs
  have HM' := hide hp
  clear hb hi hs HE2 HT2 HI HJ h hp
  have hP := (Held.make (c := c) (d := d) HI3.out HJ3.out (by omega) (by omega)).alloc (.cells #[.slice A' n' c', .slice D' m' d', .int .i64 p'.pages] 25)
  have hsA : (w3.alloc (.cells #[.slice A n c, .slice D m d, .int .i64 p.pages] 25)).heap.size = w3.heap.size + 1 := by simp
  have hP' : Held ((w3.alloc (.cells #[.slice A n c, .slice D m d, .int .i64 p.pages] 25)).alloc (.cells #[.slice A' n' c', .slice D' m' d', .int .i64 p'.pages] 25)) (w3.heap.size + 1) A' n' c' D' m' d' p' := by
    rw [← hsA]
    exact Held.make ((HI3'.out.below (bel_alloc w3 _)).mono (bel_alloc w3 _).size) ((HJ3'.out.below (bel_alloc w3 _)).mono (bel_alloc w3 _).size) (by omega) (by omega)
  have hsB : ((w3.alloc (.cells #[.slice A n c, .slice D m d, .int .i64 p.pages] 25)).alloc (.cells #[.slice A' n' c', .slice D' m' d', .int .i64 p'.pages] 25)).heap.size = w3.heap.size + 2 := by simp
  have hsC : (((w3.alloc (.cells #[.slice A n c, .slice D m d, .int .i64 p.pages] 25)).alloc (.cells #[.slice A' n' c', .slice D' m' d', .int .i64 p'.pages] 25)).alloc (.cells #[.slice A n c, .slice D m d, .int .i64 p.pages] 25)).heap.size = w3.heap.size + 3 := by simp
  have hO : Obl (((w3.alloc (.cells #[.slice A n c, .slice D m d, .int .i64 p.pages] 25)).alloc (.cells #[.slice A' n' c', .slice D' m' d', .int .i64 p'.pages] 25)).alloc (.cells #[.slice A n c, .slice D m d, .int .i64 p.pages] 25)) (w3.heap.size + 1 + 1) 25 #[.slice A n c, .slice D m d, .int .i64 p.pages] := by
    rw [show w3.heap.size + 1 + 1 = ((w3.alloc (.cells #[.slice A n c, .slice D m d, .int .i64 p.pages] 25)).alloc (.cells #[.slice A' n' c', .slice D' m' d', .int .i64 p'.pages] 25)).heap.size by rw [hsB]]
    exact Obl.make _ _ _
  have hI : Inss (((w3.alloc (.cells #[.slice A n c, .slice D m d, .int .i64 p.pages] 25)).alloc (.cells #[.slice A' n' c', .slice D' m' d', .int .i64 p'.pages] 25)).alloc (.cells #[.slice A n c, .slice D m d, .int .i64 p.pages] 25)) w3.heap.size A n p.code := HI3.out.below ((((Below.refl _ _).alloc (Nat.le_refl _) _).alloc (by simp) _).alloc (by simp; omega) _)
  have HEB := hide ((HE3.out.alloc (.cells #[.slice A n c, .slice D m d, .int .i64 p.pages] 25)).alloc (.cells #[.slice A' n' c', .slice D' m' d', .int .i64 p'.pages] 25))
  have HPB := hide hP
  have HQB := hide hP'
  have HJB := hide (HJ3.out.below (((Below.refl _ _).alloc (Nat.le_refl _) (.cells #[.slice A n c, .slice D m d, .int .i64 p.pages] 25)).alloc (by simp) (.cells #[.slice A' n' c', .slice D' m' d', .int .i64 p'.pages] 25)))
  have hBC : Below (w3.heap.size + 2) ((w3.alloc (.cells #[.slice A n c, .slice D m d, .int .i64 p.pages] 25)).alloc (.cells #[.slice A' n' c', .slice D' m' d', .int .i64 p'.pages] 25)) (((w3.alloc (.cells #[.slice A n c, .slice D m d, .int .i64 p.pages] 25)).alloc (.cells #[.slice A' n' c', .slice D' m' d', .int .i64 p'.pages] 25)).alloc (.cells #[.slice A n c, .slice D m d, .int .i64 p.pages] 25)) := by
    rw [← hsB]
    exact bel_alloc _ _
  have HBC := hide hBC
  clear hP hP' hsA hBC HE3 HI3' HJ3' HI3 HJ3
  by_cases hn0 : 0 < n
  · have hn0' : (0 : Int) < (n : Int) := by omega
    go_wp2_with (at_builtin; refine wpList_append_rd rfl (.const (.slice none 0 0)) (.tmp 27) _ rfl insTy (A := none) (n := 0) (c := 0) (xs := []) rfl (World.ownsRow_nil _ (w3.heap.size + 3) _ _) rfl hI.row (iv_one p.code) (by unfold maxLen; omega) (by omega) (by rw [hsC]; exact Nat.le_refl _) ?_; intro A9 c9 w4 hown9 hgrow9 hat9; rw [List.nil_append, Nat.zero_add] at hown9; rw [Nat.zero_add]; have h4 := hO.grown hgrow9 (by simp [blk]); have q0 := h4.cell 0; have z0 := h4.free 0; simp at q0)
    obtain ⟨g9, rfl, hg9, hg9l⟩ := own_addr hown9 hn0
    have hne9 : (Value.slice (some ⟨g9, 0, none⟩) n c9).ownBlock ≠ some (w3.heap.size + 1 + 1) := by
      rw [ownBlock_slice]
      simp only [blk, Option.map_some, ne_eq, Option.some.injEq]
      omega
    have h5 := h4.put 0 (.slice (some ⟨g9, 0, none⟩) n c9)
    have hown5 := ownsRow_setCell_other (a := ⟨w3.heap.size + 1 + 1, 0, none⟩) hown9 hne9 (.slice (some ⟨g9, 0, none⟩) n c9)
    have HB5 := hide ((HBC.out.grown hgrow9 (by rw [hsC]; omega) (fun k hk => by cases hk)).setCell (p := ⟨w3.heap.size + 1 + 1, 0, none⟩) (Nat.le_refl _) (.slice (some ⟨g9, 0, none⟩) n c9))
    generalize w4.setCell ⟨w3.heap.size + 1 + 1, 0, none⟩ (.slice (some ⟨g9, 0, none⟩) n c9) = w5 at *
    clear h4 hown9 hgrow9 hat9 q0 z0 hO hI HBC hsC hg9l hne9 w4
    generalize hwb : (w3.alloc (.cells #[.slice A n c, .slice D m d, .int .i64 p.pages] 25)).alloc (.cells #[.slice A' n' c', .slice D' m' d', .int .i64 p'.pages] 25) = wb at *
    clear hwb
    have q0 := h5.cell 0
    simp at q0
    obtain ⟨i, hi, hin⟩ : ∃ i : Nat, (x : Int) % (n : Int) = (i : Int) ∧ i < n := ⟨x % n, by omega, Nat.mod_lt _ hn0⟩
    have hin' : (i : Int) < (n : Int) := by omega
    have hnz : ¬ (n : Int) = 0 := by omega
    have hcl : p.code.length = n := own_inss hown5
    have hil : i < p.code.length := by omega
    obtain ⟨e0, e1, e2, e3⟩ := iv_at hil
    have j0 := own_cell hown5 e0
    have j2 := own_cell hown5 e2
    have z2 := own_free hown5 (i * 4 + 2)
    clear e0 e1 e2 e3
    by_cases hop : p.code[i].op = 1
    · have hop' : (p.code[i].op == 1) = true := by simpa using hop
      have hmade := HM.out.1 _ (List.getElem_mem hil)
      have hbr := hmade.2.2 hop
      have hbw : wrap64 (p.code[i].b + (y : Int)) = p.code[i].b + (y : Int) := by
        unfold wrap64
        omega
      have hright := hmade.1 p.code.length (Nat.le_refl _)
      have h64 := hmade.2.1
      have hrp : Cd.Good ⟨p.code.set i ⟨p.code[i].op, p.code[i].a, p.code[i].b + (y : Int), p.code[i].c⟩, p.strs, p.pages⟩ := by
        refine Cd.good_set HM.out.good ?_ ?_
        · rw [hop]
          generalize p.code[i] = xi at *
          obtain ⟨xo, xa, xb, xc⟩ := xi
          simp only at hop hbr ⊢
          subst hop
          exact Cd.set_right hright (by omega) (by omega)
        · unfold Cd.in64 at h64 ⊢
          simp only
          omega
      have hset := (iv_set p.code i hil (p.code[i].b + (y : Int))).2.2.1
      have hownS := own_set hown5 (i := i * 4 + 2) (.int .i64 (p.code[i].b + (y : Int)))
      rw [hset] at hownS
      have HOS := hide hownS
      have HGr := hide hrp
      have hneO : w3.heap.size + 1 + 1 ≠ g9 := by omega
      have HXS := hide (h5.put_other hneO (i * 4 + 2) (.int .i64 (p.code[i].b + (y : Int))))
      have HBS := hide (HB5.out.setCell (p := ⟨g9, i * 4 + 2, none⟩) (show w3.heap.size + 2 ≤ g9 by omega) (.int .i64 (p.code[i].b + (y : Int))))
      clear hset hownS hrp hright h64 hmade h5
      go_quiet (fail)
      go_upto_region 10 with fail
      have hwt : (w5.drewN nq).setCell ⟨g9, i * 4 + 2, none⟩ (.int .i64 (p.code[i].b + (y : Int))) = (w5.setCell ⟨g9, i * 4 + 2, none⟩ (.int .i64 (p.code[i].b + (y : Int)))).drewN nq := rfl
      rw [hwt]
      clear hwt
      generalize w5.setCell ⟨g9, i * 4 + 2, none⟩ (.int .i64 (p.code[i].b + (y : Int))) = w6 at *
      have HE0 := hide ((HEB.out.next (by rw [hsB]; exact HBS.out)).next (⟨rfl, rfl, rfl, Nat.le_refl _, fun _ _ => rfl⟩ : Below w6.heap.size w6 (w6.drewN nq)))
      have HP0 := hide (HPB.out.below (w' := w6.drewN nq) (by rw [hsB]; exact below_drewN HBS.out nq))
      have HQ0 := hide (HQB.out.below (w' := w6.drewN nq) (by rw [hsB]; exact below_drewN HBS.out nq))
      have hst : wb.heap.size ≤ (w6.drewN nq).heap.size := HBS.out.size
      have HR0 : Hid (Held (w6.drewN nq) (w3.heap.size + 2) (some ⟨g9, 0, none⟩) n c9 D m d ⟨p.code.set i ⟨p.code[i].op, p.code[i].a, p.code[i].b + (y : Int), p.code[i].c⟩, p.strs, p.pages⟩) := hide ⟨HXS.out, ⟨Inss.of_own (own_drewN HOS.out nq), (HJB.out.below ((below_drewN HBS.out nq).mono (by omega))).mono (by omega)⟩, by omega, by omega⟩
      have HFr : Hid (Fine ⟨p.code.set i ⟨p.code[i].op, p.code[i].a, p.code[i].b + (y : Int), p.code[i].c⟩, p.strs, p.pages⟩) := hide ⟨HM.out.fine.1, HGr.out.2⟩
      generalize p.code.set i ⟨p.code[i].op, p.code[i].a, p.code[i].b + (y : Int), p.code[i].c⟩ = cd at *
      generalize p.code[i] = xi at *
      clear HBS HOS HXS HB5 hown5 HEB HPB HQB HJB hi hin hin' j0 j2 z2 hop hop' q0 hil hcl hsB hg9 hbr hbw hst hneO
      generalize w6.drewN nq = u0 at *
      have k0 := HP0.out.c0
      have k1 := HP0.out.c1
      have k2 := HP0.out.c2
      go_wp2_with fail
      refine (format_held HP0.out HM.out.fine HE0.out.ops HE0.out.tab).mono ?_
      rintro e u1 h
      obtain ⟨rfl, hb⟩ := h.got (Cd.format_ok HM.out.good.1)
      have HE1 := hide (HE0.out.next hb)
      have HP1 := hide (HP0.out.below hb)
      have HQ1 := hide (HQ0.out.below hb)
      have HR1 := hide (HR0.out.below hb)
      clear h hb HE0 HP0 HQ0 HR0 k0 k1 k2
      have k0 := HQ1.out.c0
      have k1 := HQ1.out.c1
      have k2 := HQ1.out.c2
      go_wp2_with fail
      refine (format_held HQ1.out HM'.out.fine HE1.out.ops HE1.out.tab).mono ?_
      rintro e u2 h
      obtain ⟨rfl, hb⟩ := h.got (Cd.format_ok HM'.out.good.1)
      have HE2 := hide (HE1.out.next hb)
      have HP2 := hide (HP1.out.below hb)
      have HQ2 := hide (HQ1.out.below hb)
      have HR2 := hide (HR1.out.below hb)
      clear h hb HE1 HP1 HQ1 HR1 k0 k1 k2
      have k0 := HR2.out.c0
      have k1 := HR2.out.c1
      have k2 := HR2.out.c2
      go_wp2_with fail
      refine (format_held HR2.out HFr.out HE2.out.ops HE2.out.tab).mono ?_
      rintro e u3 h
      obtain ⟨rfl, hb⟩ := h.got (Cd.format_ok HGr.out.1)
      have HE3 := hide (HE2.out.next hb)
      have HP3 := hide (HP2.out.below hb)
      have HQ3 := hide (HQ2.out.below hb)
      have HR3 := hide (HR2.out.below hb)
      clear h hb HE2 HP2 HQ2 HR2 k0 k1 k2
      obtain ⟨V1, hV1⟩ := rfl_bool (decide (p = p'))
      have e1 : (Cd.text p == Cd.text p') = V1 := by rw [← hV1]; exact Cd.text_beq HM.out.good HM'.out.good
      obtain ⟨V2, hV2⟩ := rfl_bool (decide (p = (⟨cd, p.strs, p.pages⟩ : Cd.Pr)))
      have e2 : (Cd.text p == Cd.text (⟨cd, p.strs, p.pages⟩ : Cd.Pr)) = V2 := by rw [← hV2]; exact Cd.text_beq HM.out.good HGr.out
      have HV2 := hide hV2
      clear hV2
      have HV1 := hide hV1
      have HV1' : Hid (decide (p' = p) = V1) := hide (by rw [← hV1]; exact decide_eq_decide.2 eq_comm)
      clear hV1
      go_wp2_with fail
      refine region_G (by kernel_rfl) ?_
      have HE4 := hide HE3.out.drew
      have HP4 := hide (HP3.out.below (w' := u3.drew) ⟨rfl, rfl, rfl, Nat.le_refl _, fun _ _ => rfl⟩)
      have HQ4 := hide (HQ3.out.below (w' := u3.drew) ⟨rfl, rfl, rfl, Nat.le_refl _, fun _ _ => rfl⟩)
      have HR4 := hide (HR3.out.below (w' := u3.drew) ⟨rfl, rfl, rfl, Nat.le_refl _, fun _ _ => rfl⟩)
      clear HE3 HP3 HQ3 HR3
      generalize u3.drew = u4 at *
      refine take_ 0 rfl (by kernel_rfl) (fun _ _ _ h => h) (by rfl) (by intro w' hg; go_simp; try with_reducible rfl) ?_
      refine take_ 1 rfl (by kernel_rfl) (fun _ _ _ h => h) (by rfl) (by intro w' hg; go_simp; try with_reducible rfl) ?_
      refine take_ 2 rfl (by kernel_rfl) (fun _ _ _ h => h) (by rfl) (by intro w' hg; go_simp; try with_reducible rfl) ?_
      refine take_ 3 rfl (by kernel_rfl) (fun _ _ _ h => h) (by kernel_rfl) (by intro w' hg; go_simp; try with_reducible rfl) ?_
      refine take_ 4 rfl (by kernel_rfl) (fun _ _ _ h => h) (by kernel_rfl) (by intro w' hg; go_simp; try with_reducible rfl) ?_
      refine take_ 5 rfl (by kernel_rfl) (fun _ _ _ h => h) (by rfl) (by intro w' hg; go_simp; try with_reducible rfl) ?_
      refine take_ 6 rfl (by kernel_rfl) (fun _ _ _ h => h) (by rfl) (by intro w' hg; go_simp; try with_reducible rfl) ?_
      refine take_ 7 rfl (by kernel_rfl) (fun _ _ _ h => h) (by kernel_rfl) (by intro w' hg; go_simp; try with_reducible rfl) ?_
      refine take_ 8 rfl (by kernel_rfl) (fun _ _ _ h => h) (by kernel_rfl) (by intro w' hg; go_simp; try with_reducible rfl) ?_
      refine take_ 9 rfl (by kernel_rfl) (fun _ _ _ h => h) (by rfl) (by intro w' hg; go_simp; try with_reducible rfl) ?_
      refine take_ 10 rfl (by kernel_rfl) (fun _ _ _ h => h) (by rfl) (by intro w' hg; go_simp; try with_reducible rfl) ?_
      refine take_ 11 rfl (by kernel_rfl) (fun _ _ _ h => h) (by kernel_rfl) (by intro w' hg; go_simp; try with_reducible rfl) ?_
      refine take_ 12 rfl (by kernel_rfl) (fun _ _ _ h => h) (by kernel_rfl) (by intro w' hg; go_simp; try with_reducible rfl) ?_
      refine take_ 13 rfl (by kernel_rfl) (fun _ _ _ h => h) (by kernel_rfl) (by intro w' hg; go_simp; try with_reducible rfl) ?_
      refine take_ 14 rfl (by kernel_rfl) (fun _ _ _ h => h) (by kernel_rfl) (by intro w' hg; have k0 := (HP4.out.below hg).c0; have k1 := (HP4.out.below hg).c1; have k2 := (HP4.out.below hg).c2; go_simp; try with_reducible rfl) ?_
      refine take_ 15 rfl (by kernel_rfl) (fun _ _ _ h => h) (by kernel_rfl) (by intro w' hg; have k0 := (HQ4.out.below hg).c0; have k1 := (HQ4.out.below hg).c1; have k2 := (HQ4.out.below hg).c2; go_simp; try with_reducible rfl) ?_
      refine only_ 16 rfl (by kernel_rfl) (by kernel_rfl) ?_
      intro K hK
      go_simp
      refine (same_held HP4.out HQ4.out).mono ?_
      rintro e u5 ⟨rfl, hb⟩
      rw [HV1.out]
      have HE5 := hide (HE4.out.next hb)
      have HP5 := hide (HP4.out.below hb)
      have HQ5 := hide (HQ4.out.below hb)
      have HR5 := hide (HR4.out.below hb)
      refine hK _ _ hb ?_
      clear hK K hb HE4 HP4 HQ4 HR4
      refine take_ 17 rfl (by kernel_rfl) (fun _ _ _ h => h) (by kernel_rfl) (by intro w' hg; go_simp; try with_reducible rfl) ?_
      refine take_ 18 rfl (by kernel_rfl) (fun _ _ _ h => h) (by rfl) (by intro w' hg; go_simp; try with_reducible rfl) ?_
      refine take_ 19 rfl (by kernel_rfl) (fun _ _ _ h => h) (by rfl) (by intro w' hg; go_simp; try with_reducible rfl) ?_
      refine take_ 20 rfl (by kernel_rfl) (fun _ _ _ h => h) (by kernel_rfl) (by intro w' hg; go_simp; try with_reducible rfl) ?_
      refine take_ 21 rfl (by kernel_rfl) (fun _ _ _ h => h) (by kernel_rfl) (by intro w' hg; go_simp; try with_reducible rfl) ?_
      refine take_ 22 rfl (by kernel_rfl) (fun _ _ _ h => h) (by kernel_rfl) (by intro w' hg; go_simp; try with_reducible rfl) ?_
      refine take_ 23 rfl (by kernel_rfl) (fun _ _ _ h => h) (by kernel_rfl) (by intro w' hg; have k0 := (HP5.out.below hg).c0; have k1 := (HP5.out.below hg).c1; have k2 := (HP5.out.below hg).c2; go_simp; try with_reducible rfl) ?_
      refine take_ 24 rfl (by kernel_rfl) (fun _ _ _ h => h) (by kernel_rfl) (by intro w' hg; have k0 := (HR5.out.below hg).c0; have k1 := (HR5.out.below hg).c1; have k2 := (HR5.out.below hg).c2; go_simp; try with_reducible rfl) ?_
      refine only_ 25 rfl (by kernel_rfl) (by kernel_rfl) ?_
      intro K hK
      go_simp
      refine (same_held HP5.out HR5.out).mono ?_
      rintro e u6 ⟨rfl, hb⟩
      rw [HV2.out]
      have HE6 := hide (HE5.out.next hb)
      have HP6 := hide (HP5.out.below hb)
      have HQ6 := hide (HQ5.out.below hb)
      have HR6 := hide (HR5.out.below hb)
      refine hK _ _ hb ?_
      clear hK K hb HE5 HP5 HQ5 HR5
      refine take_ 26 rfl (by kernel_rfl) (fun _ _ _ h => h) (by kernel_rfl) (by intro w' hg; go_simp; try with_reducible rfl) ?_
      refine take_ 27 rfl (by kernel_rfl) (fun _ _ _ h => h) (by rfl) (by intro w' hg; go_simp; try with_reducible rfl) ?_
      refine take_ 28 rfl (by kernel_rfl) (fun _ _ _ h => h) (by rfl) (by intro w' hg; go_simp; try with_reducible rfl) ?_
      refine take_ 29 rfl (by kernel_rfl) (fun _ _ _ h => h) (by kernel_rfl) (by intro w' hg; have k0 := (HP6.out.below hg).c0; have k1 := (HP6.out.below hg).c1; have k2 := (HP6.out.below hg).c2; go_simp; try with_reducible rfl) ?_
      refine take_ 30 rfl (by kernel_rfl) (fun _ _ _ h => h) (by kernel_rfl) (by intro w' hg; have k0 := (HQ6.out.below hg).c0; have k1 := (HQ6.out.below hg).c1; have k2 := (HQ6.out.below hg).c2; go_simp; try with_reducible rfl) ?_
      refine take_ 32 rfl (by kernel_rfl) (fun _ _ _ h => h) (by kernel_rfl) (by intro w' hg; have k0 := (HQ6.out.below hg).c0; have k1 := (HQ6.out.below hg).c1; have k2 := (HQ6.out.below hg).c2; go_simp; try with_reducible rfl) ?_
      refine take_ 33 rfl (by kernel_rfl) (fun _ _ _ h => h) (by kernel_rfl) (by intro w' hg; have k0 := (HP6.out.below hg).c0; have k1 := (HP6.out.below hg).c1; have k2 := (HP6.out.below hg).c2; go_simp; try with_reducible rfl) ?_
      refine only_ 31 rfl (by kernel_rfl) (by kernel_rfl) ?_
      intro K hK
      go_simp
      refine (same_held HP6.out HQ6.out).mono ?_
      rintro e u7 ⟨rfl, hb⟩
      rw [HV1.out]
      have HE7 := hide (HE6.out.next hb)
      have HP7 := hide (HP6.out.below hb)
      have HQ7 := hide (HQ6.out.below hb)
      have HR7 := hide (HR6.out.below hb)
      refine hK _ _ hb ?_
      clear hK K hb HE6 HP6 HQ6 HR6
      refine only_ 34 rfl (by kernel_rfl) (by kernel_rfl) ?_
      intro K hK
      go_simp
      refine (same_held HQ7.out HP7.out).mono ?_
      rintro e u8 ⟨rfl, hb⟩
      rw [HV1'.out]
      have HE8 := hide (HE7.out.next hb)
      have HP8 := hide (HP7.out.below hb)
      have HQ8 := hide (HQ7.out.below hb)
      have HR8 := hide (HR7.out.below hb)
      refine hK _ _ hb ?_
      clear hK K hb HE7 HP7 HQ7 HR7
      refine take_ 35 rfl (by kernel_rfl) (fun _ _ _ h => h) (by kernel_rfl) (by intro w' hg; go_simp; try with_reducible rfl) ?_
      refine take_ 36 rfl (by kernel_rfl) (fun _ _ _ h => h) (by rfl) (by intro w' hg; go_simp; try with_reducible rfl) ?_
      refine take_ 37 rfl (by kernel_rfl) (fun _ _ _ h => h) (by rfl) (by intro w' hg; go_simp; try with_reducible rfl) ?_
      refine done_ (by kernel_rfl) ?_
      go_simp
      go_wp2
      go_ret
      exact ⟨rfl, HE8.out.bel⟩
    · have hop' : (p.code[i].op == 1) = false := by simpa using hop
      go_quiet (fail)
      go_upto_region 10 with fail
      have HE0 := hide ((HEB.out.next (by rw [hsB]; exact HB5.out)).next (⟨rfl, rfl, rfl, Nat.le_refl _, fun _ _ => rfl⟩ : Below w5.heap.size w5 (w5.drewN nq)))
      have HP0 := hide (HPB.out.below (w' := w5.drewN nq) (by rw [hsB]; exact below_drewN HB5.out nq))
      have HQ0 := hide (HQB.out.below (w' := w5.drewN nq) (by rw [hsB]; exact below_drewN HB5.out nq))
      have hst : wb.heap.size ≤ (w5.drewN nq).heap.size := HB5.out.size
      have HR0 : Hid (Held (w5.drewN nq) (w3.heap.size + 2) (some ⟨g9, 0, none⟩) n c9 D m d p) := hide ⟨h5, ⟨Inss.of_own (own_drewN hown5 nq), (HJB.out.below ((below_drewN HB5.out nq).mono (by omega))).mono (by omega)⟩, by omega, by omega⟩
      generalize p.code[i] = xi at *
      clear HB5 hown5 h5 HEB HPB HQB HJB hi hin hin' j0 j2 z2 hop hop' q0 hil hcl hsB hg9 hst
      generalize w5.drewN nq = u0 at *
      have k0 := HP0.out.c0
      have k1 := HP0.out.c1
      have k2 := HP0.out.c2
      go_wp2_with fail
      refine (format_held HP0.out HM.out.fine HE0.out.ops HE0.out.tab).mono ?_
      rintro e u1 h
      obtain ⟨rfl, hb⟩ := h.got (Cd.format_ok HM.out.good.1)
      have HE1 := hide (HE0.out.next hb)
      have HP1 := hide (HP0.out.below hb)
      have HQ1 := hide (HQ0.out.below hb)
      have HR1 := hide (HR0.out.below hb)
      clear h hb HE0 HP0 HQ0 HR0 k0 k1 k2
      have k0 := HQ1.out.c0
      have k1 := HQ1.out.c1
      have k2 := HQ1.out.c2
      go_wp2_with fail
      refine (format_held HQ1.out HM'.out.fine HE1.out.ops HE1.out.tab).mono ?_
      rintro e u2 h
      obtain ⟨rfl, hb⟩ := h.got (Cd.format_ok HM'.out.good.1)
      have HE2 := hide (HE1.out.next hb)
      have HP2 := hide (HP1.out.below hb)
      have HQ2 := hide (HQ1.out.below hb)
      have HR2 := hide (HR1.out.below hb)
      clear h hb HE1 HP1 HQ1 HR1 k0 k1 k2
      have k0 := HR2.out.c0
      have k1 := HR2.out.c1
      have k2 := HR2.out.c2
      go_wp2_with fail
      refine (format_held HR2.out HM.out.fine HE2.out.ops HE2.out.tab).mono ?_
      rintro e u3 h
      obtain ⟨rfl, hb⟩ := h.got (Cd.format_ok HM.out.good.1)
      have HE3 := hide (HE2.out.next hb)
      have HP3 := hide (HP2.out.below hb)
      have HQ3 := hide (HQ2.out.below hb)
      have HR3 := hide (HR2.out.below hb)
      clear h hb HE2 HP2 HQ2 HR2 k0 k1 k2
      obtain ⟨V1, hV1⟩ := rfl_bool (decide (p = p'))
      have e1 : (Cd.text p == Cd.text p') = V1 := by rw [← hV1]; exact Cd.text_beq HM.out.good HM'.out.good
      have HV1 := hide hV1
      have HV1' : Hid (decide (p' = p) = V1) := hide (by rw [← hV1]; exact decide_eq_decide.2 eq_comm)
      clear hV1
      go_wp2_with fail
      refine region_G (by kernel_rfl) ?_
      have HE4 := hide HE3.out.drew
      have HP4 := hide (HP3.out.below (w' := u3.drew) ⟨rfl, rfl, rfl, Nat.le_refl _, fun _ _ => rfl⟩)
      have HQ4 := hide (HQ3.out.below (w' := u3.drew) ⟨rfl, rfl, rfl, Nat.le_refl _, fun _ _ => rfl⟩)
      have HR4 := hide (HR3.out.below (w' := u3.drew) ⟨rfl, rfl, rfl, Nat.le_refl _, fun _ _ => rfl⟩)
      clear HE3 HP3 HQ3 HR3
      generalize u3.drew = u4 at *
      refine take_ 0 rfl (by kernel_rfl) (fun _ _ _ h => h) (by rfl) (by intro w' hg; go_simp; try with_reducible rfl) ?_
      refine take_ 1 rfl (by kernel_rfl) (fun _ _ _ h => h) (by rfl) (by intro w' hg; go_simp; try with_reducible rfl) ?_
      refine take_ 2 rfl (by kernel_rfl) (fun _ _ _ h => h) (by rfl) (by intro w' hg; go_simp; try with_reducible rfl) ?_
      refine take_ 3 rfl (by kernel_rfl) (fun _ _ _ h => h) (by kernel_rfl) (by intro w' hg; go_simp; try with_reducible rfl) ?_
      refine take_ 4 rfl (by kernel_rfl) (fun _ _ _ h => h) (by kernel_rfl) (by intro w' hg; go_simp; try with_reducible rfl) ?_
      refine take_ 5 rfl (by kernel_rfl) (fun _ _ _ h => h) (by rfl) (by intro w' hg; go_simp; try with_reducible rfl) ?_
      refine take_ 6 rfl (by kernel_rfl) (fun _ _ _ h => h) (by rfl) (by intro w' hg; go_simp; try with_reducible rfl) ?_
      refine take_ 7 rfl (by kernel_rfl) (fun _ _ _ h => h) (by kernel_rfl) (by intro w' hg; go_simp; try with_reducible rfl) ?_
      refine take_ 8 rfl (by kernel_rfl) (fun _ _ _ h => h) (by kernel_rfl) (by intro w' hg; go_simp; try with_reducible rfl) ?_
      refine take_ 9 rfl (by kernel_rfl) (fun _ _ _ h => h) (by rfl) (by intro w' hg; go_simp; try with_reducible rfl) ?_
      refine take_ 10 rfl (by kernel_rfl) (fun _ _ _ h => h) (by rfl) (by intro w' hg; go_simp; try with_reducible rfl) ?_
      refine take_ 11 rfl (by kernel_rfl) (fun _ _ _ h => h) (by kernel_rfl) (by intro w' hg; go_simp; try with_reducible rfl) ?_
      refine take_ 12 rfl (by kernel_rfl) (fun _ _ _ h => h) (by kernel_rfl) (by intro w' hg; go_simp; try with_reducible rfl) ?_
      refine take_ 13 rfl (by kernel_rfl) (fun _ _ _ h => h) (by kernel_rfl) (by intro w' hg; go_simp; try with_reducible rfl) ?_
      refine take_ 14 rfl (by kernel_rfl) (fun _ _ _ h => h) (by kernel_rfl) (by intro w' hg; have k0 := (HP4.out.below hg).c0; have k1 := (HP4.out.below hg).c1; have k2 := (HP4.out.below hg).c2; go_simp; try with_reducible rfl) ?_
      refine take_ 15 rfl (by kernel_rfl) (fun _ _ _ h => h) (by kernel_rfl) (by intro w' hg; have k0 := (HQ4.out.below hg).c0; have k1 := (HQ4.out.below hg).c1; have k2 := (HQ4.out.below hg).c2; go_simp; try with_reducible rfl) ?_
      refine only_ 16 rfl (by kernel_rfl) (by kernel_rfl) ?_
      intro K hK
      go_simp
      refine (same_held HP4.out HQ4.out).mono ?_
      rintro e u5 ⟨rfl, hb⟩
      rw [HV1.out]
      have HE5 := hide (HE4.out.next hb)
      have HP5 := hide (HP4.out.below hb)
      have HQ5 := hide (HQ4.out.below hb)
      have HR5 := hide (HR4.out.below hb)
      refine hK _ _ hb ?_
      clear hK K hb HE4 HP4 HQ4 HR4
      refine take_ 17 rfl (by kernel_rfl) (fun _ _ _ h => h) (by kernel_rfl) (by intro w' hg; go_simp; try with_reducible rfl) ?_
      refine take_ 18 rfl (by kernel_rfl) (fun _ _ _ h => h) (by rfl) (by intro w' hg; go_simp; try with_reducible rfl) ?_
      refine take_ 19 rfl (by kernel_rfl) (fun _ _ _ h => h) (by rfl) (by intro w' hg; go_simp; try with_reducible rfl) ?_
      refine take_ 20 rfl (by kernel_rfl) (fun _ _ _ h => h) (by kernel_rfl) (by intro w' hg; go_simp; try with_reducible rfl) ?_
      refine take_ 21 rfl (by kernel_rfl) (fun _ _ _ h => h) (by kernel_rfl) (by intro w' hg; go_simp; try with_reducible rfl) ?_
      refine take_ 22 rfl (by kernel_rfl) (fun _ _ _ h => h) (by kernel_rfl) (by intro w' hg; go_simp; try with_reducible rfl) ?_
      refine take_ 23 rfl (by kernel_rfl) (fun _ _ _ h => h) (by kernel_rfl) (by intro w' hg; have k0 := (HP5.out.below hg).c0; have k1 := (HP5.out.below hg).c1; have k2 := (HP5.out.below hg).c2; go_simp; try with_reducible rfl) ?_
      refine take_ 24 rfl (by kernel_rfl) (fun _ _ _ h => h) (by kernel_rfl) (by intro w' hg; have k0 := (HR5.out.below hg).c0; have k1 := (HR5.out.below hg).c1; have k2 := (HR5.out.below hg).c2; go_simp; try with_reducible rfl) ?_
      refine only_ 25 rfl (by kernel_rfl) (by kernel_rfl) ?_
      intro K hK
      go_simp
      refine (same_held HP5.out HR5.out).mono ?_
      rintro e u6 ⟨rfl, hb⟩
      rw [pr_self]
      have HE6 := hide (HE5.out.next hb)
      have HP6 := hide (HP5.out.below hb)
      have HQ6 := hide (HQ5.out.below hb)
      have HR6 := hide (HR5.out.below hb)
      refine hK _ _ hb ?_
      clear hK K hb HE5 HP5 HQ5 HR5
      refine take_ 26 rfl (by kernel_rfl) (fun _ _ _ h => h) (by kernel_rfl) (by intro w' hg; go_simp; try with_reducible rfl) ?_
      refine take_ 27 rfl (by kernel_rfl) (fun _ _ _ h => h) (by rfl) (by intro w' hg; go_simp; try with_reducible rfl) ?_
      refine take_ 28 rfl (by kernel_rfl) (fun _ _ _ h => h) (by rfl) (by intro w' hg; go_simp; try with_reducible rfl) ?_
      refine take_ 29 rfl (by kernel_rfl) (fun _ _ _ h => h) (by kernel_rfl) (by intro w' hg; have k0 := (HP6.out.below hg).c0; have k1 := (HP6.out.below hg).c1; have k2 := (HP6.out.below hg).c2; go_simp; try with_reducible rfl) ?_
      refine take_ 30 rfl (by kernel_rfl) (fun _ _ _ h => h) (by kernel_rfl) (by intro w' hg; have k0 := (HQ6.out.below hg).c0; have k1 := (HQ6.out.below hg).c1; have k2 := (HQ6.out.below hg).c2; go_simp; try with_reducible rfl) ?_
      refine take_ 32 rfl (by kernel_rfl) (fun _ _ _ h => h) (by kernel_rfl) (by intro w' hg; have k0 := (HQ6.out.below hg).c0; have k1 := (HQ6.out.below hg).c1; have k2 := (HQ6.out.below hg).c2; go_simp; try with_reducible rfl) ?_
      refine take_ 33 rfl (by kernel_rfl) (fun _ _ _ h => h) (by kernel_rfl) (by intro w' hg; have k0 := (HP6.out.below hg).c0; have k1 := (HP6.out.below hg).c1; have k2 := (HP6.out.below hg).c2; go_simp; try with_reducible rfl) ?_
      refine only_ 31 rfl (by kernel_rfl) (by kernel_rfl) ?_
      intro K hK
      go_simp
      refine (same_held HP6.out HQ6.out).mono ?_
      rintro e u7 ⟨rfl, hb⟩
      rw [HV1.out]
      have HE7 := hide (HE6.out.next hb)
      have HP7 := hide (HP6.out.below hb)
      have HQ7 := hide (HQ6.out.below hb)
      have HR7 := hide (HR6.out.below hb)
      refine hK _ _ hb ?_
      clear hK K hb HE6 HP6 HQ6 HR6
      refine only_ 34 rfl (by kernel_rfl) (by kernel_rfl) ?_
      intro K hK
      go_simp
      refine (same_held HQ7.out HP7.out).mono ?_
      rintro e u8 ⟨rfl, hb⟩
      rw [HV1'.out]
      have HE8 := hide (HE7.out.next hb)
      have HP8 := hide (HP7.out.below hb)
      have HQ8 := hide (HQ7.out.below hb)
      have HR8 := hide (HR7.out.below hb)
      refine hK _ _ hb ?_
      clear hK K hb HE7 HP7 HQ7 HR7
      refine take_ 35 rfl (by kernel_rfl) (fun _ _ _ h => h) (by kernel_rfl) (by intro w' hg; go_simp; try with_reducible rfl) ?_
      refine take_ 36 rfl (by kernel_rfl) (fun _ _ _ h => h) (by rfl) (by intro w' hg; go_simp; try with_reducible rfl) ?_
      refine take_ 37 rfl (by kernel_rfl) (fun _ _ _ h => h) (by rfl) (by intro w' hg; go_simp; try with_reducible rfl) ?_
      refine done_ (by kernel_rfl) ?_
      go_simp
      go_wp2
      go_ret
      exact ⟨rfl, HE8.out.bel⟩
  · have hn00 : n = 0 := by omega
    subst hn00
    have hc0 : p.code = [] := List.eq_nil_of_length_eq_zero hI.len
    go_upto_region 10 with (at_builtin; refine wpList_append_rd rfl (.const (.slice none 0 0)) (.tmp 27) _ rfl insTy (A := none) (n := 0) (c := 0) (xs := []) rfl (World.ownsRow_nil _ (w3.heap.size + 3) _ _) rfl hI.row (iv_one p.code) (by unfold maxLen; omega) (by omega) (by rw [hsC]; exact Nat.le_refl _) ?_; intro A9 c9 w4 hown9 hgrow9 hat9; rw [Nat.zero_add]; have h4 := hO.grown hgrow9 (by simp [blk]); have q0 := h4.cell 0; have z0 := h4.free 0; simp at q0)
    have h5 := h4.put 0 (.slice A9 0 c9)
    have HB5 := hide ((HBC.out.grown hgrow9 (by rw [hsC]; omega) (fun k hk => by cases hk)).setCell (p := ⟨w3.heap.size + 1 + 1, 0, none⟩) (Nat.le_refl _) (.slice A9 0 c9))
    generalize w4.setCell ⟨w3.heap.size + 1 + 1, 0, none⟩ (.slice A9 0 c9) = w5 at *
    clear h4 hown9 hgrow9 hat9 q0 z0 hO hI HBC hsC w4
    generalize hwb : (w3.alloc (.cells #[.slice A 0 c, .slice D m d, .int .i64 p.pages] 25)).alloc (.cells #[.slice A' n' c', .slice D' m' d', .int .i64 p'.pages] 25) = wb at *
    clear hwb
    have HE0 := hide (HEB.out.next (by rw [hsB]; exact HB5.out))
    have HP0 := hide (HPB.out.below (w' := w5) (by rw [hsB]; exact HB5.out))
    have HQ0 := hide (HQB.out.below (w' := w5) (by rw [hsB]; exact HB5.out))
    have hst : wb.heap.size ≤ w5.heap.size := HB5.out.size
    have HR0 : Hid (Held w5 (w3.heap.size + 2) A9 0 c9 D m d p) := hide ⟨h5, ⟨by rw [hc0]; exact Inss.nil, (HJB.out.below (HB5.out.mono (by omega))).mono (by omega)⟩, by omega, by omega⟩
    clear HB5 h5 HEB HPB HQB HJB hsB hst hc0
    generalize w5 = u0 at *
    have k0 := HP0.out.c0
    have k1 := HP0.out.c1
    have k2 := HP0.out.c2
    go_wp2_with fail
    refine (format_held HP0.out HM.out.fine HE0.out.ops HE0.out.tab).mono ?_
    rintro e u1 h
    obtain ⟨rfl, hb⟩ := h.got (Cd.format_ok HM.out.good.1)
    have HE1 := hide (HE0.out.next hb)
    have HP1 := hide (HP0.out.below hb)
    have HQ1 := hide (HQ0.out.below hb)
    have HR1 := hide (HR0.out.below hb)
    clear h hb HE0 HP0 HQ0 HR0 k0 k1 k2
    have k0 := HQ1.out.c0
    have k1 := HQ1.out.c1
    have k2 := HQ1.out.c2
    go_wp2_with fail
    refine (format_held HQ1.out HM'.out.fine HE1.out.ops HE1.out.tab).mono ?_
    rintro e u2 h
    obtain ⟨rfl, hb⟩ := h.got (Cd.format_ok HM'.out.good.1)
    have HE2 := hide (HE1.out.next hb)
    have HP2 := hide (HP1.out.below hb)
    have HQ2 := hide (HQ1.out.below hb)
    have HR2 := hide (HR1.out.below hb)
    clear h hb HE1 HP1 HQ1 HR1 k0 k1 k2
    have k0 := HR2.out.c0
    have k1 := HR2.out.c1
    have k2 := HR2.out.c2
    go_wp2_with fail
    refine (format_held HR2.out HM.out.fine HE2.out.ops HE2.out.tab).mono ?_
    rintro e u3 h
    obtain ⟨rfl, hb⟩ := h.got (Cd.format_ok HM.out.good.1)
    have HE3 := hide (HE2.out.next hb)
    have HP3 := hide (HP2.out.below hb)
    have HQ3 := hide (HQ2.out.below hb)
    have HR3 := hide (HR2.out.below hb)
    clear h hb HE2 HP2 HQ2 HR2 k0 k1 k2
    obtain ⟨V1, hV1⟩ := rfl_bool (decide (p = p'))
    have e1 : (Cd.text p == Cd.text p') = V1 := by rw [← hV1]; exact Cd.text_beq HM.out.good HM'.out.good
    have HV1 := hide hV1
    have HV1' : Hid (decide (p' = p) = V1) := hide (by rw [← hV1]; exact decide_eq_decide.2 eq_comm)
    clear hV1
    go_wp2_with fail
    refine region_G (by kernel_rfl) ?_
    have HE4 := hide HE3.out.drew
    have HP4 := hide (HP3.out.below (w' := u3.drew) ⟨rfl, rfl, rfl, Nat.le_refl _, fun _ _ => rfl⟩)
    have HQ4 := hide (HQ3.out.below (w' := u3.drew) ⟨rfl, rfl, rfl, Nat.le_refl _, fun _ _ => rfl⟩)
    have HR4 := hide (HR3.out.below (w' := u3.drew) ⟨rfl, rfl, rfl, Nat.le_refl _, fun _ _ => rfl⟩)
    clear HE3 HP3 HQ3 HR3
    generalize u3.drew = u4 at *
    refine take_ 0 rfl (by kernel_rfl) (fun _ _ _ h => h) (by rfl) (by intro w' hg; go_simp; try with_reducible rfl) ?_
    refine take_ 1 rfl (by kernel_rfl) (fun _ _ _ h => h) (by rfl) (by intro w' hg; go_simp; try with_reducible rfl) ?_
    refine take_ 2 rfl (by kernel_rfl) (fun _ _ _ h => h) (by rfl) (by intro w' hg; go_simp; try with_reducible rfl) ?_
    refine take_ 3 rfl (by kernel_rfl) (fun _ _ _ h => h) (by kernel_rfl) (by intro w' hg; go_simp; try with_reducible rfl) ?_
    refine take_ 4 rfl (by kernel_rfl) (fun _ _ _ h => h) (by kernel_rfl) (by intro w' hg; go_simp; try with_reducible rfl) ?_
    refine take_ 5 rfl (by kernel_rfl) (fun _ _ _ h => h) (by rfl) (by intro w' hg; go_simp; try with_reducible rfl) ?_
    refine take_ 6 rfl (by kernel_rfl) (fun _ _ _ h => h) (by rfl) (by intro w' hg; go_simp; try with_reducible rfl) ?_
    refine take_ 7 rfl (by kernel_rfl) (fun _ _ _ h => h) (by kernel_rfl) (by intro w' hg; go_simp; try with_reducible rfl) ?_
    refine take_ 8 rfl (by kernel_rfl) (fun _ _ _ h => h) (by kernel_rfl) (by intro w' hg; go_simp; try with_reducible rfl) ?_
    refine take_ 9 rfl (by kernel_rfl) (fun _ _ _ h => h) (by rfl) (by intro w' hg; go_simp; try with_reducible rfl) ?_
    refine take_ 10 rfl (by kernel_rfl) (fun _ _ _ h => h) (by rfl) (by intro w' hg; go_simp; try with_reducible rfl) ?_
    refine take_ 11 rfl (by kernel_rfl) (fun _ _ _ h => h) (by kernel_rfl) (by intro w' hg; go_simp; try with_reducible rfl) ?_
    refine take_ 12 rfl (by kernel_rfl) (fun _ _ _ h => h) (by kernel_rfl) (by intro w' hg; go_simp; try with_reducible rfl) ?_
    refine take_ 13 rfl (by kernel_rfl) (fun _ _ _ h => h) (by kernel_rfl) (by intro w' hg; go_simp; try with_reducible rfl) ?_
    refine take_ 14 rfl (by kernel_rfl) (fun _ _ _ h => h) (by kernel_rfl) (by intro w' hg; have k0 := (HP4.out.below hg).c0; have k1 := (HP4.out.below hg).c1; have k2 := (HP4.out.below hg).c2; go_simp; try with_reducible rfl) ?_
    refine take_ 15 rfl (by kernel_rfl) (fun _ _ _ h => h) (by kernel_rfl) (by intro w' hg; have k0 := (HQ4.out.below hg).c0; have k1 := (HQ4.out.below hg).c1; have k2 := (HQ4.out.below hg).c2; go_simp; try with_reducible rfl) ?_
    refine only_ 16 rfl (by kernel_rfl) (by kernel_rfl) ?_
    intro K hK
    go_simp
    refine (same_held HP4.out HQ4.out).mono ?_
    rintro e u5 ⟨rfl, hb⟩
    rw [HV1.out]
    have HE5 := hide (HE4.out.next hb)
    have HP5 := hide (HP4.out.below hb)
    have HQ5 := hide (HQ4.out.below hb)
    have HR5 := hide (HR4.out.below hb)
    refine hK _ _ hb ?_
    clear hK K hb HE4 HP4 HQ4 HR4
    refine take_ 17 rfl (by kernel_rfl) (fun _ _ _ h => h) (by kernel_rfl) (by intro w' hg; go_simp; try with_reducible rfl) ?_
    refine take_ 18 rfl (by kernel_rfl) (fun _ _ _ h => h) (by rfl) (by intro w' hg; go_simp; try with_reducible rfl) ?_
    refine take_ 19 rfl (by kernel_rfl) (fun _ _ _ h => h) (by rfl) (by intro w' hg; go_simp; try with_reducible rfl) ?_
    refine take_ 20 rfl (by kernel_rfl) (fun _ _ _ h => h) (by kernel_rfl) (by intro w' hg; go_simp; try with_reducible rfl) ?_
    refine take_ 21 rfl (by kernel_rfl) (fun _ _ _ h => h) (by kernel_rfl) (by intro w' hg; go_simp; try with_reducible rfl) ?_
    refine take_ 22 rfl (by kernel_rfl) (fun _ _ _ h => h) (by kernel_rfl) (by intro w' hg; go_simp; try with_reducible rfl) ?_
    refine take_ 23 rfl (by kernel_rfl) (fun _ _ _ h => h) (by kernel_rfl) (by intro w' hg; have k0 := (HP5.out.below hg).c0; have k1 := (HP5.out.below hg).c1; have k2 := (HP5.out.below hg).c2; go_simp; try with_reducible rfl) ?_
    refine take_ 24 rfl (by kernel_rfl) (fun _ _ _ h => h) (by kernel_rfl) (by intro w' hg; have k0 := (HR5.out.below hg).c0; have k1 := (HR5.out.below hg).c1; have k2 := (HR5.out.below hg).c2; go_simp; try with_reducible rfl) ?_
    refine only_ 25 rfl (by kernel_rfl) (by kernel_rfl) ?_
    intro K hK
    go_simp
    refine (same_held HP5.out HR5.out).mono ?_
    rintro e u6 ⟨rfl, hb⟩
    rw [pr_self]
    have HE6 := hide (HE5.out.next hb)
    have HP6 := hide (HP5.out.below hb)
    have HQ6 := hide (HQ5.out.below hb)
    have HR6 := hide (HR5.out.below hb)
    refine hK _ _ hb ?_
    clear hK K hb HE5 HP5 HQ5 HR5
    refine take_ 26 rfl (by kernel_rfl) (fun _ _ _ h => h) (by kernel_rfl) (by intro w' hg; go_simp; try with_reducible rfl) ?_
    refine take_ 27 rfl (by kernel_rfl) (fun _ _ _ h => h) (by rfl) (by intro w' hg; go_simp; try with_reducible rfl) ?_
    refine take_ 28 rfl (by kernel_rfl) (fun _ _ _ h => h) (by rfl) (by intro w' hg; go_simp; try with_reducible rfl) ?_
    refine take_ 29 rfl (by kernel_rfl) (fun _ _ _ h => h) (by kernel_rfl) (by intro w' hg; have k0 := (HP6.out.below hg).c0; have k1 := (HP6.out.below hg).c1; have k2 := (HP6.out.below hg).c2; go_simp; try with_reducible rfl) ?_
    refine take_ 30 rfl (by kernel_rfl) (fun _ _ _ h => h) (by kernel_rfl) (by intro w' hg; have k0 := (HQ6.out.below hg).c0; have k1 := (HQ6.out.below hg).c1; have k2 := (HQ6.out.below hg).c2; go_simp; try with_reducible rfl) ?_
    refine take_ 32 rfl (by kernel_rfl) (fun _ _ _ h => h) (by kernel_rfl) (by intro w' hg; have k0 := (HQ6.out.below hg).c0; have k1 := (HQ6.out.below hg).c1; have k2 := (HQ6.out.below hg).c2; go_simp; try with_reducible rfl) ?_
    refine take_ 33 rfl (by kernel_rfl) (fun _ _ _ h => h) (by kernel_rfl) (by intro w' hg; have k0 := (HP6.out.below hg).c0; have k1 := (HP6.out.below hg).c1; have k2 := (HP6.out.below hg).c2; go_simp; try with_reducible rfl) ?_
    refine only_ 31 rfl (by kernel_rfl) (by kernel_rfl) ?_
    intro K hK
    go_simp
    refine (same_held HP6.out HQ6.out).mono ?_
    rintro e u7 ⟨rfl, hb⟩
    rw [HV1.out]
    have HE7 := hide (HE6.out.next hb)
    have HP7 := hide (HP6.out.below hb)
    have HQ7 := hide (HQ6.out.below hb)
    have HR7 := hide (HR6.out.below hb)
    refine hK _ _ hb ?_
    clear hK K hb HE6 HP6 HQ6 HR6
    refine only_ 34 rfl (by kernel_rfl) (by kernel_rfl) ?_
    intro K hK
    go_simp
    refine (same_held HQ7.out HP7.out).mono ?_
    rintro e u8 ⟨rfl, hb⟩
    rw [HV1'.out]
    have HE8 := hide (HE7.out.next hb)
    have HP8 := hide (HP7.out.below hb)
    have HQ8 := hide (HQ7.out.below hb)
    have HR8 := hide (HR7.out.below hb)
    refine hK _ _ hb ?_
    clear hK K hb HE7 HP7 HQ7 HR7
    refine take_ 35 rfl (by kernel_rfl) (fun _ _ _ h => h) (by kernel_rfl) (by intro w' hg; go_simp; try with_reducible rfl) ?_
    refine take_ 36 rfl (by kernel_rfl) (fun _ _ _ h => h) (by rfl) (by intro w' hg; go_simp; try with_reducible rfl) ?_
    refine take_ 37 rfl (by kernel_rfl) (fun _ _ _ h => h) (by rfl) (by intro w' hg; go_simp; try with_reducible rfl) ?_
    refine done_ (by kernel_rfl) ?_
    go_simp
    go_wp2
    go_ret
    exact ⟨rfl, HE8.out.bel⟩
end Go.Proofs.YtfjekckcpkkdiaaGreatDoor
