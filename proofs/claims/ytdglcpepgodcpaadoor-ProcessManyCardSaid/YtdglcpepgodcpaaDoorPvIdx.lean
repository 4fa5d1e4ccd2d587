/- slices.Index at identifiers: which index; slices.Delete of one identifier of a row of the call's own: contracts. -/
import Derived.Test.YtdglcpepgodcpaaDoorProcessManyM
import Derived.Deep.RegionLaw
import Derived.Deep.LoopGhost
import Derived.Lib.SliceRun
import Derived.Shelf.RegionOpenPlain
namespace Go.Proofs.YtdglcpepgodcpaaDoor
open Go.RowKit

/-- Where x is first, or nowhere. -/
def AtFirst (I : List Int) (x i : Int) : Prop := (x ∉ I ∧ i = -1) ∨ ∃ (k : Nat) (hk : k < I.length), i = (k : Int) ∧ I[k] = x ∧ ∀ j (hj : j < I.length), j < k → I[j] ≠ x
set_option maxRecDepth 100000 in
set_option maxHeartbeats 4000000 in
theorem index64_at (A : Option Addr) (n c : Nat) (I : List Int) (x : Int) (W : World) (h : Nums .u64 W W.heap.size A n I) (hn : n ≤ 9223372036854775807) :
    Calls Tryd.prog 18 #[.slice A n c, .int .u64 x] W fun e w' => (∃ i : Int, e = .returned (.int .i64 i) ∧ AtFirst I x i) ∧ w' = W := by
  have hl := h.len
  have HR := hide h
  have hn' : (n : Int) ≤ 9223372036854775807 := by omega
  clear h
  go_enter Tryd.func18, Tryd.ntmps18
  go_wp2_with fail
  go_loop [8] (fun s8 => ∃ k : Nat, s8 = .int .i64 (k : Int) ∧ k ≤ n ∧ Hid (∀ j (hj : j < I.length), j < k → I[j] ≠ x)) (fun s8 => n - (intOf s8).toNat)
  case atStart => exact ⟨0, rfl, by omega, hide (fun j _ hj => by omega)⟩
  case round =>
    obtain ⟨k, rfl, hk, HA⟩ := hrel
    by_cases hlt : k < n
    · have hlt' : (k : Int) < (n : Int) := by omega
      obtain ⟨b, o, hkl, rfl, hb, hc⟩ := HR.out.at_ hlt
      by_cases hx : x = I[k]
      · have HF : Hid (AtFirst I x (k : Int)) := hide (.inr ⟨k, hkl, rfl, hx.symm, HA.out⟩)
        have hcx : W.cell? ⟨b, o + k, none⟩ = some (.int .u64 x) := by rw [hx]; exact hc
        clear hc hx
        go_wp2_with fail
        go_ret
        exact ⟨⟨(k : Int), rfl, HF.out⟩, rfl⟩
      · have HA2 := hide (not_step HA.out (fun hj e => hx e.symm))
        have hb' : (x == I[k]) = false := by simpa using hx
        clear HA
        generalize I[k] = y at *
        go_wp2_with fail
        go_round
        case rel => exact ⟨k + 1, by go_num, by omega, HA2⟩
        case measure => simp [intOf]; omega
    · have HF : Hid (¬ x ∈ I) := hide (not_mem_of hl fun j hj hjn => HA.out j hj (by omega))
      go_wp2_with fail
      go_ret
      exact ⟨⟨-1, rfl, .inl ⟨HF.out, rfl⟩⟩, rfl⟩
theorem u64Info : (Tryd.prog.info? 24).map (fun i => (i.zero, i.size, i.bytes)) = some (some (.int .u64 0), 1, 8) := by kernel_rfl
theorem u64Zero : ∀ w, (zeroValue 24).run Tryd.prog w = .ok (.int .u64 0) w := fun w => by
  obtain ⟨i0, hi, hz0, _, _⟩ := info_parts u64Info
  simp [zeroValue, typeInfo, hi, hz0]
/-- What Delete leaves of a row at block g. -/
def DeletePost (base g n c i : Nat) (l : List Int) (W : World) (e : Ending) (w' : World) : Prop := e = .returned (.slice (some ⟨g, 0, none⟩) (n - 1) c) ∧ w'.ownsRow base 24 1 (.slice (some ⟨g, 0, none⟩) (n - 1) c) (n - 1) (nv .u64 (l.eraseIdx i)) ∧ Below g W w' ∧ (∀ k, k ≠ g → w'.heap[k]? = W.heap[k]?) ∧ w'.heap.size = W.heap.size
theorem below_sets {g : Nat} (vs : List Value) : ∀ {w w' : World} (i : Nat), Below g w w' → Below g w (w'.setCells g i vs) := by
  induction vs with
  | nil => intro w w' i h; exact h
  | cons v r ih => intro w w' i h; exact ih (i + 1) (h.setCell (p := ⟨g, i, none⟩) (Nat.le_refl _) v)
theorem delete_list {l : List Int} {i n : Nat} (hl : l.length = n) (hi : i < n) : (setL (setL (nv .u64 l) i (nv .u64 (l.drop (i + 1)))) (n - 1) [.int .u64 0]).take (n - 1) = nv .u64 (l.eraseIdx i) := by
  have h1 : nv .u64 l = nv .u64 (l.take i) ++ (nv .u64 (l.drop i |>.take (n - (i + 1))) ++ nv .u64 (l.drop (n - 1))) := by
    rw [← nv_append, ← nv_append]
    congr 1
    conv => lhs; rw [← List.take_append_drop i l, ← List.take_append_drop (n - (i + 1)) (l.drop i), List.drop_drop]
    rw [show i + (n - (i + 1)) = n - 1 by omega]
  have e1 : (nv .u64 (l.take i)).length = i := by rw [nv_length, List.length_take]; omega
  have e2 : setL (nv .u64 l) i (nv .u64 (l.drop (i + 1))) = nv .u64 (l.take i) ++ (nv .u64 (l.drop (i + 1)) ++ nv .u64 (l.drop (n - 1))) := by
    conv => lhs; rw [h1]
    have := setL_mid (nv .u64 (l.drop (i + 1))) (nv .u64 (l.take i)) (nv .u64 (l.drop i |>.take (n - (i + 1)))) (nv .u64 (l.drop (n - 1))) (by rw [nv_length, nv_length, List.length_take, List.length_drop, List.length_drop]; omega)
    rwa [e1] at this
  rw [e2]
  obtain ⟨z, hz⟩ : ∃ z, l.drop (n - 1) = [z] := by
    have : (l.drop (n - 1)).length = 1 := by rw [List.length_drop]; omega
    exact List.length_eq_one_iff.1 this
  rw [hz, ← List.append_assoc, ← nv_append, ← List.eraseIdx_eq_take_drop_succ]
  have e3 : (nv .u64 (l.eraseIdx i)).length = n - 1 := by rw [nv_length, List.length_eraseIdx]; simp [hl, hi]
  have := setL_mid [.int .u64 0] (nv .u64 (l.eraseIdx i)) (nv .u64 [z]) [] (by simp [nv])
  rw [e3] at this
  rw [List.append_nil] at this
  rw [this, List.take_left' e3]
set_option maxRecDepth 100000 in
set_option maxHeartbeats 8000000 in
theorem pvDeleteO_any {base g off n c i j : Nat} {l : List Int} (W : World) (h : W.ownsRow base 24 1 (.slice (some ⟨g, 0, none⟩) n c) n (nv .u64 l)) (hi : i < n) (hoff : Hid (off = 0)) (hj : Hid (j = i + 1)) :
    Calls Tryd.prog 19 #[.slice (some ⟨g, off, none⟩) n c, .int .i64 (i : Int), .int .i64 (j : Int)] W fun e w' => ∃ r, e = .returned (.slice (some ⟨g, off, none⟩) r c) ∧ r = n - 1 ∧ w' = (W.drew.setCells g i (nv .u64 (l.drop (i + 1)))).setCells g (n - 1) [.int .u64 0] := by
  have hll : l.length = n := own_nums h
  have hcap := own_cap h
  have hc63 := own_cap63 h
  have hoff0 := hoff.out
  have hj0 := hj.out
  obtain ⟨i0, hi0, hz0, hz1, hz2⟩ := info_parts u64Info
  obtain ⟨news, hnews⟩ : ∃ news, news = nv .u64 (l.drop (i + 1)) := ⟨_, rfl⟩
  have hlen : news.length = n - j := by rw [hnews, nv_length, List.length_drop]; omega
  have hdr : W.drew.ownsRow base 24 1 (.slice (some ⟨g, 0, none⟩) n c) n (nv .u64 l) := h
  obtain ⟨A, hA, hsrc⟩ : ∃ A : Addr, (if c = j then some (⟨g, off, none⟩ : Addr) else some ⟨g, off + j, none⟩) = some A ∧ Hid (∀ t u, news[t]? = some u → W.drew.cell? (A.add t) = some u) := by
    by_cases hc : c = j
    · refine ⟨⟨g, off, none⟩, by simp [hc], hide fun t u hu => ?_⟩
      have h0 : news.length = 0 := by rw [hlen]; omega
      rw [List.length_eq_zero_iff.1 h0] at hu
      simp at hu
    · refine ⟨⟨g, off + j, none⟩, by simp [hc], hide fun t u hu => ?_⟩
      rw [hnews] at hu
      have hu2 : (nv .u64 l)[j + t]? = some u := by
        rw [← hu, nv, nv, List.getElem?_map, List.getElem?_map, List.getElem?_drop, hj0]
      have := own_cell hdr hu2
      rw [Addr.add_lit, hoff0, Nat.zero_add]
      exact this
  have s1 : Hid (news.length = (n - j) * 1) := hide (by rw [Nat.mul_one]; exact hlen)
  have s2 : Hid (∀ u ∈ news, u.oneCell' = true) := hide (by rw [hnews]; exact nv_one _ _)
  have s3 : Hid (∀ t, t < news.length → (W.drew.cell? ⟨g, off + i * 1 + t, none⟩).isSome = true ∧ W.drew.frozen? ⟨g, off + i * 1 + t, none⟩ = false) := hide (fun t ht => by
    rw [hlen] at ht
    have hx : i + t < (nv .u64 l).length := by rw [nv_length]; omega
    rw [hoff0, Nat.mul_one, Nat.zero_add]
    exact ⟨by rw [own_cell hdr (List.getElem?_eq_getElem hx)]; rfl, own_free hdr _⟩)
  obtain ⟨W1, hW1⟩ : ∃ W1, W1 = W.drew.setCells g (off + i * 1) news := ⟨_, rfl⟩
  have HW1 : Hid (W1 = W.drew.setCells g i (nv .u64 (l.drop (i + 1)))) := hide (by rw [hW1, hnews, hoff0, Nat.mul_one, Nat.zero_add])
  have hown1 : W1.ownsRow base 24 1 (.slice (some ⟨g, 0, none⟩) n c) n (setL (nv .u64 l) i (nv .u64 (l.drop (i + 1)))) := by rw [HW1.out]; exact own_sets _ i hdr
  have hcl : ∀ ty, (Builtin.clear_ #[25] ty #[.slice (some ⟨g, off + (i + (n - j)), none⟩) (n - (i + (n - j))) (c - (i + (n - j)))]).run Tryd.prog W1 = .ok (.tuple #[]) (W1.setCells g (off + (i + (n - j))) (List.replicate (n - (i + (n - j))) (.int .u64 0))) := fun ty =>
    Lib.run_clear_slice W1 _ _ ty _ Tryd.underlying25 u64Zero rfl rfl g _ _ _ (by omega)
      (fun t ht => by
        have hx : i + (n - j) + t < (setL (nv .u64 l) i (nv .u64 (l.drop (i + 1)))).length := by rw [hown1.1]; omega
        rw [hoff0, Nat.zero_add, own_cell hown1 (List.getElem?_eq_getElem hx)]; rfl)
      (fun t ht => by rw [hoff0, Nat.zero_add]; exact own_free hown1 _)
  have HW2 : Hid (W1.setCells g (off + (i + (n - j))) (List.replicate (n - (i + (n - j))) (.int .u64 0)) = W1.setCells g (n - 1) [.int .u64 0]) := hide (by
    rw [hoff0, Nat.zero_add, show i + (n - j) = n - 1 by omega, show n - (n - 1) = 1 by omega]; rfl)
  have HN : Hid (i + (n - j) = n - 1) := hide (by omega)
  have hlt : i < j := by omega
  have hjn : j ≤ n := by omega
  have hne : ((i : Int) == (j : Int)) = false := by simp; omega
  have hic : i ≤ c := by omega
  have hjc : j ≤ c := by omega
  have HH : Hid (W1 = W.drew.setCells g (off + i * 1) news) := hide hW1
  have mixed : Tryd.prog.follows .mixedOrders = true := by kernel_rfl
  clear hown1 hW1 hdr hnews hlen hll h hoff0 hj0 hoff hj
  go_enter Tryd.func19, Tryd.ntmps19
  go_wp2_with fail
  go_region_law_o (refine step_append_room rfl (.tmp 22) (.tmp 25) 25 rfl 24 i0 1 Tryd.underlying25 hi0 hz1 g off i c (by simp [Act.eval, Act.put]) A (n - j) (c - j) news (by simp [Act.eval, Act.put]) s1.out hsrc.out s2.out (by omega) s3.out ?_; rw [← HH.out])
  go_wp2
  go_ret
  exact ⟨_, rfl, HN.out, by rw [HW2.out, HW1.out]⟩
theorem pvDelete_any {base g n c i : Nat} {l : List Int} (W : World) (h : W.ownsRow base 24 1 (.slice (some ⟨g, 0, none⟩) n c) n (nv .u64 l)) (hi : i < n) :
    Calls Tryd.prog 19 #[.slice (some ⟨g, 0, none⟩) n c, .int .i64 (i : Int), .int .i64 ((i : Int) + 1)] W (DeletePost base g n c i l W) := by
  have := pvDeleteO_any (off := 0) (j := i + 1) W h hi (hide rfl) (hide rfl)
  rw [show (((i + 1 : Nat) : Int)) = (i : Int) + 1 by omega] at this
  refine this.mono ?_
  rintro e w' ⟨r, rfl, rfl, rfl⟩
  refine ⟨rfl, ?_, below_sets _ _ (below_sets _ _ ((below_drewN (Below.refl _ W) 1))), fun k hk => ?_, ?_⟩
  · have h2 := own_short (own_sets [.int .u64 0] (n - 1) (own_sets (nv .u64 (l.drop (i + 1))) i (show W.drew.ownsRow base 24 1 (.slice (some ⟨g, 0, none⟩) n c) n (nv .u64 l) from h))) (Nat.sub_le n 1)
    rwa [delete_list (own_nums h) hi] at h2
  · rw [setCells_other _ _ _ hk, setCells_other _ _ _ hk]; rfl
  · rw [setCells_size, setCells_size]; rfl
end Go.Proofs.YtdglcpepgodcpaaDoor
