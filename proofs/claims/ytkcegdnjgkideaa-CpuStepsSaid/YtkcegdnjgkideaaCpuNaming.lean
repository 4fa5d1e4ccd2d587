/- Layer 5: an operation that names registers: the look at its operands, the closures. -/
import Derived.Test.YtkcegdnjgkideaaCpuOps
import Derived.Test.YtkcegdnjgkideaaMaps
namespace Go.Proofs.Ytkcegdnjgkideaa
open Go.RowKit

set_option maxRecDepth 100000 in
set_option maxHeartbeats 1000000 in
theorem index_any (L : List Int) (A : Option Addr) (n cap B : Nat) (w : World) (h : Nums .i64 w B A n L) (hn : n ≤ 9223372036854775807) :
    Calls Try.prog 60 #[.slice A n cap, .func (.func 57) #[] #[]] w fun e w' => w' = w ∧ ∃ i : Int, e = .returned (.int .i64 i) ∧ decide (0 ≤ i) = L.any fun v => !Cp.isReg v := by
  have hl := h.len
  go_enter Try.func60, Try.ntmps60
  go_wp2_with fail
  go_loopw [8] (fun s8 wr => ∃ k : Nat, s8 = .int .i64 (k : Int) ∧ k ≤ n ∧ wr = w ∧ Hid (∀ j (hj : j < L.length), j < k → Cp.isReg L[j] = true)) (fun s8 _ => n - (intOf s8).toNat)
  case atStart => exact ⟨0, rfl, by omega, rfl, hide (fun j _ hj => by omega)⟩
  case round =>
    obtain ⟨k, rfl, hk, rfl, HA⟩ := hrel
    by_cases hlt : k < n
    · obtain ⟨b, o, hkl, rfl, hb, hcell⟩ := h.at_ hlt
      cases hr : Cp.isReg L[k] with
      | false =>
        have HR := hide hr
        have HF : Hid ((L.any fun v => !Cp.isReg v) = true) := hide (List.any_eq_true.2 ⟨L[k], List.getElem_mem hkl, by rw [hr]; rfl⟩)
        clear hr
        generalize L[k] = v at *
        go_wp2_with (go_at_call 57; refine (noReg_any _ _).mono ?_; rintro e w1 ⟨rfl, rfl⟩; rw [HR.out])
        go_ret
        exact ⟨by first | rfl | trivial, (k : Int), rfl, by rw [HF.out]; simp⟩
      | true =>
        have HR := hide hr
        have HA2 : Hid (∀ j (hj : j < L.length), j < k + 1 → Cp.isReg L[j] = true) := hide (fun j hj hjk => by
          rcases Nat.lt_or_ge j k with h' | h'
          · exact HA.out j hj h'
          · obtain rfl : j = k := by omega
            exact hr)
        clear hr HA
        generalize L[k] = v at *
        go_wp2_with (go_at_call 57; refine (noReg_any _ _).mono ?_; rintro e w1 ⟨rfl, rfl⟩; rw [HR.out])
        go_roundw
        case rel => exact ⟨k + 1, by go_num, by omega, by first | rfl | trivial, HA2⟩
        case measure => simp [intOf]; omega
    · have HF : Hid ((L.any fun v => !Cp.isReg v) = false) := hide (by
        rw [List.any_eq_false]
        intro v hv
        obtain ⟨j, hj, rfl⟩ := List.getElem_of_mem hv
        rw [HA.out j hj (by omega)]
        decide)
      go_wp2
      go_ret
      exact ⟨by first | rfl | trivial, -1, rfl, by rw [HF.out]; rfl⟩
theorem contains_any (L : List Int) (A : Option Addr) (n cap B : Nat) (w : World) (h : Nums .i64 w B A n L) (hn : n ≤ 9223372036854775807) :
    Calls Try.prog 56 #[.slice A n cap, .func (.func 57) #[] #[]] w fun e w' => e = .returned (.bool (L.any fun v => !Cp.isReg v)) ∧ w' = w := by
  go_enter Try.func56, Try.ntmps56
  go_wp2_with fail
  refine (index_any L A n cap B _ h hn).mono ?_
  rintro e w1 ⟨rfl, i, rfl, hi⟩
  have HI := hide hi
  clear hi
  go_wp2
  go_ret
  refine ⟨?_, rfl⟩
  rw [← HI.out]
  simp

/-- What an operation does fits a processor and an action. -/
def Fit (f : Cp.Cpu → Cd.Ins → Cp.Cpu × Cp.Act) : Prop := ∀ c x, c.regs.length = 8 → (f c x).1.regs.length = 8 ∧ (f c x).2.args.length = 3
/-- The value v is a function that answers as f does where pre holds, as long as some blocks from base on are as they are. -/
def Op2 (base : Nat) (w : World) (v : Value) (pre : Cp.Cpu → Cd.Ins → Prop) (f : Cp.Cpu → Cd.Ins → Cp.Cpu × Cp.Act) : Prop :=
  ∃ (fid : Nat) (caps : Array Value) (S : List Nat), v = .func (.func fid) #[] caps ∧ (∀ (ar : Array Value) (u : World), (callFunc fid ar).run Try.prog u = .ok (.enter fid ar) u) ∧ (∀ i ∈ S, base ≤ i ∧ i < w.heap.size) ∧
    ∀ u : World, (∀ i ∈ S, u.heap[i]? = w.heap[i]?) → ∀ (c : Cp.Cpu) (x : Cd.Ins), c.regs.length = 8 → pre c x → Calls Try.prog fid (#[.agg (cc c), .agg #[.int .i64 x.op, .int .i64 x.a, .int .i64 x.b, .int .i64 x.c]] ++ caps) u (TwoPost (f c x) u)
theorem Op2.agree {base : Nat} {w w' : World} {v : Value} {pre : Cp.Cpu → Cd.Ins → Prop} {f : Cp.Cpu → Cd.Ins → Cp.Cpu × Cp.Act} (h : Op2 base w v pre f) (hk : ∀ i, base ≤ i → i < w.heap.size → w'.heap[i]? = w.heap[i]?) : Op2 base w' v pre f := by
  obtain ⟨fid, caps, S, hv, hc, hS, hu⟩ := h
  refine ⟨fid, caps, S, hv, hc, fun i hi => ⟨(hS i hi).1, ?_⟩, fun u hb' => hu u fun i hi => (hb' i hi).trans (hk i (hS i hi).1 (hS i hi).2)⟩
  have h1 := hk i (hS i hi).1 (hS i hi).2
  rw [Array.getElem?_eq_getElem (hS i hi).2] at h1
  exact (Array.getElem?_eq_some_iff.1 h1).1
theorem Op2.below {base : Nat} {w w' : World} {v : Value} {pre : Cp.Cpu → Cd.Ins → Prop} {f : Cp.Cpu → Cd.Ins → Cp.Cpu × Cp.Act} (h : Op2 base w v pre f) (hb : Below w.heap.size w w') : Op2 base w' v pre f := h.agree fun i _ hi => hb.block i hi
theorem Op2.turned {base b : Nat} {w w' : World} {v : Value} {pre : Cp.Cpu → Cd.Ins → Prop} {f : Cp.Cpu → Cd.Ins → Cp.Cpu × Cp.Act} (h : Op2 base w v pre f) (ht : w.mapTurned w' b) (hb : b < base) : Op2 base w' v pre f :=
  h.agree fun i h1 h2 => ht.grown.block i h2 (fun e => by simp only [Option.some.injEq] at e; omega)
/-- The first r operands are registers. -/
def named (r : Nat) (x : Cd.Ins) : Bool := !(([x.a, x.b, x.c].take r).any fun v => !Cp.isReg v)
def naming (r : Nat) (f : Cp.Cpu → Cd.Ins → Cp.Cpu × Cp.Act) (c : Cp.Cpu) (x : Cd.Ins) : Cp.Cpu × Cp.Act := if named r x then f c x else (c, Cp.fault)

theorem Nums.takeN {k : IntKind} {w : World} {B n : Nat} {A : Option Addr} {l : List Int} (h : Nums k w B A n l) {m : Nat} (hm : m ≤ n) : Nums k w B A m (l.take m) := by
  have hl := h.1
  refine ⟨by rw [List.length_take]; omega, ⟨by rw [nv_length, List.length_take]; omega, fun hA => ?_, ?_⟩⟩
  · have := h.2.2.1 hA
    omega
  · have := h.2.rd.take_ m
    simpa [nv] using this
/-- The operands in a slice of their own. -/
theorem start_ops {w w1 : World} {c : Cp.Cpu} {x : Cd.Ins} (ST : StA w w1 c x) (SR : StB w w1) : ∃ w2, w1.alloc (.cells #[.int .i64 x.a, .int .i64 x.b, .int .i64 x.c] 3) = w2 ∧ (StA w w2 c x ∧ StB w w2) ∧ Nums .i64 w2 (w1.heap.size + 1) (some ⟨w1.heap.size, 0, none⟩) 3 [x.a, x.b, x.c] ∧ Below w1.heap.size w1 w2 := by
  have hb : Below w1.heap.size w1 (w1.alloc (.cells #[.int .i64 x.a, .int .i64 x.b, .int .i64 x.c] 3)) := (Below.refl _ _).alloc (Nat.le_refl _) _
  exact ⟨_, rfl, ⟨ST.next (ST.later hb), SR.next hb⟩, ⟨rfl, Row.list w1 [.int .i64 x.a, .int .i64 x.b, .int .i64 x.c] 3⟩, hb⟩
set_option maxRecDepth 100000 in
set_option maxHeartbeats 2000000 in
theorem naming1_any (r : Nat) (hr : r ≤ 3) (fid : Nat) (caps : Array Value) (f : Cp.Cpu → Cd.Ins → Cp.Cpu × Cp.Act) (hf : Fit f) (c : Cp.Cpu) (x : Cd.Ins) (h8 : c.regs.length = 8) (gr gf : Nat) (w : World)
    (hR : Obl w gr 3 #[.int .i64 r]) (hF : Obl w gf 64 #[.func (.func fid) #[] caps]) (hcf : ∀ (ar : Array Value) (u : World), (callFunc fid ar).run Try.prog u = .ok (.enter fid ar) u)
    (hu : named r x = true → ∀ u, Below w.heap.size w u → Calls Try.prog fid (#[.agg (cc c), .agg #[.int .i64 x.op, .int .i64 x.a, .int .i64 x.b, .int .i64 x.c]] ++ caps) u (TwoPost (f c x) u)) :
    Calls Try.prog 55 #[.agg (cc c), .agg #[.int .i64 x.op, .int .i64 x.a, .int .i64 x.b, .int .i64 x.c], .pointer (some ⟨gr, 0, none⟩), .pointer (some ⟨gf, 0, none⟩)] w (TwoPost (naming r f c x) w) := by
  have hU := hide hu
  obtain ⟨w1, hw, ST, SR⟩ := start_b w c x
  have hR1 := hide (hR.below ST.bel hR.lt)
  have hF1 := hide (hF.below ST.bel hF.lt)
  have k1 := ST.xa
  have k2 := ST.xb
  have k3 := ST.xc
  obtain ⟨w2, hw2, ⟨ST2, SR2⟩, hN, hb2⟩ := start_ops ST SR
  have hR2 := hR1.out.below hb2 hR1.out.lt
  have hF2 := hide (hF1.out.below hb2 hF1.out.lt)
  have kr := hR2.cell 0
  simp at kr
  have hN2 := hide (hN.takeN hr)
  have HL := hide hN.2.1
  have hr' : (r : Int) ≤ 3 := by omega
  clear hu hR hF hN hR1 hF1 hR2 hb2
  go_enter Try.func55, Try.ntmps55
  go_wp2_with fail
  refine (contains_any ([x.a, x.b, x.c].take r) (some ⟨w1.heap.size, 0, none⟩) r 3 (w1.heap.size + 1) _ hN2.out (by omega)).mono ?_
  rintro e w3 ⟨rfl, rfl⟩
  have HNM : Hid (named r x = !(([x.a, x.b, x.c].take r).any fun v => !Cp.isReg v)) := hide rfl
  generalize (([x.a, x.b, x.c].take r).any fun v => !Cp.isReg v) = no at *
  clear k1 k2 k3 kr hw hw2 ST SR hN2 HL
  cases no with
  | true =>
    clear hF2
    go_wp2_with (first | (refine load_cpu rfl _ rfl rfl ST2.o0 h8 ?_) | fail)
    refine (fault_any c h8 _).mono ?_
    rintro e w4 ⟨rfl, hb4⟩
    obtain ⟨E0, E1, E2, hbe⟩ := ends_2 (g := w.heap.size + 2) (SR2.next hb4).o1 (SR2.next hb4).o2 (ST2.next (ST2.later hb4)).bel (by omega) c Cp.fault
    have O1 := (SR2.next hb4).o1
    clear hb4 ST2 SR2
    go_wp2_with (first | (refine store_cpu rfl _ _ rfl rfl rfl O1 rfl h8 ?_) | (refine store_act rfl _ _ rfl rfl (c := Cp.fault) rfl E1 rfl rfl ?_) | fail)
    refine bodyPost_ret (ret_two rfl _ rfl E0 h8 rfl E2 rfl) rfl ?_
    rw [show naming r f c x = (c, Cp.fault) by unfold naming; rw [HNM.out]; rfl]
    exact ⟨rfl, hbe⟩
  | false =>
    have kf := hF2.out.cell 0
    simp at kf
    have hU2 := hide (hU.out (by rw [HNM.out]; rfl))
    have h8' := (hf c x h8).1
    have h3' := (hf c x h8).2
    clear hU hF2
    go_wp2_with (first | (refine load_cpu rfl _ rfl rfl ST2.o0 h8 ?_) | (refine load_ins rfl _ rfl rfl ST2.oi ?_) | fail)
    refine (hU2.out _ ST2.bel).mono ?_
    rintro e w4 ⟨rfl, hb4⟩
    obtain ⟨E0, E1, E2, hbe⟩ := ends_2 (g := w.heap.size + 2) (SR2.next hb4).o1 (SR2.next hb4).o2 (ST2.next (ST2.later hb4)).bel (by omega) (f c x).1 (f c x).2
    have O1 := (SR2.next hb4).o1
    clear hb4 ST2 SR2 kf
    go_wp2_with (first | (refine store_cpu rfl _ _ rfl rfl rfl O1 rfl h8' ?_) | (refine store_act rfl _ _ rfl rfl (c := (f c x).2) rfl E1 rfl h3' ?_) | fail)
    refine bodyPost_ret (ret_two rfl _ rfl E0 h8' rfl E2 h3') rfl ?_
    rw [show naming r f c x = f c x by unfold naming; rw [HNM.out]; rfl]
    exact ⟨rfl, hbe⟩

/-- What makes an operation of one that needs its first r operands to be registers. -/
def MadeOp (base : Nat) (f : Cp.Cpu → Cd.Ins → Cp.Cpu × Cp.Act) (w : World) (e : Ending) (w' : World) : Prop := ∃ v, e = .returned v ∧ Op2 base w' v (fun _ _ => True) f ∧ Below w.heap.size w w'
theorem naming1_code (ar : Array Value) (u : World) : (callFunc 55 ar).run Try.prog u = .ok (.enter 55 ar) u := by kernel_rfl
set_option maxRecDepth 100000 in
set_option maxHeartbeats 1000000 in
theorem naming_any (base r : Nat) (hr : r ≤ 3) (v : Value) (pre : Cp.Cpu → Cd.Ins → Prop) (f : Cp.Cpu → Cd.Ins → Cp.Cpu × Cp.Act) (hf : Fit f) (hp : ∀ c x, named r x = true → pre c x) (w : World) (hw : base ≤ w.heap.size) (hv : Op2 base w v pre f) :
    Calls Try.prog 36 #[.int .i64 r, v] w (MadeOp base (naming r f) w) := by
  obtain ⟨fid, caps, S, rfl, hcf, hS, hu⟩ := hv
  have hR := (Obl.make w 3 #[.int .i64 r]).alloc (.cells #[.func (.func fid) #[] caps] 64)
  have hF := Obl.make (w.alloc (.cells #[.int .i64 r] 3)) 64 #[.func (.func fid) #[] caps]
  rw [World.size_alloc] at hF
  have hb := ((Below.refl w.heap.size w).alloc (Nat.le_refl _) (.cells #[.int .i64 r] 3)).alloc (by simp) (.cells #[.func (.func fid) #[] caps] 64)
  have HP : Hid (MadeOp base (naming r f) w (.returned (.func (.func 55) #[] #[.pointer (some ⟨w.heap.size, 0, none⟩), .pointer (some ⟨w.heap.size + 1, 0, none⟩)])) ((w.alloc (.cells #[.int .i64 r] 3)).alloc (.cells #[.func (.func fid) #[] caps] 64))) := by
    have hlR := hR.lt
    have hlF := hF.lt
    generalize (w.alloc (.cells #[.int .i64 r] 3)).alloc (.cells #[.func (.func fid) #[] caps] 64) = w1 at *
    refine hide ⟨_, rfl, ⟨55, _, w.heap.size :: (w.heap.size + 1) :: S, rfl, naming1_code, fun i hi => ?_, fun u hbu c x h8 _ => ?_⟩, hb⟩
    · simp only [List.mem_cons] at hi
      rcases hi with rfl | rfl | hi
      · exact ⟨hw, hlR⟩
      · exact ⟨by omega, hlF⟩
      · exact ⟨(hS i hi).1, Nat.lt_of_lt_of_le (hS i hi).2 hb.size⟩
    · refine naming1_any r hr fid caps f hf c x h8 _ _ u ((hbu _ (by simp)).trans hR) ((hbu _ (by simp)).trans hF) hcf (fun hn u' hb' => hu u' (fun i hi => ?_) c x h8 (hp c x hn))
      have h1 := (hbu i (by simp [hi])).trans (hb.block i (hS i hi).2)
      have hlt : i < u.heap.size := by
        rw [Array.getElem?_eq_getElem (hS i hi).2] at h1
        exact (Array.getElem?_eq_some_iff.1 h1).1
      exact (hb'.block i hlt).trans h1
  clear hR hF hb hu hcf hw hS
  go_enter Try.func36, Try.ntmps36
  go_wp2
  go_ret
  exact HP.out
end Go.Proofs.Ytkcegdnjgkideaa
