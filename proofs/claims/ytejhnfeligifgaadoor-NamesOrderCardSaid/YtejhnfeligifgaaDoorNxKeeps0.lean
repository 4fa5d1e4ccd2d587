/- Layer 9: the reference's Same on two entries that are equal, and the statements' own same: contracts. | Layer 9: name spaces and entries in blocks; the calls as the statements make them. -/
import Derived.Test.YtejhnfeligifgaaDoorNmValid
import Derived.Test.YtejhnfeligifgaaDoorNmEntry
import Derived.Test.YtejhnfeligifgaaDoorSameFull
import Derived.Deep.QuietTactic
import Derived.BigQuiet
import Derived.Test.YtejhnfeligifgaaDoorNxLaw
import Derived.Test.YtejhnfeligifgaaDoorNxRename
import Derived.Test.YtejhnfeligifgaaDoorSame
namespace Go.Proofs.YtejhnfeligifgaaDoor
open Go.RowKit

set_option maxRecDepth 100000 in
set_option maxHeartbeats 8000000 in
theorem refSame_one (g1 g2 : Nat) (s : ByteArray) (kd : Int) (A D : Option Addr) (n c d C : Nat) (I : List Int) (W : World)
    (a0 : W.cell? ⟨g1, 0, none⟩ = some (.string s)) (a1 : W.cell? ⟨g1, 1, none⟩ = some (.int .i64 kd)) (a2 : W.cell? ⟨g1, 2, none⟩ = some (.slice A n c))
    (b0 : W.cell? ⟨g2, 0, none⟩ = some (.string s)) (b1 : W.cell? ⟨g2, 1, none⟩ = some (.int .i64 kd)) (b2 : W.cell? ⟨g2, 2, none⟩ = some (.slice D n d))
    (ha : Nums .u64 W C A n I) (hb : Nums .u64 W C D n I) (hn : n ≤ 1000000) :
    Calls Tryd.prog 43 #[.slice (some ⟨g1, 0, none⟩) 1 1, .slice (some ⟨g2, 0, none⟩) 1 1] W (BoolPost true W) := by
  have hn' : (n : Int) ≤ 1000000 := by omega
  have HA := hide ha
  have HB := hide hb
  clear ha hb
  go_enter Tryd.func43, Tryd.ntmps43
  go_wp2_with fail
  go_loopw [14] (fun s14 wr => ∃ k : Nat, s14 = .int .i64 (k : Int) ∧ k ≤ 1 ∧ ∃ q, wr = W.drewN q) (fun s14 _ => 1 - (intOf s14).toNat)
  case atStart => exact ⟨0, rfl, by omega, 0, rfl⟩
  case round =>
    obtain ⟨k, rfl, hk, q, rfl⟩ := hrel
    by_cases h0 : k = 0
    · subst h0
      go_wp2_with fail
      go_quiet (fail)
      go_wp2_with fail
      go_loopw [62] (fun s62 wr => ∃ j : Nat, s62 = .int .i64 (j : Int) ∧ j ≤ n ∧ ∃ q, wr = W.drewN q) (fun s62 _ => n - (intOf s62).toNat)
      case atStart => exact ⟨0, rfl, by omega, _, rfl⟩
      case round =>
        obtain ⟨j, rfl, hj, q2, rfl⟩ := hrel
        by_cases hlt : j < n
        · have hlt' : (j : Int) < (n : Int) := by omega
          obtain ⟨ba, oa, hla, rfl, _, hca⟩ := HA.out.at_ hlt
          obtain ⟨bb, ob, hlb, rfl, _, hcb⟩ := HB.out.at_ hlt
          obtain ⟨v, hv⟩ : ∃ v, I[j] = v := ⟨_, rfl⟩
          rw [hv] at hca hcb
          clear hv
          go_wp2_with fail
          go_quiet (fail)
          go_wp2_with fail
          go_roundw
          case rel => exact ⟨j + 1, by go_num, by omega, _, rfl⟩
          case measure => simp [intOf]; omega
        · obtain rfl : j = n := by omega
          go_wp2_with fail
          go_roundw
          case rel => exact ⟨1, rfl, by omega, _, rfl⟩
          case measure => simp [intOf]
    · obtain rfl : k = 1 := by omega
      go_wp2_with fail
      go_ret
      exact ⟨rfl, ⟨rfl, rfl, rfl, Nat.le_refl _, fun _ _ => rfl⟩⟩
set_option maxRecDepth 100000 in
set_option maxHeartbeats 4000000 in
theorem nxSame_any (y z : Nm) (I : List Int) (W : World) (hp : y.path = z.path) (hk : y.kind = z.kind) (hI : Nums .u64 W W.heap.size y.ids.A y.ids.n I) (hJ : Nums .u64 W W.heap.size z.ids.A z.ids.n I) (hn : y.ids.n ≤ 1000000) :
    Calls Tryd.prog 16 #[.agg (nc y), .agg (nc z)] W (BoolPost true W) := by
  have e1 : z.ids.n = y.ids.n := hJ.len.symm.trans hI.len
  obtain ⟨w1, hw, O1, O2, hb⟩ := start_two W 51 (nc y) (nc z)
  have OA := Obl.make w1 51 #[.string ⟨y.path.toArray⟩, .int .i64 y.kind, .slice y.ids.A y.ids.n y.ids.c]
  have OA2 := OA.alloc (.cells #[.string ⟨z.path.toArray⟩, .int .i64 z.kind, .slice z.ids.A z.ids.n z.ids.c] 51)
  have OB := Obl.make (w1.alloc (.cells #[.string ⟨y.path.toArray⟩, .int .i64 y.kind, .slice y.ids.A y.ids.n y.ids.c] 51)) 51 #[.string ⟨z.path.toArray⟩, .int .i64 z.kind, .slice z.ids.A z.ids.n z.ids.c]
  have hb2 : Below W.heap.size W ((w1.alloc (.cells #[.string ⟨y.path.toArray⟩, .int .i64 y.kind, .slice y.ids.A y.ids.n y.ids.c] 51)).alloc (.cells #[.string ⟨z.path.toArray⟩, .int .i64 z.kind, .slice z.ids.A z.ids.n z.ids.c] 51)) := (hb.alloc hb.size _).alloc (by rw [World.size_alloc]; have := hb.size; omega) _
  have HI := hide (hI.belowLe hb2 (Nat.le_refl _))
  have hJ2 : Nums .u64 W W.heap.size z.ids.A y.ids.n I := by rw [← e1]; exact hJ
  have HJ := hide (hJ2.belowLe hb2 (Nat.le_refl _))
  rw [World.size_alloc] at OB
  have HC : Hid (Calls Tryd.prog 43 #[.slice (some ⟨w1.heap.size, 0, none⟩) 1 1, .slice (some ⟨w1.heap.size + 1, 0, none⟩) 1 1] ((w1.alloc (.cells #[.string ⟨y.path.toArray⟩, .int .i64 y.kind, .slice y.ids.A y.ids.n y.ids.c] 51)).alloc (.cells #[.string ⟨z.path.toArray⟩, .int .i64 z.kind, .slice z.ids.A z.ids.n z.ids.c] 51)) (BoolPost true ((w1.alloc (.cells #[.string ⟨y.path.toArray⟩, .int .i64 y.kind, .slice y.ids.A y.ids.n y.ids.c] 51)).alloc (.cells #[.string ⟨z.path.toArray⟩, .int .i64 z.kind, .slice z.ids.A z.ids.n z.ids.c] 51)))) :=
    hide (refSame_one w1.heap.size (w1.heap.size + 1) ⟨y.path.toArray⟩ y.kind y.ids.A z.ids.A y.ids.n y.ids.c z.ids.c _ I _ (OA2.cell 0) (OA2.cell 1) (OA2.cell 2) ((OB.cell 0).trans (by rw [hp]; rfl)) ((OB.cell 1).trans (by rw [hk]; rfl)) ((OB.cell 2).trans (by rw [← e1]; rfl)) HI.out HJ.out hn)
  have HB2 := hide hb2
  clear OA OA2 OB hb2 HI HJ hb hI hJ hJ2 e1 hp hk
  go_enter Tryd.func16, Tryd.ntmps16
  go_wp2_with (first | (refine load_nm rfl _ rfl rfl (y := y) O1 ?_; rw [show nc y = #[.string ⟨y.path.toArray⟩, .int .i64 y.kind, .slice y.ids.A y.ids.n y.ids.c] from rfl]) | (refine load_nm rfl _ rfl rfl (y := z) (O2.alloc _) ?_; rw [show nc z = #[.string ⟨z.path.toArray⟩, .int .i64 z.kind, .slice z.ids.A z.ids.n z.ids.c] from rfl]) | fail)
  refine HC.out.mono ?_
  rintro e w2 ⟨rfl, hb3⟩
  have HB3 := hide (HB2.out.trans (hb3.mono HB2.out.size))
  clear hb3
  go_wp2_with fail
  go_ret
  exact ⟨rfl, HB3.out⟩
end Go.Proofs.YtejhnfeligifgaaDoor
namespace Go.Proofs.YtejhnfeligifgaaDoor
open Go.RowKit

/-- A name space in block m, its lists below B. -/
structure DirAt (w : World) (B m : Nat) (s : Sl) (l : List Nm) (E : List Nx.Ent) : Prop where
  ob : Obl w m 41 (oc (Ob.dir s))
  le : B ≤ w.heap.size
  ents : Ents w B s.A s.n l E
  short : Short l
  space : Nx.Space E
  room : s.n ≤ 256
section
variable {w w' : World} {B m g : Nat} {s : Sl} {l : List Nm} {E : List Nx.Ent} {y : Nm} {x : Nx.Ent}
theorem DirAt.below (h : DirAt w B m s l E) (hb : Below w.heap.size w w') : DirAt w' B m s l E := ⟨h.ob.below hb h.ob.lt, Nat.le_trans h.le hb.size, h.ents.below (hb.mono h.le), h.short, h.space, h.room⟩
theorem DirAt.low (h : DirAt w B m s l E) (hb : Below B w w') (O : Obl w' m 41 (oc (Ob.dir s))) : DirAt w' B m s l E := ⟨O, Nat.le_trans h.le hb.size, h.ents.below hb, h.short, h.space, h.room⟩
theorem DirAt.all (h : DirAt w B m s l E) : Ents w w.heap.size s.A s.n l E := h.ents.mono h.le
/-- An entry in memory that holds x. -/
def HoldsE (w : World) (y : Nm) (x : Nx.Ent) : Prop := y.path = x.path ∧ y.kind = x.kind ∧ w.ownsRow 0 22 1 (.slice y.ids.A y.ids.n y.ids.c) y.ids.n (nv .u64 x.ids)
theorem HoldsE.below (h : HoldsE w y x) (hb : Below w.heap.size w w') : HoldsE w' y x := ⟨h.1, h.2.1, own_keep h.2.2 (keep_below hb)⟩
theorem HoldsE.put (h : HoldsE w y x) {cs : Array Value} (O : Obl w g 51 cs) (i : Nat) (u : Value) : HoldsE (w.setCell ⟨g, i, none⟩ u) y x :=
  ⟨h.1, h.2.1, own_put_other h.2.2 (by rw [ownBlock_slice]; exact fun e => O.apart h.2.2 (by decide) e.symm) _⟩
/-- An entry in block g. -/
structure EntAt (w : World) (g : Nat) (y : Nm) (x : Nx.Ent) : Prop where
  ob : Obl w g 51 (nc y)
  holds : HoldsE w y x
theorem EntAt.below (h : EntAt w g y x) (hb : Below w.heap.size w w') : EntAt w' g y x := ⟨h.ob.below hb h.ob.lt, h.holds.below hb⟩
theorem EntAt.put {k : Nat} (h : EntAt w g y x) {cs : Array Value} (O : Obl w k 51 cs) (hne : g ≠ k) (i : Nat) (u : Value) : EntAt (w.setCell ⟨k, i, none⟩ u) g y x := ⟨h.ob.put_other hne i u, h.holds.put O i u⟩
/-- .. under another path. -/
theorem EntAt.setPath (h : EntAt w g y x) (q : ByteArray) : EntAt (w.setCell ⟨g, 0, none⟩ (.string q)) g ⟨q.data.toList, y.kind, y.ids⟩ (x.as q.data.toList) :=
  ⟨h.ob.put 0 (.string q), rfl, h.holds.2.1, (h.holds.put h.ob 0 (.string q)).2.2⟩
end
def Nx.ent0 : Nx.Ent := ⟨[], 0, []⟩
/-- What is found: an entry that holds it, or the zero entry. -/
def FoundIs (r : Option Nx.Ent) (w : World) (e : Ending) (w' : World) : Prop := ∃ y : Nm, e = .returned (.tuple #[.agg (nc y), .bool r.isSome]) ∧ HoldsE w' y (r.getD Nx.ent0) ∧ Below w.heap.size w w'
theorem FindIs.found {r : Option Nx.Ent} {w w' : World} {e : Ending} (h : FindIs r w e w') : FoundIs r w e w' := by
  obtain ⟨h, hb⟩ := h
  rcases h with ⟨y, x, hr, he, hp, hk, hown⟩ | ⟨hr, he⟩
  · subst hr
    exact ⟨y, he, ⟨hp, hk, own_weaken hown (Nat.zero_le _)⟩, hb⟩
  · subst hr
    exact ⟨⟨[], 0, ⟨none, 0, 0⟩⟩, he, ⟨rfl, rfl, own_nil⟩, hb⟩
theorem dirFind {W : World} {B m : Nat} {s : Sl} {l : List Nm} {E : List Nx.Ent} (D : DirAt W B m s l E) (HM : Mx W) (p : ByteArray) : Calls Tryd.prog 14 #[.agg (oc (Ob.dir s)), .string p] W (FoundIs (Nx.find E p.data.toList) W) := by
  have := nxFind_any (Ob.dir s) p l E W D.all D.short HM
  rw [dir_found D.room D.space] at this
  exact this.mono fun _ _ h => h.found
/-- The error of Rename in a name space. -/
def Nx.renErr (E : List Nx.Ent) (p q : List UInt8) : Int := if (Nx.find E p).isSome then (if Nx.Path q then (if (Nx.find E q).isSome then 7 else 0) else 1) else 6
theorem dirRename {W : World} {B m : Nat} {s : Sl} {l : List Nm} {E : List Nx.Ent} (D : DirAt W B m s l E) (HM : Mx W) (p q : ByteArray) (hq : q.size ≤ 9223372036854775807) : Calls Tryd.prog 24 #[.agg (oc (Ob.dir s)), .string p, .string q] W (DirIs (Nx.renErr E p.data.toList q.data.toList) (Nx.renamed E p.data.toList q.data.toList) W) := by
  have := nxRen_any (Ob.dir s) p q l E W D.all D.short HM hq
  rwa [show (Ob.dir s).renErr E p.data.toList q.data.toList = Nx.renErr E p.data.toList q.data.toList from if_pos (dir_names D.room D.space)] at this
theorem dirValid {W : World} {B m : Nat} {s : Sl} {l : List Nm} {E : List Nx.Ent} (D : DirAt W B m s l E) (HM : Mx W) : Calls Tryd.prog 17 #[.agg (oc (Ob.dir s))] W (BoolPost true W) := by
  have := nxNames_any (Ob.dir s) l E W D.all D.short HM
  rwa [decide_eq_true (dir_names D.room D.space)] at this
theorem noProc_dir (s : Sl) : (Ob.dir s).NoProc := dir_clear.2.2.2
/-- Two name spaces of the same entries. -/
theorem dirSame {W : World} {B C m k : Nat} {s t : Sl} {l r : List Nm} {E : List Nx.Ent} (D : DirAt W B m s l E) (K : DirAt W C k t r E) : Calls Tryd.prog 23 #[.agg (oc (Ob.dir s)), .agg (oc (Ob.dir t))] W (BoolPost true W) := by
  have hA : Alike (Ob.dir s) (Ob.dir t) := ⟨rfl, rfl, rfl, rfl, rfl, rfl, rfl, rfl, rfl, rfl⟩
  have hB : Both W (Ob.dir s) (Ob.dir t) [] [] [] [] [] := ⟨Nums.nil, Nums.nil, Bytes.nil, Bytes.nil, Bytes.nil, Bytes.nil, Bytes.nil, Bytes.nil, Nums.nil, Nums.nil, by decide⟩
  have hP : ∀ w, Below W.heap.size W w → Calls Tryd.prog 56 #[.agg (pcell (Ob.dir s)), .agg (pcell (Ob.dir t))] w (BoolPost true w) := fun w _ => sameProc_none _ _ (noProc_dir s) (noProc_dir t) w
  by_cases hE : E.length = 0
  · exact same_ob (Ob.dir s) (Ob.dir t) [] [] [] [] [] W hA (by have := D.ents.len; show s.n = 0; omega) (by have := K.ents.len; show t.n = 0; omega) hB hP
  · refine same_full (Ob.dir s) (Ob.dir t) [] [] [] [] [] l r E W hA D.all K.all ⟨by have := D.ents.len; have := D.room; omega, fun x hx => ?_⟩ hE hB hP
    obtain ⟨i, hi, rfl⟩ := List.getElem_of_mem hx
    have := (D.space.1 i hi).1
    omega
/-- Two entries that hold the same. -/
theorem entSame {W : World} {y z : Nm} {x : Nx.Ent} (h : HoldsE W y x) (k : HoldsE W z x) (hx : x.ids.length ≤ 1000) : Calls Tryd.prog 16 #[.agg (nc y), .agg (nc z)] W (BoolPost true W) :=
  nxSame_any y z x.ids W (h.1.trans k.1.symm) (h.2.1.trans k.2.1.symm) (Nums.of_own h.2.2) (Nums.of_own k.2.2) (by have := (Nums.of_own h.2.2).len; omega)
/-- An entry laid in a new block. -/
theorem HoldsE.laid {w w' : World} {y : Nm} {x : Nx.Ent} {g : Nat} (h : HoldsE w y x) (hg : w.heap.size = g) (O : Obl w' g 51 (nc y)) (hb : Below g w w') : EntAt w' g y x := ⟨O, h.below (hg.symm ▸ hb)⟩
/-- A name space laid in a new block. -/
theorem NmOutE.laid {w w' : World} {base m n c : Nat} {A : Option Addr} {l : List Nm} {F : List Nx.Ent} (h : NmOutE w base A n c l F) (O : Obl w' m 41 (oc (Ob.dir ⟨A, n, c⟩))) (hb : Below w.heap.size w w') (hs : Nx.Space F) (hn : F.length ≤ 256) : DirAt w' w.heap.size m ⟨A, n, c⟩ l F :=
  ⟨O, hb.size, h.ents.below hb, h.short, hs, by have := h.has.1; have := own_nmv h.own.1; show n ≤ 256; omega⟩
theorem ids_short {E : List Nx.Ent} (h : Nx.Space E) {p : List UInt8} : ((Nx.find E p).getD Nx.ent0).ids.length ≤ 1000 := by
  cases hf : Nx.find E p with
  | none => exact Nat.zero_le _
  | some z =>
    obtain ⟨_, hz⟩ := Nx.find_path hf
    obtain ⟨i, hi, rfl⟩ := List.getElem_of_mem hz
    have := (h.1 i hi).1
    show E[i].ids.length ≤ 1000
    omega
/-- Add in a name space. -/
theorem dirAdd {W : World} {B m : Nat} {s : Sl} {l : List Nm} {E : List Nx.Ent} (D : DirAt W B m s l E) (HM : Mx W) (y : Nm) (x : Nx.Ent) (hp : y.path = x.path) (hk : y.kind = x.kind) (hI : Nums .u64 W W.heap.size y.ids.A y.ids.n x.ids) (hx : x.Ok) (hf : Nx.find E x.path = none) (hn : s.n < 256) :
    Calls Tryd.prog 21 #[.agg (oc (Ob.dir s)), .agg (nc y)] W (DirIs 0 (Nx.insert E x) W) := by
  have e : (⟨y.path, y.kind, x.ids⟩ : Nx.Ent) = x := by rw [hp, hk]
  have := nxAdd_any (Ob.dir s) y l E x.ids W D.all D.short HM ⟨by rw [hp]; have := hx.2.2.1.2; omega, by have := hI.len; have := hx.1; omega⟩ hI
  rw [e, dir_addErr D.room D.space hx hf hn] at this
  exact this
theorem Nx.renErr_0 {E : List Nx.Ent} {p q : List UInt8} (h : Nx.renErr E p q = 0) : ∃ z, Nx.find E p = some z ∧ Nx.Path q ∧ Nx.find E q = none := by
  unfold Nx.renErr at h
  cases hf : Nx.find E p with
  | none => rw [hf, if_neg (by decide)] at h; cases h
  | some z =>
    rw [hf, show (some z).isSome = true from rfl, if_pos rfl] at h
    split at h
    · rename_i hq
      refine ⟨z, rfl, hq, ?_⟩
      split at h
      · cases h
      · rename_i hn
        simpa using hn
    · cases h
theorem Nx.keeps {E : List Nx.Ent} {P Q : List UInt8} {z : Nx.Ent} (hS : Nx.Space E) (hz : Nx.find E P = some z) (hp : Nx.Path Q) (hn : Nx.find E Q = none) :
    Nx.Space (Nx.moved E z Q) ∧ (Nx.moved E z Q).length = E.length ∧ Nx.renErr (Nx.moved E z Q) Q P = 0 ∧ Nx.renamed (Nx.moved E z Q) Q P = E ∧ Nx.find (Nx.moved E z Q) Q = some (z.as Q) ∧ Nx.find (Nx.moved E z Q) P = none ∧ Nx.renamed E P Q = Nx.moved E z Q ∧ ∀ t, t ≠ P → t ≠ Q → Nx.find (Nx.moved E z Q) t = Nx.find E t := by
  obtain ⟨rfl, hm⟩ := Nx.find_path hz
  have hf := Nx.moved_find hS hm hp hn
  have hne : z.path ≠ Q := fun e => by rw [e, hn] at hz; cases hz
  have h1 : Nx.find (Nx.moved E z Q) Q = some (z.as Q) := by rw [hf, if_pos rfl]
  have h2 : Nx.find (Nx.moved E z Q) z.path = none := by rw [hf, if_neg hne, if_pos rfl]
  have hpz : Nx.Path z.path := by
    obtain ⟨i, hi, he⟩ := List.getElem_of_mem hm
    have := (hS.1 i hi).2.2
    rwa [he] at this
  refine ⟨Nx.moved_space hS hm hp hn, Nx.moved_len hS hm, ?_, ?_, h1, h2, ?_, fun t ht1 ht2 => by rw [hf, if_neg ht2, if_neg ht1]⟩
  · unfold Nx.renErr
    rw [h1, h2, show (some (z.as Q)).isSome = true from rfl, if_pos rfl, if_pos hpz]; rfl
  · unfold Nx.renamed
    rw [h1]
    exact Nx.moved_back hS hm hp hn
  · unfold Nx.renamed
    rw [hz]
def pathZ : List UInt8 := [47, 122, 122]
def entZ : Nx.Ent := ⟨pathZ, 3, [77]⟩
end Go.Proofs.YtejhnfeligifgaaDoor
