/- Layer 12: which objects are ports and channels; what calling, accepting, reading and writing answer. Plain mathematics. -/
import Derived.Test.YteaippnffmhhnaaObMem
namespace Go.Proofs.Yteaippnffmhhnaa
open Go.RowKit

/-- No number, no list that a channel does not use. -/
def Ob.ChNumbers (o : Ob) : Prop := o.refs = 0 ∧ o.offset = 0 ∧ o.target = 0 ∧ o.readers = 0 ∧ o.writers = 0 ∧ o.count = 0
def Ob.ChLists (o : Ob) : Prop := o.words.n = 0 ∧ o.data.n = 0 ∧ o.backlog.n = 0 ∧ o.names.n = 0
def Ob.ChOthers (o : Ob) : Prop := o.ChNumbers ∧ o.ChLists ∧ o.NoProc
/-- How often each end is open. -/
def Ob.ChEnds (o : Ob) : Prop := 0 ≤ o.e0 ∧ o.e0 ≤ 1073741824 ∧ 0 ≤ o.e1 ∧ o.e1 ≤ 1073741824 ∧ (o.e0 ≠ 0 ∨ o.e1 ≠ 0)
/-- A channel. -/
def Ob.Chan (o : Ob) : Prop := o.kind = 7 ∧ o.id ≠ 0 ∧ o.ChEnds ∧ o.q0.n ≤ 64 ∧ o.q1.n ≤ 64 ∧ o.ChOthers
def Ob.unchan (o : Ob) : Ob := { o with e0 := 0, e1 := 0, q0 := ⟨none, 0, 0⟩, q1 := ⟨none, 0, 0⟩ }
/-- No number, no list that a port does not use. -/
def Ob.PoNumbers (o : Ob) : Prop := o.offset = 0 ∧ o.target = 0 ∧ o.readers = 0 ∧ o.writers = 0 ∧ [o.e0, o.e1] = [0, 0] ∧ o.count = 0
def Ob.PoLists (o : Ob) : Prop := o.words.n = 0 ∧ o.data.n = 0 ∧ o.q0.n = 0 ∧ o.q1.n = 0 ∧ o.names.n = 0
def Ob.PoOthers (o : Ob) : Prop := o.PoNumbers ∧ o.PoLists ∧ o.NoProc
/-- A port whose backlog is I. -/
def Ob.Port (o : Ob) (I : List Int) : Prop := o.kind = 6 ∧ o.id ≠ 0 ∧ (0 ≤ o.refs ∧ o.refs ≤ 1073741824) ∧ o.backlog.n ≤ 8 ∧ ((∀ x ∈ I, x ≠ 0) ∧ I.Nodup) ∧ o.PoOthers
def Ob.unport (o : Ob) : Ob := { o with refs := 0, backlog := ⟨none, 0, 0⟩ }
instance (o : Ob) : Decidable o.ChNumbers := by unfold Ob.ChNumbers; infer_instance
instance (o : Ob) : Decidable o.ChLists := by unfold Ob.ChLists; infer_instance
instance (o : Ob) : Decidable o.ChOthers := by unfold Ob.ChOthers; infer_instance
instance (o : Ob) : Decidable o.ChEnds := by unfold Ob.ChEnds; infer_instance
instance (o : Ob) : Decidable o.Chan := by unfold Ob.Chan; infer_instance
instance (o : Ob) : Decidable o.PoNumbers := by unfold Ob.PoNumbers; infer_instance
instance (o : Ob) : Decidable o.PoLists := by unfold Ob.PoLists; infer_instance
instance (o : Ob) : Decidable o.PoOthers := by unfold Ob.PoOthers; infer_instance
instance (o : Ob) (I : List Int) : Decidable (o.Port I) := by unfold Ob.Port; infer_instance
theorem unchan_clear (o : Ob) : o.unchan.Clear ↔ o.ChOthers := by
  constructor
  · rintro ⟨hw, ⟨h1, h2, h3, h4, h5, _, h7⟩, ⟨c1, c2, c3, _, _⟩, hp⟩
    exact ⟨⟨h1, h2, h3, h4, h5, h7⟩, ⟨hw, c1, c2, c3⟩, hp⟩
  · rintro ⟨⟨h1, h2, h3, h4, h5, h7⟩, ⟨hw, c1, c2, c3⟩, hp⟩
    exact ⟨hw, ⟨h1, h2, h3, h4, h5, rfl, h7⟩, ⟨c1, c2, c3, rfl, rfl⟩, hp⟩
theorem unport_clear (o : Ob) : o.unport.Clear ↔ o.PoOthers := by
  constructor
  · rintro ⟨hw, ⟨_, h2, h3, h4, h5, h6, h7⟩, ⟨c1, _, c3, c4, c5⟩, hp⟩
    exact ⟨⟨h2, h3, h4, h5, h6, h7⟩, ⟨hw, c1, c4, c5, c3⟩, hp⟩
  · rintro ⟨⟨h2, h3, h4, h5, h6, h7⟩, ⟨hw, c1, c4, c5, c3⟩, hp⟩
    exact ⟨hw, ⟨rfl, h2, h3, h4, h5, h6, h7⟩, ⟨c1, rfl, c3, c4, c5⟩, hp⟩
/-- The channel id with these ends and bytes; the port id with this backlog. -/
def Ob.chan (id a b : Int) (s t : Sl) : Ob := { Ob.zero with id := id, kind := 7, e0 := a, e1 := b, q0 := s, q1 := t }
def Ob.port (id r : Int) (s : Sl) : Ob := { Ob.zero with id := id, kind := 6, refs := r, backlog := s }
theorem chan_others (id a b : Int) (s t : Sl) : (Ob.chan id a b s t).ChOthers := by
  have h : Ob.zero.ChOthers := by decide
  exact h
theorem port_others (id r : Int) (s : Sl) : (Ob.port id r s).PoOthers := by
  have h : Ob.zero.PoOthers := by decide
  exact h
theorem chan_chan {id a b : Int} {s t : Sl} (hid : id ≠ 0) (he : 0 ≤ a ∧ a ≤ 1073741824 ∧ 0 ≤ b ∧ b ≤ 1073741824 ∧ (a ≠ 0 ∨ b ≠ 0)) (hs : s.n ≤ 64) (ht : t.n ≤ 64) : (Ob.chan id a b s t).Chan := ⟨rfl, hid, he, hs, ht, chan_others _ _ _ _ _⟩
theorem port_port {id r : Int} {s : Sl} {I : List Int} (hid : id ≠ 0) (hr : 0 ≤ r ∧ r ≤ 1073741824) (hn : s.n ≤ 8) (hI : (∀ x ∈ I, x ≠ 0) ∧ I.Nodup) : (Ob.port id r s).Port I := ⟨rfl, hid, hr, hn, hI, port_others _ _ _⟩
/-- The queue and the end by number. -/
def Ob.qAt (o : Ob) (k : Int) : Sl := if k = 0 then o.q0 else o.q1
def Ob.eAt (o : Ob) (k : Int) : Int := if k = 0 then o.e0 else o.e1
/-- The channel can be used at this end. -/
def Ob.ChOk (o : Ob) (k : Int) : Prop := o.Chan ∧ (k = 0 ∨ k = 1)
instance (o : Ob) (k : Int) : Decidable (o.ChOk k) := by unfold Ob.ChOk; infer_instance
/-- The error of reading at an end, of writing there. -/
def Ob.chRd (o : Ob) (k : Int) : Int := if o.ChOk k then (if (o.qAt (1 - k)).n = 0 ∧ 0 < o.eAt (1 - k) then 12 else 0) else 1
def Ob.chWr (o : Ob) (k : Int) : Int := if o.ChOk k then (if o.eAt (1 - k) = 0 then 13 else if 64 ≤ (o.qAt k).n then 12 else 0) else 1
/-- The error of calling, of accepting. -/
def Ob.callErr (o : Ob) (I : List Int) (c : Int) : Int := if o.Port I ∧ c ≠ 0 ∧ c ∉ I then (if o.refs = 0 then 13 else if 8 ≤ o.backlog.n then 9 else 0) else 1
def Ob.accErr (o : Ob) (I : List Int) : Int := if o.Port I then (if o.backlog.n = 0 then 12 else 0) else 1
theorem Ob.chRd_0 {o : Ob} {k : Int} (h : o.chRd k = 0) : o.Chan ∧ (k = 0 ∨ k = 1) ∧ ((o.qAt (1 - k)).n ≠ 0 ∨ o.eAt (1 - k) ≤ 0) := by
  unfold Ob.chRd at h
  split at h
  · rename_i hp
    split at h
    · omega
    · exact ⟨hp.1, hp.2, by omega⟩
  · omega
theorem Ob.chWr_0 {o : Ob} {k : Int} (h : o.chWr k = 0) : o.Chan ∧ (k = 0 ∨ k = 1) ∧ o.eAt (1 - k) ≠ 0 ∧ (o.qAt k).n < 64 := by
  unfold Ob.chWr at h
  split at h
  · rename_i hp
    split at h
    · omega
    · split at h
      · omega
      · exact ⟨hp.1, hp.2, by assumption, by omega⟩
  · omega
theorem Ob.callErr_0 {o : Ob} {I : List Int} {c : Int} (h : o.callErr I c = 0) : o.Port I ∧ c ≠ 0 ∧ c ∉ I ∧ o.refs ≠ 0 ∧ o.backlog.n < 8 := by
  unfold Ob.callErr at h
  split at h
  · rename_i hp
    split at h
    · omega
    · split at h
      · omega
      · exact ⟨hp.1, hp.2.1, hp.2.2, by assumption, by omega⟩
  · omega
theorem Ob.accErr_0 {o : Ob} {I : List Int} (h : o.accErr I = 0) : o.Port I ∧ o.backlog.n ≠ 0 := by
  unfold Ob.accErr at h
  split at h
  · rename_i hp
    split at h
    · omega
    · exact ⟨hp, by assumption⟩
  · omega
end Go.Proofs.Yteaippnffmhhnaa
