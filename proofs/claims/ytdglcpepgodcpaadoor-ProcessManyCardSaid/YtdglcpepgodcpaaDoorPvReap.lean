/- Layer 16, package process: Reap: a contract over plain values. (Written by tools/mkpvfork.py.) -/
import Derived.Test.YtdglcpepgodcpaaDoorPvWord
import Derived.Test.YtdglcpepgodcpaaDoorPvIdx
import Derived.Test.YtdglcpepgodcpaaDoorRegionD
namespace Go.Proofs.YtdglcpepgodcpaaDoor
open Go.RowKit

theorem kids_of {o c : Ob} {k : Ko} {s : Sl} {L : List Int} (hp : k.Proc) (he : Ko.of o k.cont = k) : Ko.of (({ o.reproc c with children := s } : Ob).obj o.id) ({ k.cont with children := L } : Cont).only = { k with children := L } := by
  have h1 : Ko.of (({ o.reproc c with children := s } : Ob).obj o.id) ({ k.cont with children := L } : Cont).only = { (Ko.of o k.cont).onlyp with children := L } := rfl
  rw [h1, he, hp.only]
end Go.Proofs.YtdglcpepgodcpaaDoor
