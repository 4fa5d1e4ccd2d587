/- Layer 16, package process: Fork: a contract over plain values. (Written by tools/mkpvfork.py.) -/
import Derived.Test.YtdglcpepgodcpaaDoorPvWord
namespace Go.Proofs.YtdglcpepgodcpaaDoor
open Go.RowKit

theorem kFork_err {k : Ko} {id x : Int} {ids : List Int} (h : kForkErr k id ids = x) (hx : x ≠ 0) : kFork k id ids = (Ko.zero, Ko.zero, x) := by unfold kFork; rw [if_neg (by rw [h]; exact hx), h]
theorem kFork_ok {k : Ko} {id : Int} {ids : List Int} (h : kForkErr k id ids = 0) : kFork k id ids = (k.parentOf id, k.childOf id ids, 0) := if_pos h
theorem kForkChk_proc {k : Ko} {id : Int} (h : kForkChk k id = 0) : k.Proc := by
  by_cases hp : k.Proc
  · exact hp
  · unfold kForkChk at h; rw [if_pos hp] at h; cases h
theorem parent_of {o c : Ob} {k : Ko} {s : Sl} {id : Int} (hp : k.Proc) (he : Ko.of o k.cont = k) : Ko.of (({ o.reproc c with children := s } : Ob).obj o.id) ({ k.cont with children := k.children ++ [id] } : Cont).only = k.parentOf id := by
  have h1 : Ko.of (({ o.reproc c with children := s } : Ob).obj o.id) ({ k.cont with children := k.children ++ [id] } : Cont).only = { (Ko.of o k.cont).onlyp with children := k.children ++ [id] } := rfl
  rw [h1, he, hp.only]
  rfl
theorem child_of {o c : Ob} {k : Ko} {P : Sl} {id x : Int} {ids : List Int} {L : List Sp.Ref} (he : Ko.of o k.cont = k) (hr : Sp.replace k.pages ids = (L, x)) : Ko.of ((o.childOf c o.id P).obj id) ({ Cont.none with code := k.code, strs := k.strs, pages := L, table := k.table } : Cont).only = k.childOf id ids := by
  have h1 : Ko.of ((o.childOf c o.id P).obj id) ({ Cont.none with code := k.code, strs := k.strs, pages := L, table := k.table } : Cont).only = { Ko.zero with id := id, kind := 1, state := (Ko.of o k.cont).state, parent := (Ko.of o k.cont).id, code := k.code, strs := k.strs, ppages := (Ko.of o k.cont).ppages, cpu := (Ko.of o k.cont).cpu, pages := L, table := k.table } := rfl
  rw [h1, he]
  unfold Ko.childOf
  rw [hr]
end Go.Proofs.YtdglcpepgodcpaaDoor
