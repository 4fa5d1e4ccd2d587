package process

import (
	"slices"

	"clusterkernel/api"
	"clusterkernel/code"
	"clusterkernel/signal"
	"clusterkernel/space"
	"clusterkernel/table"
)

// Valid tells whether o is a process, and nothing more.
func Valid(o api.Object) bool {
	return o.Kind == api.KindProcess && o.ID != 0 && hasNoOtherNumbers(o) && hasNoOtherLists(o) &&
		o.Process.Parent != o.ID && areChildren(o.Process.Children, o.ID) && hasParts(o.Process) && fitsState(o.Process)
}

func hasNoOtherNumbers(o api.Object) bool {
	return o.Refs == 0 && o.Offset == 0 && o.Target == 0 && o.Readers == 0 && o.Writers == 0 &&
		o.Ends == [2]int{} && o.Count == 0
}

// hasNoOtherLists takes a list that is empty for zero, whether it is nil or not.
func hasNoOtherLists(o api.Object) bool {
	return len(o.Words) == 0 && len(o.Data) == 0 && len(o.Backlog) == 0 && len(o.Names) == 0 &&
		len(o.Queues[0]) == 0 && len(o.Queues[1]) == 0
}

// areChildren tells whether a process with the identifier parent can have these children.
func areChildren(children []uint64, parent uint64) bool {
	if len(children) > api.MaxChildren {
		return false
	}
	for i, id := range children {
		if !isNewChild(id, parent, children[:i]) {
			return false
		}
	}
	return true
}

// isNewChild tells whether id can be the child of parent after these children.
func isNewChild(id, parent uint64, children []uint64) bool {
	return id != 0 && id != parent && !slices.Contains(children, id)
}

func hasParts(p api.Process) bool {
	_, e := code.Check(p.Program)
	return e == api.OK && space.Valid(p.Pages) && table.Valid(p.Table) && signal.Valid(p.Pending) &&
		p.Alarm >= 0 && p.Alarm <= api.MaxAlarm
}

func fitsState(p api.Process) bool {
	switch p.State {
	case api.Alive:
		return p.Status == 0
	case api.Dying:
		return true
	case api.Zombie:
		return p.Parent != 0 && hasLostAll(p)
	}
	return false
}

// hasLostAll tells whether p has nothing that a process needs in order to go on.
func hasLostAll(p api.Process) bool {
	return len(p.Children) == 0 && code.Same(p.Program, api.Program{}) && p.CPU == api.CPU{} &&
		len(p.Pages) == 0 && len(p.Table) == 0 && p.Pending == 0 && p.Alarm == 0
}
