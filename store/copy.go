package store

import (
	"slices"

	"clusterkernel/api"
)

// copied returns o with memory of its own for all lists.
func copied(o api.Object) api.Object {
	o.Process = copiedProcess(o.Process)
	o.Words = slices.Clone(o.Words)
	o.Data = slices.Clone(o.Data)
	o.Backlog = slices.Clone(o.Backlog)
	for end, queue := range o.Queues {
		o.Queues[end] = slices.Clone(queue)
	}
	o.Names = copiedNames(o.Names)
	return o
}

func copiedProcess(p api.Process) api.Process {
	p.Children = slices.Clone(p.Children)
	p.Program.Code = slices.Clone(p.Program.Code)
	p.Program.Strings = slices.Clone(p.Program.Strings)
	p.Pages = slices.Clone(p.Pages)
	p.Table = slices.Clone(p.Table)
	return p
}

func copiedNames(l []api.Name) []api.Name {
	l = slices.Clone(l)
	for i, n := range l {
		l[i].IDs = slices.Clone(n.IDs)
	}
	return l
}
