package table

import (
	"slices"

	"clusterkernel/api"
)

// copied returns o with memory of its own for all lists: also those that its kind does not use, as they are not looked at.
func copied(o api.Object) api.Object {
	o.Process = copiedProcess(o.Process)
	o.Words = slices.Clone(o.Words)
	o.Data = slices.Clone(o.Data)
	o.Backlog = slices.Clone(o.Backlog)
	for i, queue := range o.Queues {
		o.Queues[i] = slices.Clone(queue)
	}
	o.Names = slices.Clone(o.Names)
	for i, n := range o.Names {
		o.Names[i].IDs = slices.Clone(n.IDs)
	}
	return o
}

func copiedProcess(p api.Process) api.Process {
	p.Children = slices.Clone(p.Children)
	p.Program.Code = slices.Clone(p.Program.Code)
	p.Program.Strings = slices.Clone(p.Program.Strings)
	p.Pages = slices.Clone(p.Pages)
	p.Table = slices.Clone(p.Table)
	return p
}
