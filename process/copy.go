package process

import (
	"slices"

	"clusterkernel/api"
)

// copied returns p with memory of its own for all lists.
func copied(p api.Process) api.Process {
	return api.Process{
		State:    p.State,
		Parent:   p.Parent,
		Children: slices.Clone(p.Children),
		Program:  copiedProgram(p.Program),
		CPU:      p.CPU,
		Pages:    slices.Clone(p.Pages),
		Table:    slices.Clone(p.Table),
		Pending:  p.Pending,
		Alarm:    p.Alarm,
		Status:   p.Status,
	}
}

// forked returns what a child of p has from it: not its children, its signals and its alarm, and pages that are the child's own.
func forked(p api.Process, parent uint64, pages []api.PageRef) api.Process {
	return api.Process{
		State:   p.State,
		Parent:  parent,
		Program: copiedProgram(p.Program),
		CPU:     p.CPU,
		Pages:   pages,
		Table:   slices.Clone(p.Table),
	}
}

func copiedProgram(p api.Program) api.Program {
	return api.Program{
		Code:    slices.Clone(p.Code),
		Strings: slices.Clone(p.Strings),
		Pages:   p.Pages,
	}
}
