package alarm

import (
	"slices"

	"clusterkernel/api"
)

// copied returns p with memory of its own for all lists.
func copied(p api.Process) api.Process {
	p.Children = slices.Clone(p.Children)
	p.Program.Code = slices.Clone(p.Program.Code)
	p.Program.Strings = slices.Clone(p.Program.Strings)
	p.Pages = slices.Clone(p.Pages)
	p.Table = slices.Clone(p.Table)
	return p
}
