package device

import "clusterkernel/api"

// hasNoLists tells whether all lists of o are empty, whether they are nil or not.
func hasNoLists(o api.Object) bool {
	return len(o.Words) == 0 && len(o.Data) == 0 && len(o.Backlog) == 0 && len(o.Names) == 0 &&
		len(o.Queues[0]) == 0 && len(o.Queues[1]) == 0 && hasNoProcessLists(o.Process)
}

func hasNoProcessLists(p api.Process) bool {
	return len(p.Children) == 0 && len(p.Program.Code) == 0 && len(p.Program.Strings) == 0 &&
		len(p.Pages) == 0 && len(p.Table) == 0
}

// numbers is an object without its lists, as those cannot be compared with ==.
type numbers struct {
	id               uint64
	kind             int
	refs             int
	process          processNumbers
	offset           int
	target           uint64
	readers, writers int
	ends             [2]int
	count            int64
}

type processNumbers struct {
	state          int
	parent         uint64
	pages          int // of the program
	cpu            api.CPU
	pending, alarm int64
	status         int64
}

func withoutLists(o api.Object) numbers {
	return numbers{
		id:      o.ID,
		kind:    o.Kind,
		refs:    o.Refs,
		process: processWithoutLists(o.Process),
		offset:  o.Offset,
		target:  o.Target,
		readers: o.Readers,
		writers: o.Writers,
		ends:    o.Ends,
		count:   o.Count,
	}
}

func processWithoutLists(p api.Process) processNumbers {
	return processNumbers{
		state:   p.State,
		parent:  p.Parent,
		pages:   p.Program.Pages,
		cpu:     p.CPU,
		pending: p.Pending,
		alarm:   p.Alarm,
		status:  p.Status,
	}
}
