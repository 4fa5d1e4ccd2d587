package semaphore

import "clusterkernel/api"

// hasNoOtherFields tells whether the fields that a semaphore does not use are zero. A list is so if it is empty, whether it is nil or not.
func hasNoOtherFields(o api.Object) bool {
	return hasNoOtherNumbers(o) && hasNoLists(o) && isNoProcess(o.Process)
}

func hasNoOtherNumbers(o api.Object) bool {
	return o.Refs == 0 && o.Offset == 0 && o.Target == 0 && o.Readers == 0 && o.Writers == 0 && o.Ends == [2]int{}
}

func hasNoLists(o api.Object) bool {
	return len(o.Words) == 0 && len(o.Data) == 0 && len(o.Backlog) == 0 && len(o.Names) == 0 &&
		len(o.Queues[0]) == 0 && len(o.Queues[1]) == 0
}

func isNoProcess(p api.Process) bool {
	return p.State == 0 && p.Parent == 0 && len(p.Children) == 0 && isNoProgram(p.Program) && p.CPU == api.CPU{} &&
		len(p.Pages) == 0 && len(p.Table) == 0 && p.Pending == 0 && p.Alarm == 0 && p.Status == 0
}

func isNoProgram(p api.Program) bool {
	return len(p.Code) == 0 && len(p.Strings) == 0 && p.Pages == 0
}
