package store

import (
	"bytes"
	"slices"

	"clusterkernel/api"
	"clusterkernel/code"
)

// SameObject tells whether a and b are equal in all fields.
func SameObject(a, b api.Object) bool {
	return sameNumbers(a, b) && sameLists(a, b) && sameProcess(a.Process, b.Process)
}

// Same tells whether a and b have equal objects in the same order.
func Same(a, b api.Store) bool {
	return slices.EqualFunc(a.Objects, b.Objects, SameObject)
}

func sameNumbers(a, b api.Object) bool {
	return a.ID == b.ID && a.Kind == b.Kind && a.Refs == b.Refs && a.Offset == b.Offset && a.Target == b.Target &&
		a.Readers == b.Readers && a.Writers == b.Writers && a.Ends == b.Ends && a.Count == b.Count
}

func sameLists(a, b api.Object) bool {
	return slices.Equal(a.Words, b.Words) && bytes.Equal(a.Data, b.Data) && slices.Equal(a.Backlog, b.Backlog) &&
		bytes.Equal(a.Queues[0], b.Queues[0]) && bytes.Equal(a.Queues[1], b.Queues[1]) &&
		slices.EqualFunc(a.Names, b.Names, sameName)
}

func sameName(a, b api.Name) bool {
	return a.Path == b.Path && a.Kind == b.Kind && slices.Equal(a.IDs, b.IDs)
}

func sameProcess(a, b api.Process) bool {
	return a.State == b.State && a.Parent == b.Parent && slices.Equal(a.Children, b.Children) &&
		code.Same(a.Program, b.Program) && a.CPU == b.CPU && slices.Equal(a.Pages, b.Pages) && slices.Equal(a.Table, b.Table) &&
		a.Pending == b.Pending && a.Alarm == b.Alarm && a.Status == b.Status
}
