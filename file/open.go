package file

import "clusterkernel/api"

const maxOffset = 1 << 30

// Opened returns the description id of an open file, to which one slot refers.
func Opened(id, file uint64) api.Object {
	return api.Object{ID: id, Kind: api.KindDescription, Refs: 1, Target: file}
}

// ValidOpen tells whether o is a description, and nothing more.
func ValidOpen(o api.Object) bool {
	rest := o
	rest.Refs, rest.Offset, rest.Target = 0, 0, 0
	return o.Kind == api.KindDescription && o.ID != 0 && o.Target != 0 && o.Refs >= 1 &&
		o.Offset >= 0 && o.Offset <= maxOffset && isBare(rest)
}
