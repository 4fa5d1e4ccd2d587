package channel

import (
	"slices"

	"clusterkernel/api"
)

// NewPort returns the port id, to which one slot refers, and at which nothing has called.
func NewPort(id uint64) api.Object {
	return api.Object{ID: id, Kind: api.KindPort, Refs: 1}
}

// ValidPort tells whether o is a port, and nothing more.
func ValidPort(o api.Object) bool {
	rest := o
	rest.Refs, rest.Backlog = 0, nil
	return o.Kind == api.KindPort && o.ID != 0 && isCount(o.Refs) && isBacklog(o.Backlog) && isBare(rest)
}

// Call returns o with channel as the last one that waits to be accepted.
func Call(o api.Object, channel uint64) (api.Object, api.Errno) {
	if !ValidPort(o) || channel == 0 || slices.Contains(o.Backlog, channel) {
		return api.Object{}, api.ErrInvalid
	}
	if o.Refs == 0 {
		return api.Object{}, api.ErrClosed
	}
	if len(o.Backlog) >= api.MaxBacklog {
		return api.Object{}, api.ErrFull
	}
	return withBacklog(o, slices.Concat(o.Backlog, []uint64{channel})), api.OK
}

// Accept returns the channel that has waited for the longest time, and o without it.
func Accept(o api.Object) (uint64, api.Object, api.Errno) {
	if !ValidPort(o) {
		return 0, api.Object{}, api.ErrInvalid
	}
	if len(o.Backlog) == 0 {
		return 0, api.Object{}, api.ErrWait
	}
	return o.Backlog[0], withBacklog(o, append([]uint64(nil), o.Backlog[1:]...)), api.OK
}

func isBacklog(backlog []uint64) bool {
	if len(backlog) > api.MaxBacklog {
		return false
	}
	for i, id := range backlog {
		if id == 0 || slices.Contains(backlog[:i], id) {
			return false
		}
	}
	return true
}

// withBacklog makes a new port rather than changing o, whose empty lists may have memory too.
func withBacklog(o api.Object, backlog []uint64) api.Object {
	return api.Object{ID: o.ID, Kind: api.KindPort, Refs: o.Refs, Backlog: backlog}
}
