package ident

import "clusterkernel/api"

// New returns the allocator of a node since a boot, which has given nothing.
func New(node, boot int) (api.Allocator, api.Errno) {
	if !isOrigin(int64(node), int64(boot)) {
		return api.Allocator{}, api.ErrRange
	}
	return api.Allocator{Node: node, Boot: boot}, api.OK
}

// Next returns the next n identifiers of a, and the allocator after them.
func Next(a api.Allocator, n int) ([]uint64, api.Allocator, api.Errno) {
	if e := checkNext(a, n); e != api.OK {
		return nil, api.Allocator{}, e
	}
	var ids []uint64
	for range n {
		a.Serial++
		id, _ := Make(a.Node, a.Boot, a.Serial) // its numbers were checked
		ids = append(ids, id)
	}
	return ids, a, api.OK
}

func checkNext(a api.Allocator, n int) api.Errno {
	switch {
	case !isOrigin(int64(a.Node), int64(a.Boot)) || !isWithin(a.Serial, 0, api.MaxSerial):
		return api.ErrInvalid
	case !isWithin(int64(n), 0, api.MaxFresh):
		return api.ErrRange
	case int64(n) > api.MaxSerial-a.Serial:
		return api.ErrLimit
	default:
		return api.OK
	}
}
