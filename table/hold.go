package table

import "clusterkernel/api"

// maxCount is how many times an object can count a slot of one kind.
const maxCount = 1 << 30

// Holder returns the identifier of the object that counts s, 0 if there is none.
func Holder(s api.Slot) uint64 {
	id, _ := holder(s)
	return id
}

// Hold returns the holder o of s with s counted once more.
func Hold(o api.Object, s api.Slot) (api.Object, api.Errno) {
	if e := checkHolder(o, s); e != api.OK {
		return api.Object{}, e
	}
	if *count(&o, s) >= maxCount {
		return api.Object{}, api.ErrLimit
	}
	held := copied(o)
	*count(&held, s)++
	return held, api.OK
}

// Drop returns the holder o of s with s counted once less, and whether nothing refers to it any more.
func Drop(o api.Object, s api.Slot) (api.Object, bool, api.Errno) {
	if e := checkHolder(o, s); e != api.OK {
		return api.Object{}, false, e
	}
	if *count(&o, s) < 1 {
		return api.Object{}, false, api.ErrState
	}
	dropped := copied(o)
	*count(&dropped, s)--
	return dropped, isUnused(dropped), api.OK
}

func checkHolder(o api.Object, s api.Slot) api.Errno {
	if !isSlot(s) {
		return api.ErrInvalid
	}
	id, kind := holder(s)
	if id == 0 || o.ID != id || o.Kind != kind {
		return api.ErrMismatch
	}
	return api.OK
}

// count is where the holder o of s counts it.
func count(o *api.Object, s api.Slot) *int {
	switch s.Kind {
	case api.SlotReader:
		return &o.Readers
	case api.SlotWriter:
		return &o.Writers
	case api.SlotChannel:
		return &o.Ends[s.End]
	}
	return &o.Refs
}

// isUnused tells whether nothing refers to a holder. A port is never unused, as its name still refers to it.
func isUnused(o api.Object) bool {
	switch o.Kind {
	case api.KindDescription:
		return o.Refs == 0
	case api.KindPipe:
		return o.Readers == 0 && o.Writers == 0
	case api.KindChannel:
		return o.Ends == [2]int{}
	}
	return false
}
