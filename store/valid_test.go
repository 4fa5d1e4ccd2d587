package store_test

import (
	"math"
	"slices"
	"testing"

	"clusterkernel/api"
	"clusterkernel/store"
)

func expectValidObject(t *testing.T, o api.Object, want bool) {
	t.Helper()
	if store.ValidObject(o) != want {
		t.Fatalf("ValidObject(%v) = %t", o, !want)
	}
}

func expectValid(t *testing.T, want bool, l ...api.Object) {
	t.Helper()
	if store.Valid(api.Store{Objects: l}) != want {
		t.Fatalf("Valid of %v = %t", l, !want)
	}
}

func TestP18_1ValidObjects(t *testing.T) {
	for _, o := range valid() {
		expectValidObject(t, o, true)
	}
}

func TestP18_1InvalidObjects(t *testing.T) {
	for _, o := range invalid() {
		expectValidObject(t, o, false)
	}
}

// TestP18_1EveryKind gives every object every kind: only that kind says whether it is valid.
func TestP18_1EveryKind(t *testing.T) {
	for _, o := range valid() {
		for kind := -20; kind <= 20; kind++ {
			o.Kind = kind
			expectValidObject(t, o, isValid(o))
			o.Kind = kind + 1<<32
			expectValidObject(t, o, false)
			o.Kind = kind + 256
			expectValidObject(t, o, false)
		}
	}
}

// TestP18_1ChangedObjects changes a part of every object, so that some are still valid and some are not.
func TestP18_1ChangedObjects(t *testing.T) {
	counts := map[bool]map[int]int{true: {}, false: {}}
	for _, o := range ordinary() {
		for _, x := range changes(o) {
			want := isValid(x.object)
			expectValidObject(t, x.object, want)
			counts[want][o.Kind]++
		}
	}
	for kind := api.KindProcess; kind <= api.KindNames; kind++ {
		if counts[true][kind] < 5 || counts[false][kind] < 50 {
			t.Errorf("of the kind %d only %d objects are valid, and %d are not", kind, counts[true][kind], counts[false][kind])
		}
	}
}

// TestP18_1Limits has objects one beyond what is valid.
func TestP18_1Limits(t *testing.T) {
	for _, change := range []func(o *api.Object){
		func(o *api.Object) {
			o.Names = append(o.Names, api.Name{Path: "/z", Kind: api.KindFile, IDs: []uint64{4}})
		},
		func(o *api.Object) { o.Process.Children = append(o.Process.Children, 6) },
		func(o *api.Object) { o.Process.Program.Code = append(o.Process.Program.Code, api.Instr{}) },
		func(o *api.Object) { o.Process.Program.Strings = append(o.Process.Program.Strings, "") },
		func(o *api.Object) {
			for i := range o.Process.Program.Strings {
				o.Process.Program.Strings[i] += "a"
			}
		},
		func(o *api.Object) { o.Process.Pages = append(o.Process.Pages, api.PageRef{ID: 6}) },
		func(o *api.Object) { o.Process.Table = append(o.Process.Table, api.Slot{Kind: api.SlotSem, Target: 6}) },
		func(o *api.Object) { o.Process.Program.Pages++ },
		func(o *api.Object) { o.Process.Alarm++ },
		func(o *api.Object) { o.Data = append(o.Data, 0) },
		func(o *api.Object) { o.Offset++ },
		func(o *api.Object) { o.Readers++ },
		func(o *api.Object) { o.Writers++ },
		func(o *api.Object) { o.Refs, o.Backlog = o.Refs+1, append(o.Backlog, 6) },
		func(o *api.Object) { o.Ends[0]++ },
		func(o *api.Object) { o.Ends[1]++ },
		func(o *api.Object) { o.Queues[0] = append(o.Queues[0], 0) },
		func(o *api.Object) { o.Queues[1] = append(o.Queues[1], 0) },
	} {
		for _, o := range extreme() {
			change(&o)
			expectValidObject(t, o, isValid(o))
		}
	}
	for _, n := range []int64{-1, 1<<30 + 1, 1 << 32, math.MinInt64, math.MaxInt64} {
		expectValidObject(t, api.Object{ID: 5, Kind: api.KindSemaphore, Count: n}, false)
		expectValidObject(t, api.Object{ID: 5, Kind: api.KindDevice, Count: n}, true)
	}
}

func TestP18_1EmptyListsAreZero(t *testing.T) {
	for _, o := range valid() {
		expectValidObject(t, withRoom(o), true)
	}
	for _, o := range invalid() {
		expectValidObject(t, withRoom(o), false)
	}
}

// ascending are valid objects of all kinds in strictly ascending order of their identifiers.
func ascending() []api.Object {
	list := valid()
	slices.SortStableFunc(list, func(a, b api.Object) int {
		switch {
		case a.ID < b.ID:
			return -1
		case a.ID > b.ID:
			return 1
		}
		return 0
	})
	return slices.CompactFunc(list, func(a, b api.Object) bool { return a.ID == b.ID })
}

func TestP18_1ValidStores(t *testing.T) {
	list := ascending()
	expectValid(t, true)
	expectValid(t, true, []api.Object{}...)
	expectValid(t, true, list...)
	for i, o := range list {
		expectValid(t, true, o)
		expectValid(t, true, list[:i]...)
		expectValid(t, true, list[i:]...)
		expectValid(t, true, slices.Concat(list[:i], list[i+1:])...)
	}
}

func TestP18_1InvalidObjectInStore(t *testing.T) {
	list := ascending()[:12]
	for i, o := range list {
		wrong := []api.Object{o, o, o, o}
		wrong[0].Kind = 0
		wrong[1].Kind = 11
		wrong[2].Refs = -1
		wrong[3].Ends[1] = -1
		for _, x := range wrong {
			expectValid(t, false, x)
			expectValid(t, false, slices.Concat(list[:i], []api.Object{x}, list[i+1:])...)
		}
	}
	for _, o := range invalid() {
		expectValid(t, false, o)
		expectValid(t, false, deviceWith(1), o)
		expectValid(t, false, o, deviceWith(math.MaxUint64))
	}
}

// deviceWith is the device id.
func deviceWith(id uint64) api.Object {
	return api.Object{ID: id, Kind: api.KindDevice}
}

// TestP18_1Order has identifiers that differ in a single bit: they are numbers without a sign.
func TestP18_1Order(t *testing.T) {
	for bit := range 64 {
		for _, id := range []uint64{1, 3, 5, 1<<63 + 1, 1<<62 + 3, math.MaxUint64} {
			less, greater := id&^(1<<bit), id|1<<bit
			if less == 0 || less == greater {
				continue
			}
			expectValid(t, true, deviceWith(less), deviceWith(greater))
			expectValid(t, false, deviceWith(greater), deviceWith(less))
			expectValid(t, false, deviceWith(less), deviceWith(less))
			expectValid(t, false, deviceWith(greater), deviceWith(greater))
		}
	}
}

// TestP18_1OrderAnywhere has two objects out of order, or with the same identifier, anywhere in a store.
func TestP18_1OrderAnywhere(t *testing.T) {
	list := ascending()[:15]
	for i := range list {
		for j := range i {
			swapped := slices.Clone(list)
			swapped[i], swapped[j] = swapped[j], swapped[i]
			expectValid(t, false, swapped...)
		}
		expectValid(t, false, slices.Insert(slices.Clone(list), i, list[i])...)
	}
	var devices []api.Object
	for id := range uint64(20) {
		devices = append(devices, deviceWith(id+1))
	}
	for i := range devices {
		for id := range uint64(len(devices)) + 1 {
			x := slices.Clone(devices)
			x[i].ID = id
			expectValid(t, id == uint64(i)+1, x...)
		}
	}
}
