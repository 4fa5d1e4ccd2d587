package file

import (
	"math"
	"reflect"
	"testing"

	"clusterkernel/api"
)

// description is one of which no number is that of a new one.
func description() api.Object {
	return api.Object{ID: 8, Kind: api.KindDescription, Refs: 3, Offset: 12, Target: 5}
}

func expectOpened(t *testing.T, id, file uint64) {
	t.Helper()
	want := api.Object{ID: id, Kind: api.KindDescription, Refs: 1, Target: file}
	if o := Opened(id, file); !reflect.DeepEqual(o, want) {
		t.Errorf("Opened(%d, %d) = %v, want %v", id, file, o, want)
	}
}

func expectValidOpen(t *testing.T, o api.Object) {
	t.Helper()
	if !ValidOpen(o) {
		t.Errorf("ValidOpen(%v) = false", o)
	}
	expectInvalid(t, o)
}

func expectInvalidOpen(t *testing.T, o api.Object) {
	t.Helper()
	if ValidOpen(o) {
		t.Errorf("ValidOpen(%v) = true", o)
	}
}

func TestP8_3Opened(t *testing.T) {
	for _, id := range identifiers() {
		for _, file := range identifiers() {
			expectOpened(t, id, file)
			expectValidOpen(t, Opened(id, file))
		}
	}
}

func TestP8_3OpenedWithoutIdentifier(t *testing.T) {
	expectOpened(t, 0, 5)
	expectOpened(t, 8, 0)
	expectOpened(t, 0, 0)
	expectInvalidOpen(t, Opened(0, 5))
	expectInvalidOpen(t, Opened(8, 0))
	expectInvalidOpen(t, Opened(0, 0))
}

func TestP8_3ValidIdentifiers(t *testing.T) {
	for _, id := range identifiers() {
		o := description()
		o.ID = id
		expectValidOpen(t, o)
		o = description()
		o.Target = id
		expectValidOpen(t, o)
	}
	o := description()
	o.ID = 0
	expectInvalidOpen(t, o)
	o = description()
	o.Target = 0
	expectInvalidOpen(t, o)
}

func TestP8_3Refs(t *testing.T) {
	o := description()
	for _, refs := range []int{1, 2, 16, 255, 256, 1 << 30, 1<<30 + 1, 1 << 32, 1 << 40, math.MaxInt64} {
		o.Refs = refs
		expectValidOpen(t, o)
	}
	for _, refs := range []int{0, -1, -2, -256, -1 << 31, -1 << 32, -1<<32 + 1, math.MinInt64, math.MinInt64 + 1} {
		o.Refs = refs
		expectInvalidOpen(t, o)
	}
}

func TestP8_3Offset(t *testing.T) {
	o := description()
	for _, offset := range []int{0, 1, 2, 4095, 4096, 4097, 1 << 16, 1<<30 - 1, 1 << 30} {
		o.Offset = offset
		expectValidOpen(t, o)
	}
	for _, offset := range []int{-1, -2, -4096, -1 << 30, -1 << 32, -1<<32 + 1, math.MinInt64, 1<<30 + 1, 1<<31 - 1, 1 << 31, 1 << 32, 1<<32 + 1, 1 << 62, math.MaxInt64} {
		o.Offset = offset
		expectInvalidOpen(t, o)
	}
}

func TestP8_3InvalidKind(t *testing.T) {
	o := description()
	for kind := -20; kind <= 20; kind++ {
		if kind != api.KindDescription {
			o.Kind = kind
			expectInvalidOpen(t, o)
		}
	}
	for _, kind := range []int{math.MinInt64, -1 << 32, api.KindDescription - 256, api.KindDescription + 256, api.KindDescription + 1<<32, math.MaxInt64} {
		o.Kind = kind
		expectInvalidOpen(t, o)
	}
}

func TestP8_3InvalidOtherFields(t *testing.T) {
	for _, o := range []api.Object{Opened(1, 2), description()} {
		for _, x := range changedElsewhere(o, ".ID", ".Kind", ".Refs", ".Offset", ".Target") {
			expectInvalidOpen(t, x)
		}
	}
}

func TestP8_3InvalidOtherObjects(t *testing.T) {
	expectInvalidOpen(t, api.Object{})
	expectInvalidOpen(t, api.Object{ID: 8, Kind: api.KindDescription})
	expectInvalidOpen(t, New(7))
	expectInvalidOpen(t, filled(20))
}

func TestP8_3EmptyListsAreZero(t *testing.T) {
	expectValidOpen(t, withEmptyLists(description()))
	expectValidOpen(t, withEmptyLists(Opened(8, 5)))
	expectInvalidOpen(t, withEmptyLists(Opened(8, 0)))
}

// TestP8_3ADescriptionIsNotChanged looks at what the lists of a description have beyond their lengths, too.
func TestP8_3ADescriptionIsNotChanged(t *testing.T) {
	o := description()
	o.Data = []byte("abc")[:0]
	ValidOpen(o)
	Valid(o)
	want := description()
	want.Data = []byte{}
	if !reflect.DeepEqual(o, want) || string(o.Data[:3]) != "abc" {
		t.Errorf("the description is %v and %q, want %v", o, o.Data[:3], want)
	}
}
