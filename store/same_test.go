package store_test

import (
	"reflect"
	"slices"
	"testing"

	"clusterkernel/api"
	"clusterkernel/store"
)

// expectSame compares a and b in both orders, alone and in stores.
func expectSame(t *testing.T, a, b api.Object, want bool) {
	t.Helper()
	if store.SameObject(a, b) != want || store.SameObject(b, a) != want {
		t.Fatalf("SameObject(%v, %v) = %t", a, b, !want)
	}
	for _, other := range []api.Object{{}, deviceWith(7)} {
		expectSameStores(t, []api.Object{a}, []api.Object{b}, want)
		expectSameStores(t, []api.Object{a, other}, []api.Object{b, other}, want)
		expectSameStores(t, []api.Object{other, a}, []api.Object{other, b}, want)
		expectSameStores(t, []api.Object{other, a, other}, []api.Object{other, b, other}, want)
	}
}

func expectSameStores(t *testing.T, a, b []api.Object, want bool) {
	t.Helper()
	x, y := api.Store{Objects: a}, api.Store{Objects: b}
	if store.Same(x, y) != want || store.Same(y, x) != want {
		t.Fatalf("Same(%v, %v) = %t", a, b, !want)
	}
}

func TestP18_3EqualObjects(t *testing.T) {
	for _, o := range slices.Concat(valid(), invalid(), []api.Object{{}, full(0), full(7)}) {
		expectSame(t, o, o, true)
		expectSame(t, o, clone(o), true)
	}
}

// TestP18_3EveryPart has objects that differ in a single part, for each part.
func TestP18_3EveryPart(t *testing.T) {
	for _, o := range append(ordinary(), full(7), api.Object{}) {
		for _, x := range changes(o) {
			expectSame(t, o, x.object, false)
		}
	}
}

// TestP18_3TwoParts has objects that differ in any two parts: one difference does not make up for the other.
func TestP18_3TwoParts(t *testing.T) {
	o := full(7)
	for i := range partsOf(o) {
		x := clone(o)
		first := part(&x, i)
		first.Set(otherValues(first)[0])
		eachPart(reflect.ValueOf(&x).Elem(), "", func(path string, second reflect.Value) {
			before := reflect.ValueOf(second.Interface())
			second.Set(otherValues(second)[0])
			if want := reflect.DeepEqual(x, o); store.SameObject(o, x) != want || store.SameObject(x, o) != want {
				t.Fatalf("SameObject(%v, %v) = %t", o, x, !want)
			}
			second.Set(before)
		})
	}
}

// TestP18_3NilAndEmpty has nil for the empty lists of one object, and lists with memory for those of the other one.
func TestP18_3NilAndEmpty(t *testing.T) {
	for _, o := range append(valid(), api.Object{}, full(7), api.Object{Names: make([]api.Name, 2)}) {
		expectSame(t, clone(o), withRoom(o), true)
		expectSame(t, withRoom(o), withRoom(o), true)
	}
	expectSameStores(t, nil, []api.Object{}, true)
	expectSameStores(t, nil, make([]api.Object, 0, 4), true)
	expectSameStores(t, nil, nil, true)
}

// TestP18_3MemoryIsNotLookedAt has lists that differ beyond their lengths alone, and lists that differ in their lengths alone.
func TestP18_3MemoryIsNotLookedAt(t *testing.T) {
	a, b := []int64{1, 2, 3, 4}, []int64{1, 2, 5, 4}
	expectSame(t, api.Object{ID: 7, Words: a[:2]}, api.Object{ID: 7, Words: b[:2]}, true)
	expectSame(t, api.Object{ID: 7, Words: a[:3]}, api.Object{ID: 7, Words: b[:3]}, false)
	expectSame(t, api.Object{ID: 7, Words: a[:3]}, api.Object{ID: 7, Words: a[:2]}, false)
	expectSame(t, api.Object{ID: 7, Words: a[:0]}, api.Object{ID: 7, Words: b[:1]}, false)
}

func TestP18_3Stores(t *testing.T) {
	list := ascending()
	expectSameStores(t, list, clone(list), true)
	for i := range list {
		expectSameStores(t, list[:i], clone(list)[:i], true)
		expectSameStores(t, list[:i], list, false)
		expectSameStores(t, list[i:], list[i:], true)
		expectSameStores(t, slices.Concat(list[:i], list[i+1:]), list, false)
		expectSameStores(t, slices.Insert(slices.Clone(list), i, api.Object{}), list, false)
		expectSameStores(t, slices.Insert(slices.Clone(list), i, list[i]), list, false)
		changed := slices.Clone(list)
		changed[i].Ends[1]++
		expectSameStores(t, changed, list, false)
	}
}

func TestP18_3OrderOfObjects(t *testing.T) {
	list := ascending()[:8]
	for i := range list {
		for j := range i {
			swapped := slices.Clone(list)
			swapped[i], swapped[j] = swapped[j], swapped[i]
			expectSameStores(t, swapped, list, false)
			expectSameStores(t, swapped, clone(swapped), true)
		}
	}
	expectSameStores(t, []api.Object{full(7), full(7)}, []api.Object{full(7), full(7)}, true)
	expectSameStores(t, []api.Object{full(7), full(7)}, []api.Object{full(7)}, false)
	expectSameStores(t, []api.Object{{}}, nil, false)
}
