package store_test

import (
	"math"
	"math/rand/v2"
	"reflect"
	"slices"
	"testing"

	"clusterkernel/api"
	"clusterkernel/store"
)

// expectStore expects these objects with all of their fields, in this order.
func expectStore(t *testing.T, got api.Store, want []api.Object) {
	t.Helper()
	if !reflect.DeepEqual(clone(got), clone(api.Store{Objects: want})) {
		t.Fatalf("the store is %v, want %v", got.Objects, want)
	}
}

func expectGet(t *testing.T, l []api.Object, id uint64) {
	t.Helper()
	want, there := firstOf(l, id)
	o, ok := store.Get(api.Store{Objects: l}, id)
	if ok != there || !reflect.DeepEqual(clone(o), clone(want)) {
		t.Fatalf("Get(%v, %d) = %v, %t, want %v, %t", l, id, o, ok, want, there)
	}
}

func expectPut(t *testing.T, l []api.Object, o api.Object) {
	t.Helper()
	s, e := store.Put(api.Store{Objects: l}, o)
	if e != api.OK {
		t.Fatalf("Put(%v, %v) is the error %d", l, o, e)
	}
	expectStore(t, s, listPut(l, o))
	got, ok := store.Get(s, o.ID)
	if !ok || !reflect.DeepEqual(clone(got), clone(o)) {
		t.Fatalf("after Put(%v, %v) there is %v, %t", l, o, got, ok)
	}
}

func expectPutFails(t *testing.T, l []api.Object, o api.Object) {
	t.Helper()
	s, e := store.Put(api.Store{Objects: l}, o)
	if e != api.ErrInvalid || len(s.Objects) != 0 {
		t.Fatalf("Put(%v, %v) is %v and the error %d, want the error %d alone", l, o, s, e, api.ErrInvalid)
	}
}

func expectRemove(t *testing.T, l []api.Object, id uint64) {
	t.Helper()
	want, there := listRemove(l, id)
	s, ok := store.Remove(api.Store{Objects: l}, id)
	if ok != there {
		t.Fatalf("Remove(%v, %d) = %t", l, id, ok)
	}
	expectStore(t, s, want)
}

// firstOf is what P18.2 says of Get.
func firstOf(l []api.Object, id uint64) (api.Object, bool) {
	for _, o := range l {
		if o.ID == id {
			return o, true
		}
	}
	return api.Object{}, false
}

// listPut is what P18.2 says of Put.
func listPut(l []api.Object, o api.Object) []api.Object {
	_, there := firstOf(l, o.ID)
	var list []api.Object
	done := false
	for _, x := range l {
		switch {
		case !done && there && x.ID == o.ID:
			list = append(list, o)
			done = true
		case !done && !there && x.ID > o.ID:
			list = append(list, o, x)
			done = true
		default:
			list = append(list, x)
		}
	}
	if !done {
		list = append(list, o)
	}
	return list
}

// listRemove is what P18.2 says of Remove.
func listRemove(l []api.Object, id uint64) ([]api.Object, bool) {
	var list []api.Object
	done := false
	for _, x := range l {
		if !done && x.ID == id {
			done = true
		} else {
			list = append(list, x)
		}
	}
	return list, done
}

// numbered are objects with these identifiers, which differ in other parts. Most are not valid.
func numbered(ids ...uint64) []api.Object {
	var list []api.Object
	for i, id := range ids {
		list = append(list, api.Object{ID: id, Kind: i % 12, Refs: i + 1, Words: []int64{int64(i)}, Names: []api.Name{{Path: "/a", IDs: []uint64{uint64(i), 9}}}})
	}
	return list
}

// TestP18_2AllShortLists has all lists of up to five identifiers, also out of order, there twice, and 0.
func TestP18_2AllShortLists(t *testing.T) {
	identifiers := []uint64{0, 2, 3, 1 << 63, 5}
	var lists func(ids []uint64)
	lists = func(ids []uint64) {
		l := numbered(ids...)
		for id := range uint64(7) {
			expectGet(t, l, id)
			expectRemove(t, l, id)
		}
		for _, id := range []uint64{1, 2, 3, 4, 5, 6, 1<<63 - 1, 1 << 63, 1<<63 + 1, math.MaxUint64} {
			expectPut(t, l, api.Object{ID: id, Kind: 20, Count: 7, Backlog: []uint64{8, 8}})
		}
		expectPutFails(t, l, api.Object{Kind: 20})
		if len(ids) < 4 {
			for _, id := range identifiers {
				lists(append(ids[:len(ids):len(ids)], id))
			}
		}
	}
	lists(nil)
}

func TestP18_2Get(t *testing.T) {
	list := ascending()
	list = slices.Concat(list[:20], list[len(list)-20:])
	for _, o := range list {
		for _, id := range []uint64{o.ID - 1, o.ID, o.ID + 1, o.ID ^ 1<<32, o.ID ^ 1<<63} {
			expectGet(t, list, id)
			expectRemove(t, list, id)
		}
	}
	expectGet(t, nil, 0)
	expectGet(t, nil, 7)
	expectGet(t, []api.Object{{}}, 0)
	expectGet(t, []api.Object{{Kind: 3, Count: 4}, {Kind: 5}}, 0)
}

// TestP18_2AllFields has objects of which no field is zero: all of them are kept.
func TestP18_2AllFields(t *testing.T) {
	for n := range uint64(5) {
		var list []api.Object
		for id := range n {
			list = append(list, full(2*id+2))
		}
		for id := range 2*n + 3 {
			expectGet(t, list, id)
			expectRemove(t, list, id)
			o := full(id)
			o.Refs, o.Data = 3, nil
			if id == 0 {
				expectPutFails(t, list, o)
			} else {
				expectPut(t, list, o)
			}
		}
	}
	for _, x := range changes(full(7)) {
		expectGet(t, []api.Object{full(6), x.object, full(8)}, 7)
		if x.object.ID != 0 {
			expectPut(t, []api.Object{full(6), full(7), full(8)}, x.object)
		}
	}
}

func TestP18_2Put(t *testing.T) {
	list := ascending()
	for _, o := range append(valid(), invalid()...) {
		if o.ID == 0 {
			expectPutFails(t, nil, o)
			expectPutFails(t, list[:3], o)
		} else {
			expectPut(t, nil, o)
			expectPut(t, list[:3], o)
			expectPut(t, []api.Object{o, o}, deviceWith(o.ID))
		}
	}
}

// TestP18_2PutWithout0 has an object with the identifier 0 in the store: it is not replaced.
func TestP18_2PutWithout0(t *testing.T) {
	for _, l := range [][]api.Object{nil, {{}}, {{Kind: 4}, {ID: 2}}, {{ID: 2}, {}}, {{ID: 2}}} {
		expectPutFails(t, l, api.Object{})
		expectPutFails(t, l, api.Object{Kind: api.KindDevice})
		expectPutFails(t, l, full(0))
	}
}

func TestP18_2Remove(t *testing.T) {
	for _, o := range append(valid(), invalid()...) {
		expectRemove(t, []api.Object{o}, o.ID)
		expectRemove(t, []api.Object{o, o}, o.ID)
		expectRemove(t, []api.Object{deviceWith(3), o, deviceWith(4), o}, o.ID)
		expectRemove(t, []api.Object{o}, o.ID+1)
	}
	expectRemove(t, nil, 0)
	expectRemove(t, nil, 7)
}

// TestConsequenceGetAfterPut puts and removes objects, and compares the store with a map each time: a store of valid objects is valid.
func TestConsequenceGetAfterPut(t *testing.T) {
	for seed := range uint64(10) {
		g := generator{rand.New(rand.NewPCG(seed, 18))}
		var s api.Store
		there := map[uint64]api.Object{}
		for range 150 {
			o := g.object(1 + g.IntN(api.KindDevice))
			o.ID = uint64(g.IntN(25) + 1)
			if _, ok := there[o.ID]; ok && g.IntN(2) == 0 {
				s, _ = store.Remove(s, o.ID)
				delete(there, o.ID)
			} else if isValid(o) {
				s, _ = store.Put(s, o)
				there[o.ID] = o
			}
			expectAll(t, s, there)
		}
	}
}

func expectAll(t *testing.T, s api.Store, want map[uint64]api.Object) {
	t.Helper()
	if !store.Valid(s) || len(s.Objects) != len(want) {
		t.Fatalf("the store is %v, want %v", s, want)
	}
	for id := range uint64(27) {
		o, ok := store.Get(s, id)
		if x, there := want[id]; ok != there || !reflect.DeepEqual(clone(o), clone(x)) {
			t.Fatalf("the object %d is %v, %t, want %v", id, o, ok, x)
		}
	}
}
