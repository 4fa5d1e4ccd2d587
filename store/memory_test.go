package store_test

import (
	"reflect"
	"slices"
	"testing"

	"clusterkernel/api"
	"clusterkernel/store"
)

// arguments are what the functions are given.
type arguments struct {
	S, T  api.Store
	O, P  api.Object
	Bytes []byte
	ID    uint64
}

// results are what a function returned.
type results struct {
	S     api.Store
	O     api.Object
	Bytes []byte
	OK    bool
	Code  api.Errno
}

// calls are calls of all functions.
func calls() []func(a arguments) results {
	return []func(a arguments) results{
		func(a arguments) results { return results{OK: store.ValidObject(a.O)} },
		func(a arguments) results { return results{OK: store.Valid(a.S)} },
		func(a arguments) results { o, ok := store.Get(a.S, a.ID); return results{O: o, OK: ok} },
		func(a arguments) results { s, e := store.Put(a.S, a.O); return results{S: s, Code: e} },
		func(a arguments) results { s, ok := store.Remove(a.S, a.ID); return results{S: s, OK: ok} },
		func(a arguments) results { return results{OK: store.SameObject(a.O, a.P)} },
		func(a arguments) results { return results{OK: store.Same(a.S, a.T)} },
		func(a arguments) results { b, e := store.Encode(a.O); return results{Bytes: b, Code: e} },
		func(a arguments) results { o, e := store.Decode(a.Bytes); return results{O: o, Code: e} },
	}
}

// argumentLists have valid objects of all kinds, some that are none, and stores with and without them.
func argumentLists() []arguments {
	small := append(ordinary(), random(5)...)
	stores := [][]api.Object{nil, {full(3), full(2), full(2)}, slices.Concat(small[1:3], small[7:9], small[10:15])}
	var list []arguments
	for i, o := range append(small, full(2), api.Object{}, full(0), small[3]) {
		for j, l := range stores {
			a := arguments{O: o, P: small[(i+j)%len(small)], Bytes: written(layout(o)), ID: o.ID}
			a.S.Objects, a.T.Objects = l, stores[(i+j)%len(stores)]
			list = append(list, a)
			if len(l) > 0 {
				a.O.ID, a.ID, a.Bytes = l[j%len(l)].ID, l[i%len(l)].ID, append(a.Bytes, 7)
				list = append(list, a)
			}
		}
	}
	return list
}

// TestP1NothingIsChanged looks at what lies beyond the lengths of the lists, too.
func TestP1NothingIsChanged(t *testing.T) {
	for _, plain := range argumentLists() {
		a := withRoom(plain)
		want := whole(a)
		for i, f := range calls() {
			f(a)
			if !reflect.DeepEqual(whole(a), want) {
				t.Fatalf("after the call %d the arguments are %v, want %v", i, whole(a), want)
			}
		}
	}
}

// TestP1NoMemoryIsShared looks at the memory of the arguments and of two results at once.
func TestP1NoMemoryIsShared(t *testing.T) {
	for _, plain := range argumentLists() {
		a := withRoom(plain)
		for _, f := range calls() {
			expectNoneShared(t, struct {
				Arguments arguments
				Results   [2]results
			}{a, [2]results{f(a), f(a)}})
		}
	}
}

// TestP1ResultsShareNoMemory has arguments that share memory with one another.
func TestP1ResultsShareNoMemory(t *testing.T) {
	o := full(2)
	o.Names[1].IDs = o.Names[0].IDs
	o.Queues[1] = o.Queues[0]
	a := arguments{S: api.Store{Objects: []api.Object{o, o, full(1), o}}, O: o, P: o, ID: 2}
	for range 3 {
		for _, f := range calls() {
			expectNoneShared(t, f(a))
		}
		a.O.ID++
		a.ID++
	}
}

// TestP1OverwrittenResults overwrites each result, and expects the arguments and another result as they were.
func TestP1OverwrittenResults(t *testing.T) {
	for _, plain := range argumentLists() {
		a := withRoom(plain)
		before := whole(a)
		for i, f := range calls() {
			first, second := f(a), f(a)
			want := whole(second)
			overwrite(reflect.ValueOf(first))
			if !reflect.DeepEqual(whole(second), want) || !reflect.DeepEqual(whole(a), before) {
				t.Fatalf("a result of the call %d shares memory", i)
			}
		}
		r := make([]results, 0)
		for _, f := range calls() {
			r = append(r, clone(f(a)))
		}
		kept := clone(r)
		overwrite(reflect.ValueOf(a))
		if !reflect.DeepEqual(r, kept) {
			t.Fatal("a result changes with the arguments")
		}
	}
}

// TestP1WhatLiesBeyondIsNotLookedAt gives the same arguments with and without memory beyond their lists.
func TestP1WhatLiesBeyondIsNotLookedAt(t *testing.T) {
	for _, plain := range argumentLists() {
		for i, f := range calls() {
			got, want := clone(f(withRoom(plain))), clone(f(plain))
			if !reflect.DeepEqual(got, want) {
				t.Fatalf("the call %d returns %v, want %v", i, got, want)
			}
		}
	}
}

// TestP1NothingWithErrors expects nothing but the error, or false.
func TestP1NothingWithErrors(t *testing.T) {
	for _, a := range argumentLists() {
		for i, f := range calls() {
			got := f(a)
			if got.Code == api.OK {
				continue
			}
			if len(got.S.Objects) != 0 || len(got.Bytes) != 0 || !reflect.DeepEqual(got.O, api.Object{}) {
				t.Fatalf("the call %d returns %v", i, got)
			}
		}
		if o, ok := store.Get(a.S, 1<<50+3); ok || !reflect.DeepEqual(o, api.Object{}) {
			t.Fatalf("Get is %v, %t", o, ok)
		}
	}
}

// TestP1LongLists has lists that are much longer than any that is valid.
func TestP1LongLists(t *testing.T) {
	const n = 1 << 18
	for _, o := range ordinary() {
		for _, change := range []func(o *api.Object){
			func(o *api.Object) { o.Words = make([]int64, n) },
			func(o *api.Object) { o.Data = make([]byte, n) },
			func(o *api.Object) { o.Backlog = make([]uint64, n) },
			func(o *api.Object) { o.Queues[0] = make([]byte, n) },
			func(o *api.Object) { o.Queues[1] = make([]byte, n) },
			func(o *api.Object) { o.Names = make([]api.Name, n) },
			func(o *api.Object) { o.Process.Children = make([]uint64, n) },
			func(o *api.Object) { o.Process.Program.Code = make([]api.Instr, n) },
		} {
			x := o
			change(&x)
			expectValidObject(t, x, false)
			expectEncodeFails(t, x)
		}
	}
	many := make([]api.Object, 2000)
	for i := range many {
		many[i] = api.Object{ID: uint64(i) + 1, Kind: api.KindDevice}
	}
	expectValid(t, true, many...)
	expectGet(t, many, 1999)
	expectPut(t, many, deviceWith(1500))
	expectPut(t, many, deviceWith(2500))
	expectRemove(t, many, 1500)
}
