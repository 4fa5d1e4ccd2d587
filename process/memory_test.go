package process

import (
	"reflect"
	"slices"
	"testing"

	"clusterkernel/api"
)

// call is a call of a function that is given its objects, with what it returns.
type call func(objects []api.Object) []api.Object

// calls are calls with a process and a child, with and without errors.
func calls() []call {
	list := []call{
		func(l []api.Object) []api.Object { Valid(l[0]); return nil },
		func(l []api.Object) []api.Object { o, _, _ := Orphan(l[0]); return []api.Object{o} },
		func(l []api.Object) []api.Object { o, _, _ := Reap(l[0], l[1]); return []api.Object{o} },
	}
	for _, status := range []int64{0, 3} {
		list = append(list, func(l []api.Object) []api.Object { o, _, _ := End(l[0], status); return []api.Object{o} })
	}
	for _, id := range []uint64{0, 20, 99} {
		for _, pages := range [][]uint64{nil, {32, 33}, {0, 33}} {
			list = append(list, func(l []api.Object) []api.Object {
				parent, child, _ := Fork(l[0], id, pages)
				return []api.Object{parent, child}
			})
		}
	}
	return list
}

// arguments are processes of all kinds with children that can be reaped, that have to be waited for, and that are none, all of which have memory beyond the lengths of their lists.
func arguments() [][]api.Object {
	young := bare(api.Alive)
	young.ID, young.Process.Parent = 20, 7
	var list [][]api.Object
	for _, o := range append(all(), api.Object{}, withChildren(alive(), others(31)), withChildren(alive(), others(32)), withChildren(alive(), []uint64{20})) {
		for _, child := range []api.Object{zombie(20, 7, 3), zombie(21, 7, 0), young, zombie(22, 7, 3), alive()} {
			list = append(list, []api.Object{withRoom(o), withRoom(child)})
		}
	}
	return list
}

func wholes(objects []api.Object) []api.Object {
	var list []api.Object
	for _, o := range objects {
		list = append(list, whole(o))
	}
	return list
}

// TestP1NothingIsChanged looks at what lies beyond the lengths of the lists, too.
func TestP1NothingIsChanged(t *testing.T) {
	for _, l := range arguments() {
		want := wholes(l)
		for i, f := range calls() {
			f(l)
			if !reflect.DeepEqual(wholes(l), want) {
				t.Fatalf("after the call %d the arguments are %v, want %v", i, wholes(l), want)
			}
		}
	}
}

// TestP1ResultsShareNoMemory overwrites one result after the other, and expects the arguments and all other results as they were.
func TestP1ResultsShareNoMemory(t *testing.T) {
	for _, l := range arguments() {
		before := wholes(l)
		for i, f := range calls() {
			results := append(f(l), f(l)...)
			for j := range results {
				rest := results[j+1:]
				want := wholes(rest)
				overwrite(results[j])
				if !reflect.DeepEqual(wholes(rest), want) {
					t.Fatalf("two results of the call %d share memory: %v, want %v", i, wholes(rest), want)
				}
			}
			if !reflect.DeepEqual(wholes(l), before) {
				t.Fatalf("a result of the call %d shares memory with its arguments: %v, want %v", i, wholes(l), before)
			}
		}
	}
}

// TestP1AppendingToResults appends to all lists of the results, also to the empty ones, and expects the arguments as they were.
func TestP1AppendingToResults(t *testing.T) {
	for _, l := range arguments() {
		before := wholes(l)
		for i, f := range calls() {
			for _, o := range f(l) {
				eachPart(reflect.ValueOf(&o).Elem(), "", func(_ string, part reflect.Value) {
					if part.Kind() == reflect.Slice {
						reflect.Append(part, reflect.Zero(part.Type().Elem()))
					}
				})
			}
			if !reflect.DeepEqual(wholes(l), before) {
				t.Fatalf("a result of the call %d shares memory with its arguments: %v, want %v", i, wholes(l), before)
			}
		}
	}
}

// TestP1WhatLiesBeyondIsNotLookedAt gives the same objects without memory beyond their lists, and with nil for the empty ones.
func TestP1WhatLiesBeyondIsNotLookedAt(t *testing.T) {
	for _, l := range arguments() {
		plain := []api.Object{withNil(l[0]), withNil(l[1])}
		for _, o := range plain {
			eachPart(reflect.ValueOf(&o).Elem(), "", func(_ string, part reflect.Value) {
				if part.Kind() == reflect.Slice {
					part.Set(part.Slice3(0, part.Len(), part.Len()))
				}
			})
		}
		for i, f := range calls() {
			got, want := f(l), f(plain)
			for j := range got {
				if !reflect.DeepEqual(withNil(got[j]), withNil(want[j])) {
					t.Fatalf("the call %d returns %v, want %v", i, got[j], want[j])
				}
			}
		}
	}
}

// TestP1NewChangesNothing looks at the program and the pages that New is given, and overwrites what it returns.
func TestP1NewChangesNothing(t *testing.T) {
	programs := append(rightPrograms(), wrongPrograms()...)
	for _, p := range programs {
		for _, id := range []uint64{0, 7} {
			for _, n := range []int{p.Pages & 31, 3, 0} {
				given := withRoom(api.Object{Process: api.Process{Program: p, Children: others(n)}}) // which keeps the pages as children
				want := whole(given)
				first, _ := New(id, given.Process.Program, given.Process.Children)
				second, _ := New(id, given.Process.Program, given.Process.Children)
				kept := whole(second)
				overwrite(first)
				if !reflect.DeepEqual(whole(second), kept) {
					t.Fatalf("two results share memory: %v, want %v", whole(second), kept)
				}
				overwrite(second)
				if !reflect.DeepEqual(whole(given), want) {
					t.Fatalf("the arguments are %v, want %v", whole(given), want)
				}
			}
		}
	}
}

// TestP1PagesOfForkStay looks at the identifiers that Fork is given, and overwrites what it returns.
func TestP1PagesOfForkStay(t *testing.T) {
	for n := range 5 {
		ids := others(10)
		ids[n+1] = 0
		want := slices.Clone(ids)
		parent, child, _ := Fork(alive(), 99, ids[:n])
		overwrite(parent)
		overwrite(child)
		if !slices.Equal(ids, want) {
			t.Fatalf("the identifiers are %v, want %v", ids, want)
		}
	}
}

func TestP1SameArgumentsSameResults(t *testing.T) {
	for _, l := range arguments() {
		for i, f := range calls() {
			first := f(l)
			if second := f(l); !reflect.DeepEqual(first, second) {
				t.Fatalf("the call %d returns %v and then %v", i, first, second)
			}
		}
	}
}

// TestP1LongLists has lists that are much longer than any that is valid.
func TestP1LongLists(t *testing.T) {
	const n = 1 << 20
	for _, change := range []func(o *api.Object){
		func(o *api.Object) { o.Process.Children = make([]uint64, n) },
		func(o *api.Object) { o.Process.Program.Code = make([]api.Instr, n) },
		func(o *api.Object) { o.Process.Program.Strings = make([]string, n) },
		func(o *api.Object) { o.Process.Pages = make([]api.PageRef, n) },
		func(o *api.Object) { o.Process.Table = make([]api.Slot, n) },
	} {
		for _, o := range []api.Object{alive(), bare(api.Dying), zombie(7, 5, 3)} {
			change(&o)
			expectNoProcess(t, o)
		}
	}
	expectNewFails(t, 7, program(), make([]uint64, n), api.ErrRange)
	expectForkFails(t, alive(), 99, make([]uint64, n), api.ErrRange)
}
