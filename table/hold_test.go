package table

import (
	"math"
	"reflect"
	"slices"
	"testing"

	"clusterkernel/api"
)

// counting is a slot that is counted, with what counts it.
type counting struct {
	slot  api.Slot
	id    uint64
	kind  int
	count func(o *api.Object) *int
}

// countings has an identifier that no other part of the slot has.
func countings() []counting {
	return []counting{
		{open(6, 5), 6, api.KindDescription, func(o *api.Object) *int { return &o.Refs }},
		{reader(7), 7, api.KindPipe, func(o *api.Object) *int { return &o.Readers }},
		{writer(7), 7, api.KindPipe, func(o *api.Object) *int { return &o.Writers }},
		{end(8, 0), 8, api.KindChannel, func(o *api.Object) *int { return &o.Ends[0] }},
		{end(8, 1), 8, api.KindChannel, func(o *api.Object) *int { return &o.Ends[1] }},
		{port(9), 9, api.KindPort, func(o *api.Object) *int { return &o.Refs }},
	}
}

// object is a holder with a count, and nothing more.
func (c counting) object(count int) api.Object {
	o := api.Object{ID: c.id, Kind: c.kind}
	*c.count(&o) = count
	return o
}

// fullObject is a holder with a count, and all other parts filled, though its kind does not use them.
func (c counting) fullObject(count int) api.Object {
	o := full(c.id, c.kind)
	*c.count(&o) = count
	return o
}

// uncounted are slots without a holder.
func uncounted() []api.Slot {
	return []api.Slot{none, caller(9), sem(10), device(11)}
}

func expectHolder(t *testing.T, s api.Slot, want uint64) {
	t.Helper()
	if id := Holder(s); id != want {
		t.Fatalf("Holder(%v) = %d, want %d", s, id, want)
	}
}

func expectHold(t *testing.T, o api.Object, s api.Slot, want api.Object) {
	t.Helper()
	if got, e := Hold(o, s); !reflect.DeepEqual(got, want) || e != api.OK {
		t.Fatalf("Hold(%v, %v) = %v, %d, want %v", o, s, got, e, want)
	}
}

func expectHoldFails(t *testing.T, o api.Object, s api.Slot, want api.Errno) {
	t.Helper()
	if got, e := Hold(o, s); !reflect.DeepEqual(got, api.Object{}) || e != want {
		t.Fatalf("Hold(%v, %v) = %v, %d, want the error %d", o, s, got, e, want)
	}
}

func expectDrop(t *testing.T, o api.Object, s api.Slot, want api.Object, unused bool) {
	t.Helper()
	if got, last, e := Drop(o, s); !reflect.DeepEqual(got, want) || last != unused || e != api.OK {
		t.Fatalf("Drop(%v, %v) = %v, %t, %d, want %v, %t", o, s, got, last, e, want, unused)
	}
}

func expectDropFails(t *testing.T, o api.Object, s api.Slot, want api.Errno) {
	t.Helper()
	if got, last, e := Drop(o, s); !reflect.DeepEqual(got, api.Object{}) || last || e != want {
		t.Fatalf("Drop(%v, %v) = %v, %t, %d, want the error %d", o, s, got, last, e, want)
	}
}

// expectNeither expects the same error of Hold and Drop, also where others apply too.
func expectNeither(t *testing.T, o api.Object, s api.Slot, want api.Errno) {
	t.Helper()
	expectHoldFails(t, o, s, want)
	expectDropFails(t, o, s, want)
}

func TestP10_3Holder(t *testing.T) {
	expectHolder(t, open(6, 5), 6)
	expectHolder(t, reader(7), 7)
	expectHolder(t, writer(7), 7)
	expectHolder(t, end(8, 0), 8)
	expectHolder(t, end(8, 1), 8)
	expectHolder(t, port(9), 9)
	for _, id := range identifiers() {
		expectHolder(t, open(id, 5), id)
		expectHolder(t, open(6, id), 6)
		expectHolder(t, reader(id), id)
		expectHolder(t, writer(id), id)
		expectHolder(t, end(id, 0), id)
		expectHolder(t, end(id, 1), id)
		expectHolder(t, port(id), id)
	}
}

func TestP10_3NoHolder(t *testing.T) {
	for _, s := range uncounted() {
		expectHolder(t, s, 0)
	}
	for _, id := range identifiers() {
		expectHolder(t, caller(id), 0)
		expectHolder(t, sem(id), 0)
		expectHolder(t, device(id), 0)
	}
}

func TestP10_3HolderOfInvalidSlots(t *testing.T) {
	for _, s := range wrongSlots() {
		expectHolder(t, s, 0)
	}
}

// TestP10_3Definition compares Holder with the definition for all small slots.
func TestP10_3Definition(t *testing.T) {
	for _, s := range small() {
		s.Description *= 6
		s.Target *= 5
		want := uint64(0)
		switch {
		case !isValidSlot(s):
		case s.Kind == 1:
			want = s.Description
		case s.Kind == 2 || s.Kind == 3 || s.Kind == 4 || s.Kind == 5:
			want = s.Target
		}
		expectHolder(t, s, want)
	}
}

func TestP10_4Hold(t *testing.T) {
	for _, c := range countings() {
		for _, n := range []int{math.MinInt64, -1 << 32, -2, -1, 0, 1, 2, 3, 15, 16, 17, 255, 256, 1<<16 - 1, 1 << 16, 1 << 29, 1<<30 - 2, 1<<30 - 1} {
			expectHold(t, c.object(n), c.slot, c.object(n+1))
			expectHold(t, c.fullObject(n), c.slot, c.fullObject(n+1))
		}
	}
}

func TestP10_4HoldLimit(t *testing.T) {
	for _, c := range countings() {
		for _, n := range []int{1 << 30, 1<<30 + 1, 1<<31 - 1, 1 << 31, 1 << 32, 1<<32 + 1, 1 << 62, math.MaxInt64 - 1, math.MaxInt64} {
			expectHoldFails(t, c.object(n), c.slot, api.ErrLimit)
			expectHoldFails(t, c.fullObject(n), c.slot, api.ErrLimit)
		}
	}
}

func TestP10_4Drop(t *testing.T) {
	for _, c := range countings() {
		for _, n := range []int{2, 3, 16, 17, 256, 1 << 16, 1 << 30, 1<<30 + 1, 1 << 31, 1 << 32, 1<<32 + 1, math.MaxInt64} {
			expectDrop(t, c.object(n), c.slot, c.object(n-1), false)
			expectDrop(t, c.fullObject(n), c.slot, c.fullObject(n-1), false)
		}
	}
}

func TestP10_4DropState(t *testing.T) {
	for _, c := range countings() {
		for _, n := range []int{0, -1, -2, -256, -1 << 30, -1 << 31, -1 << 32, -1<<32 + 1, math.MinInt64, math.MinInt64 + 1} {
			expectDropFails(t, c.object(n), c.slot, api.ErrState)
			expectDropFails(t, c.fullObject(n), c.slot, api.ErrState)
		}
	}
}

func TestP10_4LastOfADescription(t *testing.T) {
	s := open(6, 5)
	expectDrop(t, api.Object{ID: 6, Kind: api.KindDescription, Refs: 1}, s, api.Object{ID: 6, Kind: api.KindDescription}, true)
	expectDrop(t, api.Object{ID: 6, Kind: api.KindDescription, Refs: 2}, s, api.Object{ID: 6, Kind: api.KindDescription, Refs: 1}, false)
	c := countings()[0]
	expectDrop(t, c.fullObject(1), s, c.fullObject(0), true)
}

// otherCounts are the counts of the other end of a pipe or a channel.
func otherCounts() []int {
	return []int{0, 1, 2, -1, -2, 256, 1 << 30, 1 << 32, math.MinInt64, math.MaxInt64}
}

func TestP10_4LastOfAPipe(t *testing.T) {
	pipe := func(readers, writers int) api.Object {
		return api.Object{ID: 7, Kind: api.KindPipe, Readers: readers, Writers: writers}
	}
	filled := func(readers, writers int) api.Object {
		o := full(7, api.KindPipe)
		o.Readers, o.Writers = readers, writers
		return o
	}
	for _, object := range []func(readers, writers int) api.Object{pipe, filled} {
		for _, n := range otherCounts() {
			expectDrop(t, object(1, n), reader(7), object(0, n), n == 0)
			expectDrop(t, object(n, 1), writer(7), object(n, 0), n == 0)
			expectDrop(t, object(2, n), reader(7), object(1, n), false)
			expectDrop(t, object(n, 2), writer(7), object(n, 1), false)
			expectDropFails(t, object(0, n), reader(7), api.ErrState)
			expectDropFails(t, object(n, 0), writer(7), api.ErrState)
			expectHold(t, object(1, n), reader(7), object(2, n))
			expectHold(t, object(n, 1), writer(7), object(n, 2))
			expectHoldFails(t, object(1<<30, n), reader(7), api.ErrLimit)
			expectHoldFails(t, object(n, 1<<30), writer(7), api.ErrLimit)
		}
	}
}

func TestP10_4LastOfAChannel(t *testing.T) {
	channel := func(zero, one int) api.Object {
		return api.Object{ID: 8, Kind: api.KindChannel, Ends: [2]int{zero, one}}
	}
	filled := func(zero, one int) api.Object {
		o := full(8, api.KindChannel)
		o.Ends = [2]int{zero, one}
		return o
	}
	for _, object := range []func(zero, one int) api.Object{channel, filled} {
		for _, n := range otherCounts() {
			expectDrop(t, object(1, n), end(8, 0), object(0, n), n == 0)
			expectDrop(t, object(n, 1), end(8, 1), object(n, 0), n == 0)
			expectDrop(t, object(2, n), end(8, 0), object(1, n), false)
			expectDrop(t, object(n, 2), end(8, 1), object(n, 1), false)
			expectDropFails(t, object(0, n), end(8, 0), api.ErrState)
			expectDropFails(t, object(n, 0), end(8, 1), api.ErrState)
			expectHold(t, object(1, n), end(8, 0), object(2, n))
			expectHold(t, object(n, 1), end(8, 1), object(n, 2))
			expectHoldFails(t, object(1<<30, n), end(8, 0), api.ErrLimit)
			expectHoldFails(t, object(n, 1<<30), end(8, 1), api.ErrLimit)
		}
	}
}

func TestP10_4APortStays(t *testing.T) {
	c := countings()[5]
	expectDrop(t, c.object(1), c.slot, c.object(0), false)
	expectDrop(t, c.object(2), c.slot, c.object(1), false)
	expectDrop(t, c.fullObject(1), c.slot, c.fullObject(0), false)
}

// TestP10_4ObjectsOfOtherKinds has every kind of object for every kind of slot.
func TestP10_4ObjectsOfOtherKinds(t *testing.T) {
	wrong := append(wrongKinds(), api.KindDescription+256, api.KindPipe+1<<32, api.KindChannel-256, api.KindPort-1<<32)
	for kind := range 20 {
		wrong = append(wrong, kind)
	}
	for _, c := range countings() {
		for _, kind := range wrong {
			if kind == c.kind {
				continue
			}
			for _, n := range []int{-1, 0, 1, 2, 1 << 30} {
				o := c.object(n)
				o.Kind = kind
				expectNeither(t, o, c.slot, api.ErrMismatch)
			}
			o := c.fullObject(1)
			o.Kind = kind
			expectNeither(t, o, c.slot, api.ErrMismatch)
		}
	}
}

func TestP10_4ObjectsWithOtherIdentifiers(t *testing.T) {
	for _, c := range countings() {
		for _, id := range append(identifiers(), 0, 5, c.id-1, c.id+1, c.id+256, c.id+1<<32, c.id+1<<63) {
			if id == c.id {
				continue
			}
			for _, n := range []int{-1, 0, 1, 2, 1 << 30} {
				o := c.object(n)
				o.ID = id
				expectNeither(t, o, c.slot, api.ErrMismatch)
			}
		}
	}
	for _, id := range identifiers() {
		expectHold(t, api.Object{ID: id, Kind: api.KindDescription, Refs: 1}, open(id, 5), api.Object{ID: id, Kind: api.KindDescription, Refs: 2})
		expectDrop(t, api.Object{ID: id, Kind: api.KindPipe, Writers: 2}, writer(id), api.Object{ID: id, Kind: api.KindPipe, Writers: 1}, false)
	}
}

// TestP10_4TheFileIsNotTheHolder has a file, and a description with the identifier of the file.
func TestP10_4TheFileIsNotTheHolder(t *testing.T) {
	expectNeither(t, api.Object{ID: 5, Kind: api.KindFile, Refs: 1}, open(6, 5), api.ErrMismatch)
	expectNeither(t, api.Object{ID: 5, Kind: api.KindDescription, Refs: 1}, open(6, 5), api.ErrMismatch)
	expectHold(t, api.Object{ID: 6, Kind: api.KindDescription, Refs: 1, Target: 77}, open(6, 5), api.Object{ID: 6, Kind: api.KindDescription, Refs: 2, Target: 77})
}

// TestP10_4SlotsWithoutHolder has objects that fit the slot as well as may be.
func TestP10_4SlotsWithoutHolder(t *testing.T) {
	for _, s := range uncounted() {
		for kind := -1; kind <= 12; kind++ {
			for _, id := range []uint64{0, 1, 9, 10, 11, math.MaxUint64} {
				expectNeither(t, api.Object{ID: id, Kind: kind}, s, api.ErrMismatch)
				expectNeither(t, full(id, kind), s, api.ErrMismatch)
				expectNeither(t, api.Object{ID: id, Kind: kind, Refs: 1 << 30, Readers: 1 << 30, Writers: 1 << 30, Ends: [2]int{1 << 30, 1 << 30}}, s, api.ErrMismatch)
			}
		}
	}
}

// TestP10_4InvalidSlots has objects that fit the slot as well as may be, and such as do not.
func TestP10_4InvalidSlots(t *testing.T) {
	for _, s := range wrongSlots() {
		for _, id := range slices.Compact([]uint64{0, s.Target, s.Description}) {
			for _, kind := range []int{0, api.KindDescription, api.KindPipe, api.KindPort, api.KindChannel} {
				expectNeither(t, api.Object{ID: id, Kind: kind}, s, api.ErrInvalid)
				expectNeither(t, api.Object{ID: id, Kind: kind, Refs: 1, Readers: 1, Writers: 1, Ends: [2]int{1, 1}}, s, api.ErrInvalid)
			}
		}
		expectNeither(t, full(s.Target, api.KindPort), s, api.ErrInvalid)
	}
}

// TestP10_4TheRestIsKept changes a holder to one with each part filled, and expects that part as it was.
func TestP10_4TheRestIsKept(t *testing.T) {
	for _, c := range countings() {
		for i := range reflect.TypeFor[api.Object]().NumField() {
			part := func(count int) api.Object {
				o, filled := c.object(count), c.fullObject(count)
				reflect.ValueOf(&o).Elem().Field(i).Set(reflect.ValueOf(filled).Field(i))
				*c.count(&o) = count
				return o
			}
			expectHold(t, part(3), c.slot, part(4))
			expectDrop(t, part(3), c.slot, part(2), false)
		}
	}
}

func TestConsequencesOfHold(t *testing.T) {
	for _, c := range countings() {
		for _, n := range []int{0, 1, 2, 16, 1<<30 - 1} {
			for _, o := range []api.Object{c.object(n), c.fullObject(n)} {
				held, e := Hold(o, c.slot)
				if e != api.OK {
					t.Fatalf("Hold(%v, %v): error %d", o, c.slot, e)
				}
				dropped, _, e := Drop(held, c.slot)
				if e != api.OK || !reflect.DeepEqual(dropped, o) {
					t.Fatalf("Drop after Hold is %v (error %d), want %v", dropped, e, o)
				}
			}
		}
	}
}

// TestHoldAndDropCount holds a holder several times, and drops it as often.
func TestHoldAndDropCount(t *testing.T) {
	for _, c := range countings() {
		o := c.object(0)
		for n := range 20 {
			held, e := Hold(o, c.slot)
			expectHold(t, o, c.slot, c.object(n+1))
			if e != api.OK {
				t.Fatal(e)
			}
			o = held
		}
		for n := 19; n >= 0; n-- {
			expectDrop(t, o, c.slot, c.object(n), n == 0 && c.kind != api.KindPort)
			o, _, _ = Drop(o, c.slot)
		}
		expectDropFails(t, o, c.slot, api.ErrState)
	}
}

// TestP1ObjectsAreNotChanged looks at what lies beyond the lengths of the lists, too.
func TestP1ObjectsAreNotChanged(t *testing.T) {
	for _, c := range countings() {
		for _, n := range []int{0, 1, 2, 1 << 30} {
			o := c.fullObject(n)
			want := wholeObject(o)
			for _, s := range append(kinds(), none, api.Slot{Kind: 9}) {
				Hold(o, s)
				Drop(o, s)
				if !reflect.DeepEqual(wholeObject(o), want) {
					t.Fatalf("the object is %v, want %v", wholeObject(o), want)
				}
			}
		}
	}
}

// calls are Hold and Drop, without what else Drop returns.
func calls() []func(o api.Object, s api.Slot) api.Object {
	return []func(o api.Object, s api.Slot) api.Object{
		func(o api.Object, s api.Slot) api.Object {
			held, _ := Hold(o, s)
			return held
		},
		func(o api.Object, s api.Slot) api.Object {
			dropped, _, _ := Drop(o, s)
			return dropped
		},
	}
}

// TestP1ObjectsShareNoMemory overwrites each result, and expects its argument and other results as they were.
func TestP1ObjectsShareNoMemory(t *testing.T) {
	for _, c := range countings() {
		for _, call := range calls() {
			o := c.fullObject(3)
			before := wholeObject(o)
			first, second := call(o, c.slot), call(o, c.slot)
			want := wholeObject(first)
			wipe(reflect.ValueOf(second))
			if !reflect.DeepEqual(wholeObject(first), want) {
				t.Fatalf("two results share memory: %v, want %v", first, want)
			}
			wipe(reflect.ValueOf(first))
			if !reflect.DeepEqual(wholeObject(o), before) {
				t.Fatalf("a result shares memory with its argument: %v, want %v", wholeObject(o), before)
			}
		}
	}
}

// sharing is a holder of which the lists that can share memory do.
func (c counting) sharing() api.Object {
	o := c.fullObject(3)
	ids, data := make([]uint64, 5, 9), make([]byte, 5, 9)
	for i := range 5 {
		ids[i], data[i] = uint64(i)+1, byte(i)+1
	}
	o.Process.Children, o.Backlog = ids, ids[1:]
	for i := range o.Names {
		o.Names[i].IDs = ids
	}
	o.Data, o.Queues = data, [2][]byte{data, data[2:]}
	return o
}

// TestP1ListsOfAResultAreApart overwrites each list of a result, and expects all others as they were.
func TestP1ListsOfAResultAreApart(t *testing.T) {
	for _, c := range countings() {
		for _, call := range calls() {
			count := 0
			lists(reflect.ValueOf(call(c.sharing(), c.slot)), func(reflect.Value) { count++ })
			for i := range count {
				expectOnlyOneListChanges(t, call(c.sharing(), c.slot), i)
			}
		}
	}
}

// expectOnlyOneListChanges overwrites the list number i of o, in all of its memory, and puts it back as another one.
func expectOnlyOneListChanges(t *testing.T, o api.Object, i int) {
	t.Helper()
	want := wholeObject(o)
	at := 0
	lists(reflect.ValueOf(&o).Elem(), func(list reflect.Value) {
		if at == i {
			kept := whole(list)
			list.Slice(0, list.Cap()).Clear()
			list.Set(kept)
		}
		at++
	})
	if !reflect.DeepEqual(wholeObject(o), want) {
		t.Fatalf("the list number %d shares memory with another one: %v, want %v", i, wholeObject(o), want)
	}
}

// TestP1WhatLiesBeyondIsNotLookedAt gives the same holder with other memory behind its lists.
func TestP1WhatLiesBeyondIsNotLookedAt(t *testing.T) {
	for _, c := range countings() {
		for _, call := range calls() {
			plain := c.fullObject(3)
			other := c.fullObject(3)
			lists(reflect.ValueOf(other), func(list reflect.Value) {
				list.Slice(list.Len(), list.Cap()).Clear()
			})
			if a, b := call(plain, c.slot), call(other, c.slot); !reflect.DeepEqual(a, b) {
				t.Fatalf("the results are %v and %v", a, b)
			}
		}
	}
}

// TestP1EmptyListsAreAsNil has memory of their own for all lists.
func TestP1EmptyListsAreAsNil(t *testing.T) {
	for _, c := range countings() {
		for _, call := range calls() {
			o := c.object(3)
			lists(reflect.ValueOf(&o).Elem(), func(list reflect.Value) {
				list.Set(reflect.MakeSlice(list.Type(), 0, 4))
			})
			got := call(o, c.slot)
			lists(reflect.ValueOf(&got).Elem(), func(list reflect.Value) {
				if list.Len() != 0 {
					t.Fatalf("a list has %d elements", list.Len())
				}
				list.SetZero()
			})
			if want := call(c.object(3), c.slot); !reflect.DeepEqual(got, want) {
				t.Fatalf("the result is %v, want %v", got, want)
			}
		}
	}
}

func TestP1SameObjectsSameResults(t *testing.T) {
	for _, c := range countings() {
		o := c.fullObject(1)
		for range 3 {
			expectHolder(t, c.slot, c.id)
			expectHold(t, o, c.slot, c.fullObject(2))
			expectDrop(t, o, c.slot, c.fullObject(0), c.kind == api.KindDescription)
			expectNeither(t, o, sem(5), api.ErrMismatch)
		}
	}
}
