package ident

import (
	"math"
	"slices"
	"testing"

	"clusterkernel/api"
)

func TestP3_3New(t *testing.T) {
	for _, o := range origins() {
		a, e := New(o.node, o.boot)
		if e != api.OK || a != (api.Allocator{Node: o.node, Boot: o.boot, Serial: 0}) {
			t.Errorf("New(%d, %d) = %v, %d", o.node, o.boot, a, e)
		}
	}
	for _, o := range wrongOrigins() {
		if a, e := New(o.node, o.boot); e != api.ErrRange || a != (api.Allocator{}) {
			t.Errorf("New(%d, %d) = %v, %d, want the error %d", o.node, o.boot, a, e, api.ErrRange)
		}
	}
}

func TestP3_3FirstIdentifier(t *testing.T) {
	a, _ := New(0, 0)
	if ids, after, e := Next(a, 1); e != api.OK || !slices.Equal(ids, []uint64{api.Root}) || after.Serial != 1 {
		t.Errorf("the first identifier is %d, %v, %d", ids, after, e)
	}
	a, _ = New(2, 3)
	if ids, _, e := Next(a, 4); e != api.OK || len(ids) != 4 || Format(ids[3]) != "2.3.4" {
		t.Errorf("the first identifiers of 2 and 3 are %d, %d", ids, e)
	}
}

func expectNext(t *testing.T, a api.Allocator, n int) {
	t.Helper()
	var want []uint64
	for i := range n {
		want = append(want, sum(a.Node, a.Boot, a.Serial+int64(i)+1))
	}
	wantAfter := api.Allocator{Node: a.Node, Boot: a.Boot, Serial: a.Serial + int64(n)}
	if ids, after, e := Next(a, n); e != api.OK || !slices.Equal(ids, want) || after != wantAfter {
		t.Errorf("Next(%v, %d) = %d, %v, %d, want %d, %v", a, n, ids, after, e, want, wantAfter)
	}
}

func expectNextFails(t *testing.T, a api.Allocator, n int, want api.Errno) {
	t.Helper()
	if ids, after, e := Next(a, n); e != want || len(ids) != 0 || after != (api.Allocator{}) {
		t.Errorf("Next(%v, %d) = %d, %v, %d, want the error %d", a, n, ids, after, e, want)
	}
}

func TestP3_3Next(t *testing.T) {
	for _, o := range origins() {
		for _, serial := range []int64{0, 1, 3, 255, 256, 1<<32 - 2, 1 << 39, api.MaxSerial - api.MaxFresh - 1, api.MaxSerial - api.MaxFresh} {
			for _, n := range []int{0, 1, 2, 3, 63, api.MaxFresh} {
				expectNext(t, api.Allocator{Node: o.node, Boot: o.boot, Serial: serial}, n)
			}
		}
	}
}

func TestP3_3NextGoesOn(t *testing.T) {
	a, _ := New(7, 8)
	var want, got []uint64
	for serial := int64(1); serial <= 300; serial++ {
		want = append(want, sum(7, 8, serial))
	}
	for _, n := range []int{1, 0, 64, 2, 64, 64, 0, 64, 41} {
		ids, after, e := Next(a, n)
		if e != api.OK {
			t.Fatalf("Next(%v, %d): %d", a, n, e)
		}
		got = append(got, ids...)
		a = after
	}
	if !slices.Equal(got, want) || a.Serial != 300 {
		t.Errorf("the identifiers of one allocator are %d, and it is %v then", got, a)
	}
}

func TestP3_3NextInvalid(t *testing.T) {
	numbers := []int{0, 1, api.MaxFresh, -1, api.MaxFresh + 1, math.MinInt64, math.MaxInt64}
	for _, n := range numbers {
		for _, o := range wrongOrigins() {
			for _, serial := range []int64{0, 1, api.MaxSerial, -1, api.MaxSerial + 1} {
				expectNextFails(t, api.Allocator{Node: o.node, Boot: o.boot, Serial: serial}, n, api.ErrInvalid)
			}
		}
		for _, o := range origins() {
			for _, serial := range wrongSerials() {
				expectNextFails(t, api.Allocator{Node: o.node, Boot: o.boot, Serial: serial}, n, api.ErrInvalid)
			}
		}
	}
}

func TestP3_3NextRange(t *testing.T) {
	for _, o := range origins() {
		for _, n := range []int{-1, -2, -64, math.MinInt32, math.MinInt64, api.MaxFresh + 1, api.MaxFresh + 2, 1 << 32, 1<<32 + 1, 1 << 40, math.MaxInt64} {
			for _, serial := range []int64{0, 1, 100, api.MaxSerial - 1, api.MaxSerial} {
				expectNextFails(t, api.Allocator{Node: o.node, Boot: o.boot, Serial: serial}, n, api.ErrRange)
			}
		}
	}
}

func TestP3_3NextLimit(t *testing.T) {
	for _, o := range origins() {
		for left := range api.MaxFresh + 1 {
			a := api.Allocator{Node: o.node, Boot: o.boot, Serial: api.MaxSerial - int64(left)}
			for n := range api.MaxFresh + 1 {
				if n <= left {
					expectNext(t, a, n)
				} else {
					expectNextFails(t, a, n, api.ErrLimit)
				}
			}
		}
	}
}

func TestP1NextChangesNoArgumentAndSharesNoMemory(t *testing.T) {
	a := api.Allocator{Node: 4, Boot: 5, Serial: 6}
	for n := range api.MaxFresh + 1 {
		first, _, _ := Next(a, n)
		second, _, _ := Next(a, n)
		kept := slices.Clone(second)
		for i := range first[:cap(first)] {
			first[:cap(first)][i] = 0
		}
		if !slices.Equal(second, kept) {
			t.Errorf("two results of Next(%v, %d) share memory", a, n)
		}
		expectNext(t, a, n)
	}
	if a != (api.Allocator{Node: 4, Boot: 5, Serial: 6}) {
		t.Errorf("Next changed its argument to %v", a)
	}
	for _, n := range []int{-1, api.MaxFresh + 1} {
		Next(a, n)
	}
	if a != (api.Allocator{Node: 4, Boot: 5, Serial: 6}) {
		t.Errorf("Next with an error changed its argument to %v", a)
	}
}

func TestConsequenceNeverTwice(t *testing.T) {
	given := map[uint64]api.Allocator{}
	for _, o := range origins() {
		a, _ := New(o.node, o.boot)
		last := uint64(0)
		for n := range 20 {
			ids, after, e := Next(a, n)
			if e != api.OK {
				t.Fatalf("Next(%v, %d): %d", a, n, e)
			}
			for _, id := range ids {
				if other, ok := given[id]; ok {
					t.Errorf("%s was given by %v and by %v", Format(id), other, a)
				}
				if id <= last {
					t.Errorf("%s is given after %s", Format(id), Format(last))
				}
				if node, boot, _ := Split(id); node != o.node || boot != o.boot || !Valid(id) {
					t.Errorf("%v gives %s", a, Format(id))
				}
				given[id] = a
				last = id
			}
			a = after
		}
	}
}

// TestConsequenceNextBootIsNew gives the last identifiers of a boot and the first ones of the next boot, and of the next node.
func TestConsequenceNextBootIsNew(t *testing.T) {
	last, _, _ := Next(api.Allocator{Node: 3, Boot: 9, Serial: api.MaxSerial - api.MaxFresh}, api.MaxFresh)
	boot, _, _ := Next(api.Allocator{Node: 3, Boot: 10}, api.MaxFresh)
	lastBoot, _, _ := Next(api.Allocator{Node: 3, Boot: api.MaxBoot, Serial: api.MaxSerial - api.MaxFresh}, api.MaxFresh)
	node, _, _ := Next(api.Allocator{Node: 4}, api.MaxFresh)
	all := slices.Concat(last, boot, lastBoot, node)
	if len(all) != 4*api.MaxFresh || !slices.IsSorted(all) || len(slices.Compact(all)) != 4*api.MaxFresh {
		t.Errorf("identifiers of different boots and nodes are not in order, or given twice")
	}
}
