package process

import (
	"math"
	"reflect"
	"slices"
	"testing"

	"clusterkernel/api"
)

// program is a program with three pages.
func program() api.Program {
	return api.Program{
		Code:    []api.Instr{{Op: api.OpSet, A: 1, B: 5}, {Op: api.OpAdd, A: 7, B: 6, C: 5}, {}, {Op: api.OpIf, A: 3, B: 4}},
		Strings: []string{"/a", "", "\x00\xff"},
		Pages:   3,
	}
}

// alive is a process without a part that is zero, but for its status. It has two private pages.
func alive() api.Object {
	return api.Object{ID: 7, Kind: api.KindProcess, Process: api.Process{
		State:    api.Alive,
		Parent:   5,
		Children: []uint64{20, 1<<63 + 9, 21},
		Program:  program(),
		CPU:      api.CPU{PC: 2, Regs: [api.Regs]int64{1, -2, 3, math.MinInt64, math.MaxInt64, 6, 7, 8}},
		Pages:    []api.PageRef{{ID: 30}, {ID: 40, Shared: true}, {ID: 31}, {ID: 40, Shared: true}},
		Table:    []api.Slot{{Kind: api.SlotFile, Description: 50, Target: 51}, {}, {Kind: api.SlotChannel, Target: 52, End: 1}},
		Pending:  1<<1 | 1<<14 | 1<<31,
		Alarm:    9,
	}}
}

// dying is alive after it was killed.
func dying() api.Object {
	o := alive()
	o.Process.State, o.Process.Status = api.Dying, -9
	return o
}

// bare is a process with nothing at all.
func bare(state int) api.Object {
	return api.Object{ID: 7, Kind: api.KindProcess, Process: api.Process{State: state}}
}

func zombie(id, parent uint64, status int64) api.Object {
	return api.Object{ID: id, Kind: api.KindProcess, Process: api.Process{State: api.Zombie, Parent: parent, Status: status}}
}

// going are processes that are no zombies.
func going() []api.Object {
	return []api.Object{alive(), dying(), bare(api.Alive), bare(api.Dying), withoutParent(alive()), withoutParent(dying())}
}

func withoutParent(o api.Object) api.Object {
	o.Process.Parent = 0
	return o
}

// all are processes in all states, also with lists that have memory beyond their lengths.
func all() []api.Object {
	list := append(going(), zombie(7, 5, 0), zombie(7, 5, -9), zombie(7, 5, 3))
	for _, o := range list {
		list = append(list, withRoom(o))
	}
	return list
}

// identifiers are some of those that an object can have.
func identifiers() []uint64 {
	return []uint64{1, 2, 3, 1<<32 - 1, 1 << 32, 1<<57 + 5, 1<<63 - 1, 1 << 63, math.MaxUint64}
}

// others are n identifiers, none of them twice and none that an example has, and in no order.
func others(n int) []uint64 {
	var ids []uint64
	for i := range n {
		ids = append(ids, uint64(i*7919%1009)<<32+11)
	}
	return ids
}

// numbers are some that a register or a status can have. The low bits of some are zero.
func numbers() []int64 {
	return []int64{0, 1, 2, 3, 9, 255, 256, 1 << 30, 1 << 31, 1 << 32, 1<<53 + 1, math.MaxInt64, -1, -2, -9, -256, -1 << 32, math.MinInt64 + 1, math.MinInt64}
}

// wrongPrograms are programs that are not right, each in another way.
func wrongPrograms() []api.Program {
	long := string(make([]byte, api.MaxPath+1))
	list := []api.Program{
		{Code: make([]api.Instr, api.MaxCode+1)}, {Strings: make([]string, api.MaxStrings+1)}, {Strings: []string{"", long}},
		{Pages: -1}, {Pages: api.MaxPages + 1}, {Pages: math.MinInt64}, {Pages: math.MaxInt64},
	}
	for _, x := range []api.Instr{{Op: 13}, {Op: -1}, {A: 1}, {Op: api.OpSet, A: 8}, {Op: api.OpJump, A: 3}, {Op: api.OpCall}, {Op: api.OpCall, A: 25}} {
		list = append(list, api.Program{Code: []api.Instr{x, {}}}, api.Program{Code: []api.Instr{{}, x}})
	}
	return list
}

// rightPrograms are programs that are right, up to all limits.
func rightPrograms() []api.Program {
	long := string(make([]byte, api.MaxPath))
	list := []api.Program{program(), {}, {Code: make([]api.Instr, api.MaxCode)}, {Strings: make([]string, api.MaxStrings)}, {Strings: []string{long, ""}}}
	for n := range api.MaxPages + 1 {
		list = append(list, api.Program{Pages: n})
	}
	return list
}

// expectObject expects an object, and that it is a process: what the functions return is valid.
func expectObject(t *testing.T, got, want api.Object) {
	t.Helper()
	if !reflect.DeepEqual(withNil(got), withNil(want)) {
		t.Fatalf("the object is %v, want %v", got, want)
	}
	if !Valid(got) {
		t.Fatalf("Valid(%v) = false", got)
	}
}

func expectZero(t *testing.T, got api.Object) {
	t.Helper()
	if !reflect.DeepEqual(got, api.Object{}) {
		t.Fatalf("the object is %v, want the zero object", got)
	}
}

func expectNew(t *testing.T, id uint64, p api.Program, pages []uint64) {
	t.Helper()
	want := api.Object{ID: id, Kind: api.KindProcess, Process: api.Process{State: api.Alive, Program: p}}
	for _, page := range pages {
		want.Process.Pages = append(want.Process.Pages, api.PageRef{ID: page})
	}
	o, e := New(id, p, pages)
	if e != api.OK {
		t.Fatalf("New(%d, %v, %v) is the error %d", id, p, pages, e)
	}
	expectObject(t, o, want)
}

func expectNewFails(t *testing.T, id uint64, p api.Program, pages []uint64, want api.Errno) {
	t.Helper()
	o, e := New(id, p, pages)
	if e != want {
		t.Fatalf("New(%d, %v, %v) is the error %d, want %d", id, p, pages, e, want)
	}
	expectZero(t, o)
}

// expectFork expects a child with these pages, which are all of it, also those that are shared.
func expectFork(t *testing.T, o api.Object, id uint64, ids []uint64, pages []api.PageRef) {
	t.Helper()
	parent, child, e := Fork(o, id, ids)
	if e != api.OK {
		t.Fatalf("Fork(%v, %d, %v) is the error %d", o, id, ids, e)
	}
	want := clean(o)
	want.Process.Children = append(slices.Clone(o.Process.Children), id)
	expectObject(t, parent, want)
	expectObject(t, child, api.Object{ID: id, Kind: api.KindProcess, Process: api.Process{
		State: o.Process.State, Parent: o.ID, Program: o.Process.Program, CPU: o.Process.CPU, Pages: pages, Table: o.Process.Table,
	}})
}

func expectForkFails(t *testing.T, o api.Object, id uint64, pages []uint64, want api.Errno) {
	t.Helper()
	parent, child, e := Fork(o, id, pages)
	if e != want {
		t.Fatalf("Fork(%v, %d, %v) is the error %d, want %d", o, id, pages, e, want)
	}
	expectZero(t, parent)
	expectZero(t, child)
}

// clean is o with nothing but what belongs to processes.
func clean(o api.Object) api.Object {
	return api.Object{ID: o.ID, Kind: o.Kind, Process: o.Process}
}

// expectLeft expects what End or Orphan returned: an object, or nothing.
func expectLeft(t *testing.T, got api.Object, gone bool, e api.Errno, want api.Object) {
	t.Helper()
	nothing := want.ID == 0
	if e != api.OK || gone != nothing {
		t.Fatalf("what is left is %v, %t and the error %d, want %v", got, gone, e, want)
	}
	if nothing {
		expectZero(t, got)
	} else {
		expectObject(t, got, want)
	}
}

// expectNoneLeft expects that End or Orphan returned an error alone.
func expectNoneLeft(t *testing.T, got api.Object, gone bool, e, want api.Errno) {
	t.Helper()
	if e != want || gone {
		t.Fatalf("%v, %t and the error %d are returned, want the error %d", got, gone, e, want)
	}
	expectZero(t, got)
}

func expectEnd(t *testing.T, o api.Object, status int64, want api.Object) {
	t.Helper()
	got, gone, e := End(o, status)
	expectLeft(t, got, gone, e, want)
}

func expectEndFails(t *testing.T, o api.Object, status int64, want api.Errno) {
	t.Helper()
	got, gone, e := End(o, status)
	expectNoneLeft(t, got, gone, e, want)
}

func expectOrphan(t *testing.T, o, want api.Object) {
	t.Helper()
	got, gone, e := Orphan(o)
	expectLeft(t, got, gone, e, want)
}

func expectOrphanFails(t *testing.T, o api.Object, want api.Errno) {
	t.Helper()
	got, gone, e := Orphan(o)
	expectNoneLeft(t, got, gone, e, want)
}

// expectReap expects o with these children, and the status of the child.
func expectReap(t *testing.T, o, child api.Object, children []uint64, status int64) {
	t.Helper()
	left, got, e := Reap(o, child)
	if e != api.OK || got != status {
		t.Fatalf("Reap(%v, %v) is %d and the error %d, want %d", o, child, got, e, status)
	}
	want := clean(o)
	want.Process.Children = children
	expectObject(t, left, want)
}

func expectReapFails(t *testing.T, o, child api.Object, want api.Errno) {
	t.Helper()
	left, status, e := Reap(o, child)
	if e != want || status != 0 {
		t.Fatalf("Reap(%v, %v) is %d and the error %d, want the error %d", o, child, status, e, want)
	}
	expectZero(t, left)
}
