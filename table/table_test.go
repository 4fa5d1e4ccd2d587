package table

import (
	"math"
	"reflect"
	"slices"
	"testing"

	"clusterkernel/api"
)

// none is the slot that is free.
var none = api.Slot{}

// reader, and the functions like it, are valid slots of all kinds.
func reader(id uint64) api.Slot { return api.Slot{Kind: api.SlotReader, Target: id} }
func writer(id uint64) api.Slot { return api.Slot{Kind: api.SlotWriter, Target: id} }
func port(id uint64) api.Slot   { return api.Slot{Kind: api.SlotPort, Target: id} }
func caller(id uint64) api.Slot { return api.Slot{Kind: api.SlotCaller, Target: id} }
func sem(id uint64) api.Slot    { return api.Slot{Kind: api.SlotSem, Target: id} }
func device(id uint64) api.Slot { return api.Slot{Kind: api.SlotDevice, Target: id} }

func open(description, file uint64) api.Slot {
	return api.Slot{Kind: api.SlotFile, Description: description, Target: file}
}

func end(id uint64, n int) api.Slot {
	return api.Slot{Kind: api.SlotChannel, Target: id, End: n}
}

// kinds is a valid slot of each kind but SlotNone, and of each end.
func kinds() []api.Slot {
	return []api.Slot{open(6, 5), reader(7), writer(7), end(8, 0), end(8, 1), port(9), caller(9), sem(10), device(11)}
}

// distinct is a table of n slots, no two of which are the same.
func distinct(n int) []api.Slot {
	var t []api.Slot
	for i := range n {
		s := kinds()[i%len(kinds())]
		s.Target += uint64(i)
		t = append(t, s)
	}
	return t
}

// with is a copy of t with s at the place i.
func with(t []api.Slot, i int, s api.Slot) []api.Slot {
	t = slices.Clone(t)
	t[i] = s
	return t
}

func identifiers() []uint64 {
	return []uint64{1, 2, 7, 1<<32 - 1, 1 << 32, 1<<32 + 1, 1<<57 + 5, 1<<63 - 1, 1 << 63, math.MaxUint64}
}

// wrongKinds are kinds of which there are no slots.
func wrongKinds() []int {
	l := []int{
		math.MinInt64, math.MinInt64 + 1, -1 << 32, -1<<32 + 1, -256, -255, 256, 257, 1 << 16, 1<<16 + 1, 1 << 32, 1<<32 + 1, 1<<32 + 8, 1<<62 + 4, math.MaxInt64,
	}
	for kind := 1; kind <= 20; kind++ {
		l = append(l, -kind, 8+kind)
	}
	return l
}

// wrongSlots are slots with one thing that is wrong.
func wrongSlots() []api.Slot {
	var l []api.Slot
	for _, kind := range wrongKinds() {
		l = append(l, api.Slot{Kind: kind, Target: 5}, api.Slot{Kind: kind, Target: 5, Description: 6}, api.Slot{Kind: kind})
	}
	for _, id := range identifiers() {
		l = append(l, api.Slot{Target: id}, api.Slot{Description: id})
	}
	for _, n := range []int{math.MinInt64, -1 << 32, -2, -1, 1, 2, 3, 256, 257, 1 << 32, 1<<32 + 1, math.MaxInt64} {
		l = append(l, api.Slot{End: n})
		for _, s := range kinds() {
			if s.Kind != api.SlotChannel || n != 1 {
				s.End = n
				l = append(l, s)
			}
		}
	}
	for _, s := range kinds() {
		for _, id := range identifiers() {
			if s.Kind != api.SlotFile {
				l = append(l, api.Slot{Kind: s.Kind, Target: s.Target, Description: id, End: s.End})
			}
			l = append(l, api.Slot{Kind: s.Kind, Description: id, End: s.End})
		}
		l = append(l, api.Slot{Kind: s.Kind, End: s.End})
	}
	return append(l, api.Slot{Kind: api.SlotFile, Target: 5})
}

// small is every slot of a kind from -1 to 10, with numbers that are small.
func small() []api.Slot {
	var l []api.Slot
	for kind := -1; kind <= 10; kind++ {
		for end := -1; end <= 2; end++ {
			for ids := range uint64(4) {
				l = append(l, api.Slot{Kind: kind, Description: ids / 2, Target: ids % 2, End: end})
			}
		}
	}
	return l
}

// isValidSlot is the definition of a valid slot, taken word by word.
func isValidSlot(s api.Slot) bool {
	if s.Kind < 0 || s.Kind > 8 {
		return false
	}
	if s.Kind == 0 {
		return s.Description == 0 && s.Target == 0 && s.End == 0
	}
	if s.Target == 0 || s.Kind == 1 && s.Description == 0 || s.Kind != 1 && s.Description != 0 {
		return false
	}
	return s.End == 0 || s.Kind == 4 && s.End == 1
}

// isValid is the definition of a valid table, taken word by word.
func isValid(t []api.Slot) bool {
	for i, s := range t {
		if !isValidSlot(s) || i == len(t)-1 && s.Kind == 0 {
			return false
		}
	}
	return len(t) <= 16
}

// expectValid and the functions like it end the test with its first failure: some tests look at so many tables that all failures could not be read.
func expectValid(t *testing.T, l []api.Slot) {
	t.Helper()
	if !Valid(l) {
		t.Fatalf("Valid(%v) = false", l)
	}
	for i, s := range l {
		if s == none {
			expectGetFails(t, l, int64(i))
			expectClearFails(t, l, int64(i), api.ErrMissing)
		} else {
			expectGet(t, l, int64(i), s)
		}
	}
	for _, i := range []int64{-1, int64(len(l)), math.MaxInt64} {
		expectGetFails(t, l, i)
		expectClearFails(t, l, i, api.ErrMissing)
	}
	expectPutFails(t, l, none, api.ErrInvalid)
}

// expectInvalid expects ErrInvalid also where other errors apply too.
func expectInvalid(t *testing.T, l []api.Slot) {
	t.Helper()
	if Valid(l) {
		t.Fatalf("Valid(%.300v) = true", l)
	}
	for _, s := range []api.Slot{reader(7), open(6, 5), none, {Kind: 9, Target: 5}} {
		expectPutFails(t, l, s, api.ErrInvalid)
	}
	for _, i := range []int64{math.MinInt64, -1, 0, 1, 2, 15, 16, 17, int64(len(l)) - 1, int64(len(l)), math.MaxInt64} {
		expectClearFails(t, l, i, api.ErrInvalid)
	}
}

func expectGet(t *testing.T, l []api.Slot, i int64, want api.Slot) {
	t.Helper()
	if s, e := Get(l, i); s != want || e != api.OK {
		t.Fatalf("Get(%.300v, %d) = %v, %d, want %v", l, i, s, e, want)
	}
}

func expectGetFails(t *testing.T, l []api.Slot, i int64) {
	t.Helper()
	if s, e := Get(l, i); s != none || e != api.ErrMissing {
		t.Fatalf("Get(%.300v, %d) = %v, %d, want the error %d", l, i, s, e, api.ErrMissing)
	}
}

func expectPut(t *testing.T, l []api.Slot, s api.Slot, want []api.Slot, at int) {
	t.Helper()
	if got, i, e := Put(l, s); !slices.Equal(got, want) || i != at || e != api.OK {
		t.Fatalf("Put(%v, %v) = %v, %d, %d, want %v, %d", l, s, got, i, e, want, at)
	}
}

func expectPutFails(t *testing.T, l []api.Slot, s api.Slot, want api.Errno) {
	t.Helper()
	if got, i, e := Put(l, s); got != nil || i != 0 || e != want {
		t.Fatalf("Put(%.300v, %v) = %.300v, %d, %d, want the error %d", l, s, got, i, e, want)
	}
}

func expectClear(t *testing.T, l []api.Slot, i int64, want ...api.Slot) {
	t.Helper()
	if got, e := Clear(l, i); !slices.Equal(got, want) || e != api.OK {
		t.Fatalf("Clear(%v, %d) = %v, %d, want %v", l, i, got, e, want)
	}
}

func expectClearFails(t *testing.T, l []api.Slot, i int64, want api.Errno) {
	t.Helper()
	if got, e := Clear(l, i); got != nil || e != want {
		t.Fatalf("Clear(%.300v, %d) = %.300v, %d, want the error %d", l, i, got, e, want)
	}
}

func TestP10_1Valid(t *testing.T) {
	expectValid(t, nil)
	expectValid(t, []api.Slot{})
	expectValid(t, kinds())
	for _, s := range kinds() {
		expectValid(t, []api.Slot{s})
		expectValid(t, []api.Slot{s, s})
		expectValid(t, []api.Slot{none, s})
		expectValid(t, []api.Slot{s, none, none, s})
	}
}

func TestP10_1ValidIdentifiers(t *testing.T) {
	for _, id := range identifiers() {
		for _, s := range kinds() {
			s.Target = id
			expectValid(t, []api.Slot{s})
		}
		expectValid(t, []api.Slot{open(id, 5)})
		expectValid(t, []api.Slot{open(id, id)})
	}
}

func TestP10_1AtMostMaxSlots(t *testing.T) {
	for n := range 17 {
		expectValid(t, distinct(n))
		expectValid(t, slices.Repeat([]api.Slot{sem(5)}, n))
	}
	for n := 1; n <= 16; n++ {
		expectValid(t, append(make([]api.Slot, n-1), sem(5)))
	}
	for _, n := range []int{17, 18, 31, 32, 33, 256, 257, 1 << 16, 1<<16 + 1} {
		expectInvalid(t, distinct(n))
		expectInvalid(t, append(make([]api.Slot, n-1), sem(5)))
	}
}

// TestP10_1LengthIsNotThatOfTheMemory has room, and slots, beyond the length of the table.
func TestP10_1LengthIsNotThatOfTheMemory(t *testing.T) {
	expectValid(t, distinct(40)[:16])
	expectValid(t, []api.Slot{sem(5), none, {Kind: 9}}[:1])
	expectValid(t, []api.Slot{none, {Kind: 9}}[:0])
	expectValid(t, []api.Slot{{Kind: 9}, sem(5), none}[1:2])
	expectInvalid(t, []api.Slot{sem(5), none, sem(5)}[:2])
}

func TestP10_1LastIsNotNone(t *testing.T) {
	expectInvalid(t, []api.Slot{none})
	for n := range 16 {
		expectInvalid(t, append(distinct(n), none))
		expectInvalid(t, make([]api.Slot, n+1))
		expectInvalid(t, append(distinct(n), none, none))
	}
	expectInvalid(t, append(distinct(16), none))
}

func TestP10_1InvalidSlots(t *testing.T) {
	for _, s := range wrongSlots() {
		expectInvalid(t, []api.Slot{s})
		expectInvalid(t, []api.Slot{s, sem(5)})
		expectInvalid(t, []api.Slot{sem(5), s})
		expectPutFails(t, nil, s, api.ErrInvalid)
		expectPutFails(t, []api.Slot{none, sem(5)}, s, api.ErrInvalid)
		expectPutFails(t, distinct(16), s, api.ErrInvalid)
	}
}

func TestP10_1InvalidSlotAnywhere(t *testing.T) {
	for n := 1; n <= 16; n++ {
		for i := range n {
			for _, s := range []api.Slot{{Kind: 9, Target: 5}, {Kind: -1, Target: 5}, {Target: 5}, {End: 1}, {Kind: api.SlotSem}, end(5, 2), {Kind: api.SlotFile, Target: 5}} {
				expectInvalid(t, with(distinct(n), i, s))
			}
		}
	}
}

// TestP10_1Definition compares Valid with the definition for all tables of at most two small slots.
func TestP10_1Definition(t *testing.T) {
	expect := func(l ...api.Slot) {
		if Valid(l) != isValid(l) {
			t.Fatalf("Valid(%v) = %t", l, !isValid(l))
		}
	}
	for _, a := range small() {
		expect(a)
		for _, b := range small() {
			expect(a, b)
		}
		expect(sem(5), none, a)
		expect(none, a, sem(5))
	}
}

func TestP10_1Get(t *testing.T) {
	for n := range 17 {
		l := distinct(n)
		for i, s := range l {
			expectGet(t, l, int64(i), s)
			expectGetFails(t, with(l, i, none), int64(i))
		}
	}
}

func TestP10_1GetMissing(t *testing.T) {
	for n := range 17 {
		l := distinct(n)
		for i := int64(0); i < 40; i++ {
			expectGetFails(t, l, -1-i)
			expectGetFails(t, l, int64(n)+i)
		}
		for _, i := range []int64{math.MinInt64, math.MinInt64 + 1, -1 << 32, -1<<32 + 1, -1 << 31, 256, 257, 1 << 16, 1 << 31, 1 << 32, 1<<32 + 1, 1 << 62, math.MaxInt64} {
			expectGetFails(t, l, i)
		}
	}
	expectGetFails(t, []api.Slot{}, 0)
	expectGetFails(t, []api.Slot{sem(5), sem(6)}[:1], 1)
}

// TestP10_1GetLooksAtTablesAsTheyAre has tables that are not valid.
func TestP10_1GetLooksAtTablesAsTheyAre(t *testing.T) {
	for _, s := range small() {
		for _, l := range [][]api.Slot{{s}, {s, none}, {{Kind: 9}, s}, {none, s, {Kind: -1}}, append(make([]api.Slot, 40), s)} {
			i := int64(slices.Index(l, s))
			if s.Kind == api.SlotNone {
				expectGetFails(t, l, i)
			} else {
				expectGet(t, l, i, s)
			}
		}
	}
	for i, s := range distinct(40) {
		expectGet(t, distinct(40), int64(i), s)
	}
	expectGetFails(t, distinct(40), 40)
	expectGetFails(t, []api.Slot{sem(5), none}, 1)
	expectGetFails(t, []api.Slot{sem(5), {Target: 6}}, 1)
	expectGetFails(t, []api.Slot{sem(5), none}, -1)
}

func TestP10_2PutAtTheEnd(t *testing.T) {
	for n := range 16 {
		for _, s := range kinds() {
			expectPut(t, distinct(n), s, append(distinct(n), s), n)
		}
	}
	expectPut(t, []api.Slot{}, sem(5), []api.Slot{sem(5)}, 0)
	expectPut(t, []api.Slot{sem(5)}, sem(5), []api.Slot{sem(5), sem(5)}, 1)
}

func TestP10_2PutIntoTheFirstFreePlace(t *testing.T) {
	for n := 2; n <= 16; n++ {
		for i := range n - 1 {
			for _, s := range kinds() {
				l := with(distinct(n), i, none)
				expectPut(t, l, s, with(l, i, s), i)
				for j := range i {
					expectPut(t, with(l, j, none), s, with(l, j, s), j)
				}
			}
		}
	}
}

func TestP10_2PutExample(t *testing.T) {
	expectPut(t, []api.Slot{none, sem(5)}, reader(7), []api.Slot{reader(7), sem(5)}, 0)
}

func TestP10_2PutIntoAFullTable(t *testing.T) {
	for _, s := range kinds() {
		expectPutFails(t, distinct(16), s, api.ErrLimit)
		expectPut(t, distinct(15), s, append(distinct(15), s), 15)
		for i := range 15 {
			l := with(distinct(16), i, none)
			expectPut(t, l, s, with(l, i, s), i)
		}
	}
	expectPutFails(t, distinct(40)[:16], sem(5), api.ErrLimit)
}

// TestP10_2PutChecksInOrder has a full table, and a slot that is not valid.
func TestP10_2PutChecksInOrder(t *testing.T) {
	expectPutFails(t, distinct(16), none, api.ErrInvalid)
	expectPutFails(t, distinct(16), api.Slot{Kind: 9, Target: 5}, api.ErrInvalid)
	expectPutFails(t, distinct(17), sem(5), api.ErrInvalid)
	expectPutFails(t, with(distinct(16), 3, api.Slot{Kind: 9}), sem(5), api.ErrInvalid)
	expectPutFails(t, append(distinct(15), none), sem(5), api.ErrInvalid)
	expectPutFails(t, nil, none, api.ErrInvalid)
	expectPutFails(t, []api.Slot{none, sem(5)}, none, api.ErrInvalid)
	expectPutFails(t, []api.Slot{none}, sem(5), api.ErrInvalid)
}

func TestP10_2Clear(t *testing.T) {
	for n := 1; n <= 16; n++ {
		for i := range n - 1 {
			expectClear(t, distinct(n), int64(i), with(distinct(n), i, none)...)
		}
		expectClear(t, distinct(n), int64(n-1), distinct(n-1)...)
	}
}

// TestP10_2ClearTakesAwayTheEnd has free places before the slot that is cleared.
func TestP10_2ClearTakesAwayTheEnd(t *testing.T) {
	for n := range 16 {
		for free := range 16 - n {
			l := slices.Concat(distinct(n), make([]api.Slot, free), []api.Slot{sem(5)})
			expectClear(t, l, int64(n+free), distinct(n)...)
			if n >= 2 {
				expectClear(t, with(l, 0, none), int64(n+free), with(distinct(n), 0, none)...)
			}
			if n >= 1 {
				expectClear(t, l, int64(n-1), with(l, n-1, none)...)
			}
		}
	}
	expectClear(t, []api.Slot{none, none, sem(5)}, 2)
	expectClear(t, []api.Slot{sem(5), none, sem(6), none, sem(7)}, 4, sem(5), none, sem(6))
	expectClear(t, []api.Slot{sem(5), none, sem(6), none, sem(7)}, 2, sem(5), none, none, none, sem(7))
}

func TestP10_2ClearMissing(t *testing.T) {
	for n := range 17 {
		for _, i := range []int64{math.MinInt64, -1 << 32, -17, -2, -1, int64(n), int64(n) + 1, 17, 256, 1 << 32, 1<<32 + 1, math.MaxInt64} {
			expectClearFails(t, distinct(n), i, api.ErrMissing)
		}
		for i := range n - 1 {
			expectClearFails(t, with(distinct(n), i, none), int64(i), api.ErrMissing)
		}
	}
	expectClearFails(t, []api.Slot{}, 0, api.ErrMissing)
	expectClearFails(t, []api.Slot{sem(5), sem(6)}[:1], 1, api.ErrMissing)
}

func TestP10_2ClearChecksInOrder(t *testing.T) {
	expectClearFails(t, []api.Slot{sem(5), none}, 7, api.ErrInvalid)
	expectClearFails(t, []api.Slot{sem(5), none}, 1, api.ErrInvalid)
	expectClearFails(t, []api.Slot{sem(5), none}, 0, api.ErrInvalid)
	expectClearFails(t, []api.Slot{{Target: 5}, sem(5)}, 0, api.ErrInvalid)
	expectClearFails(t, []api.Slot{{Kind: 9}, sem(5)}, 0, api.ErrInvalid)
	expectClearFails(t, distinct(17), 16, api.ErrInvalid)
}

// everyTable calls f with all tables of at most n places, each of which has one of two slots or is free.
func everyTable(n int, f func(l []api.Slot)) {
	f(nil)
	tables := [][]api.Slot{nil}
	for range n {
		var longer [][]api.Slot
		for _, l := range tables {
			for _, s := range []api.Slot{none, sem(5), end(8, 1)} {
				longer = append(longer, append(slices.Clone(l), s))
			}
		}
		tables = longer
		for _, l := range tables {
			if isValid(l) {
				f(l)
			}
		}
	}
}

func TestConsequencesOfPut(t *testing.T) {
	s := open(6, 5)
	everyTable(6, func(l []api.Slot) {
		put, at, e := Put(l, s)
		if e != api.OK {
			t.Fatalf("Put(%v, %v): error %d", l, s, e)
		}
		expectValid(t, put)
		expectGet(t, put, int64(at), s)
		expectGetFails(t, l, int64(at))
		for i := int64(-1); i <= 20; i++ {
			was, e := Get(l, i)
			switch {
			case i == int64(at):
			case e == api.OK:
				expectGet(t, put, i, was)
			default:
				expectGetFails(t, put, i)
			}
		}
		expectClear(t, put, int64(at), l...)
	})
}

func TestConsequencesOfClear(t *testing.T) {
	everyTable(6, func(l []api.Slot) {
		for at, s := range l {
			if s == none {
				continue
			}
			cleared, e := Clear(l, int64(at))
			if e != api.OK {
				t.Fatalf("Clear(%v, %d): error %d", l, at, e)
			}
			expectValid(t, cleared)
			for i := range l {
				was, e := Get(l, int64(i))
				if i == at || e != api.OK {
					expectGetFails(t, cleared, int64(i))
				} else {
					expectGet(t, cleared, int64(i), was)
				}
			}
		}
	})
}

// TestP1TablesAreNotChanged has slots beyond the length of each table, of which everything is looked at.
func TestP1TablesAreNotChanged(t *testing.T) {
	for n := range 20 {
		for free := -1; free < n; free++ {
			l := distinct(40)[:n]
			if free >= 0 {
				l[free] = none
			}
			want := wholeTable(l)
			for i := int64(-1); i <= 21; i++ {
				Valid(l)
				Get(l, i)
				Put(l, sem(5))
				Put(l, none)
				Clear(l, i)
				if got := wholeTable(l); !slices.Equal(got, want) {
					t.Fatalf("the table is %v, want %v", got, want)
				}
			}
		}
	}
}

// TestP1TablesShareNoMemory overwrites each result, and expects its argument and other results as they were.
func TestP1TablesShareNoMemory(t *testing.T) {
	for n := 2; n < 16; n++ {
		for _, l := range [][]api.Slot{distinct(40)[:n], with(distinct(40), 0, none)[:n]} {
			want := wholeTable(l)
			put, at, _ := Put(l, sem(5))
			again, _, _ := Put(l, sem(5))
			wantPut := slices.Clone(put)
			wipe(reflect.ValueOf(again))
			if !slices.Equal(put, wantPut) {
				t.Fatalf("two results share memory: %v", put)
			}
			wipe(reflect.ValueOf(put))
			expectPut(t, l, sem(5), wantPut, at)
			for i := 1; i < n; i++ {
				cleared, _ := Clear(l, int64(i))
				wantCleared := slices.Clone(cleared)
				again, _ := Clear(l, int64(i))
				wipe(reflect.ValueOf(again))
				if !slices.Equal(cleared, wantCleared) {
					t.Fatalf("two results share memory: %v", cleared)
				}
				wipe(reflect.ValueOf(cleared))
				expectClear(t, l, int64(i), wantCleared...)
			}
			if got := wholeTable(l); !slices.Equal(got, want) {
				t.Fatalf("a result shares memory with its argument: %v, want %v", got, want)
			}
		}
	}
}

// TestP1WhatLiesBeyondATableIsNotLookedAt gives the same tables with other memory behind them.
func TestP1WhatLiesBeyondATableIsNotLookedAt(t *testing.T) {
	for _, beyond := range []api.Slot{none, sem(5), {Kind: 9}} {
		l := []api.Slot{none, sem(7), beyond, beyond}[:2]
		expectValid(t, l)
		expectGetFails(t, l, 2)
		expectPut(t, l, reader(9), []api.Slot{reader(9), sem(7)}, 0)
		expectClear(t, l, 1)
		expectPut(t, l[1:], reader(9), []api.Slot{sem(7), reader(9)}, 1)
		expectPut(t, l[:0], reader(9), []api.Slot{reader(9)}, 0)
	}
}

func TestP1SameTablesSameResults(t *testing.T) {
	l := []api.Slot{sem(5), none, reader(7)}
	for range 3 {
		expectValid(t, l)
		expectGet(t, l, 2, reader(7))
		expectPut(t, l, writer(7), []api.Slot{sem(5), writer(7), reader(7)}, 1)
		expectClear(t, l, 2, sem(5))
		expectPutFails(t, l, end(5, 2), api.ErrInvalid)
		expectClearFails(t, l, 1, api.ErrMissing)
	}
}
