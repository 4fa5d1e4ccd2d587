package semaphore

import (
	"math"
	"reflect"
	"testing"

	"clusterkernel/api"
)

// withCount is the semaphore 7 with a count.
func withCount(count int64) api.Object {
	return api.Object{ID: 7, Kind: api.KindSemaphore, Count: count}
}

// identifiers are some of those that an object can have.
func identifiers() []uint64 {
	return []uint64{1, 2, 7, 1<<32 - 1, 1 << 32, 1<<57 + 5, 1<<63 - 1, 1 << 63, math.MaxUint64}
}

// counts are some that a semaphore can have.
func counts() []int64 {
	return []int64{0, 1, 2, 3, 16, 127, 128, 255, 256, 257, 1<<15 - 1, 1 << 16, 1<<29 - 1, 1<<29 + 1, 1<<30 - 2, 1<<30 - 1, 1 << 30}
}

// noCounts are some that no semaphore has. The low bits of some would do.
func noCounts() []int64 {
	return []int64{math.MinInt64, math.MinInt64 + 1, -1 << 32, -1<<32 + 1, -1 << 31, -1<<30 - 1, -1 << 30, -256, -2, -1,
		1<<30 + 1, 1<<30 + 2, 1<<31 - 1, 1 << 31, 1 << 32, 1<<32 + 1, 1<<62 + 7, math.MaxInt64 - 1, math.MaxInt64}
}

// otherKinds are all kinds around those of objects but that of a semaphore, and some whose low bits are those of this one.
func otherKinds() []int {
	list := []int{math.MinInt64, -1 << 32, api.KindSemaphore - 256, api.KindSemaphore + 256, api.KindSemaphore + 1<<32, math.MaxInt64}
	for kind := -20; kind <= 20; kind++ {
		if kind != api.KindSemaphore {
			list = append(list, kind)
		}
	}
	return list
}

// expectSemaphore compares all fields, and nil differs from an empty list: the lists have to be nil, as memory of their own would be of no use.
func expectSemaphore(t *testing.T, got api.Object, e api.Errno, id uint64, count int64) {
	t.Helper()
	if want := (api.Object{ID: id, Kind: api.KindSemaphore, Count: count}); e != api.OK || !reflect.DeepEqual(got, want) {
		t.Fatalf("the semaphore is %v (error %d), want %v", got, e, want)
	}
}

func expectError(t *testing.T, got api.Object, e, want api.Errno) {
	t.Helper()
	if e != want || !reflect.DeepEqual(got, api.Object{}) {
		t.Fatalf("the result is %v and the error %d, want the error %d alone", got, e, want)
	}
}

func expectDown(t *testing.T, o api.Object, count int64) {
	t.Helper()
	x, e := Down(o)
	expectSemaphore(t, x, e, o.ID, count)
}

func expectDownFails(t *testing.T, o api.Object, want api.Errno) {
	t.Helper()
	x, e := Down(o)
	expectError(t, x, e, want)
}

func expectUp(t *testing.T, o api.Object, count int64) {
	t.Helper()
	x, e := Up(o)
	expectSemaphore(t, x, e, o.ID, count)
}

func expectUpFails(t *testing.T, o api.Object, want api.Errno) {
	t.Helper()
	x, e := Up(o)
	expectError(t, x, e, want)
}

// expectValid expects of o what the chapter says of any valid semaphore.
func expectValid(t *testing.T, o api.Object) {
	t.Helper()
	if !Valid(o) {
		t.Fatalf("Valid(%v) = false", o)
	}
	if o.Count == 0 {
		expectDownFails(t, o, api.ErrWait)
	} else {
		expectDown(t, o, o.Count-1)
	}
	if o.Count == 1<<30 {
		expectUpFails(t, o, api.ErrLimit)
	} else {
		expectUp(t, o, o.Count+1)
	}
}

// expectInvalid expects ErrInvalid also where other errors apply too.
func expectInvalid(t *testing.T, o api.Object) {
	t.Helper()
	if Valid(o) {
		t.Fatalf("Valid(%v) = true", o)
	}
	expectDownFails(t, o, api.ErrInvalid)
	expectUpFails(t, o, api.ErrInvalid)
}

// expectAlwaysInvalid changes semaphores with all counts, and expects that none of them is a semaphore any more.
func expectAlwaysInvalid(t *testing.T, change func(o *api.Object)) {
	t.Helper()
	for _, count := range counts() {
		for _, o := range []api.Object{withCount(count), withLists(withCount(count), 0)} {
			change(&o)
			expectInvalid(t, o)
		}
	}
}

func TestP13_1New(t *testing.T) {
	for _, id := range identifiers() {
		for _, count := range counts() {
			o, e := New(id, count)
			expectSemaphore(t, o, e, id, count)
			expectValid(t, o)
		}
	}
}

// TestP13_1NewInvalid has counts that are out of range too: that the identifier is 0 comes first.
func TestP13_1NewInvalid(t *testing.T) {
	for _, count := range append(counts(), noCounts()...) {
		o, e := New(0, count)
		expectError(t, o, e, api.ErrInvalid)
	}
}

func TestP13_1NewRange(t *testing.T) {
	for _, id := range identifiers() {
		for _, count := range noCounts() {
			o, e := New(id, count)
			expectError(t, o, e, api.ErrRange)
		}
	}
}

func TestP13_1ValidWithAnyIdentifierAndCount(t *testing.T) {
	for _, id := range identifiers() {
		for _, count := range counts() {
			expectValid(t, api.Object{ID: id, Kind: api.KindSemaphore, Count: count})
		}
	}
	for bit := range 64 {
		expectValid(t, api.Object{ID: 1 << bit, Kind: api.KindSemaphore})
	}
	for bit := range 31 {
		expectValid(t, withCount(1<<bit))
	}
}

func TestP13_1InvalidCount(t *testing.T) {
	for _, count := range noCounts() {
		expectInvalid(t, withCount(count))
		expectInvalid(t, withLists(withCount(count), 0))
	}
	for bit := range 33 {
		expectInvalid(t, withCount(1<<bit+1<<30))
		expectInvalid(t, withCount(-1<<bit))
	}
}

func TestP13_1InvalidKind(t *testing.T) {
	for _, kind := range otherKinds() {
		expectAlwaysInvalid(t, func(o *api.Object) { o.Kind = kind })
	}
}

func TestP13_1InvalidIdentifier(t *testing.T) {
	expectAlwaysInvalid(t, func(o *api.Object) { o.ID = 0 })
}

func TestP13_1InvalidOtherFields(t *testing.T) {
	for _, count := range counts() {
		for _, o := range []api.Object{withCount(count), withLists(withCount(count), 0)} {
			for _, x := range changedElsewhere(o) {
				expectInvalid(t, x)
			}
		}
	}
}

// TestP13_1SeveralThingsAreWrong has objects of which two parts are wrong, so that neither makes up for the other.
func TestP13_1SeveralThingsAreWrong(t *testing.T) {
	for _, x := range changedElsewhere(withCount(7)) {
		for _, y := range changedElsewhere(x) {
			if Valid(y) {
				t.Fatalf("Valid(%v) = true", y)
			}
		}
	}
	for _, count := range noCounts() {
		for _, o := range append(changedElsewhere(withCount(count)), withCount(count)) {
			expectInvalid(t, o)
			for _, kind := range []int{0, api.KindDevice, api.KindSemaphore} {
				o.ID, o.Kind = 0, kind
				expectInvalid(t, o)
			}
		}
	}
}

func TestP13_1InvalidOtherObjects(t *testing.T) {
	expectInvalid(t, api.Object{})
	expectInvalid(t, api.Object{ID: 7})
	expectInvalid(t, api.Object{Kind: api.KindSemaphore})
	expectInvalid(t, api.Object{Kind: api.KindSemaphore, Count: 3})
	expectInvalid(t, api.Object{ID: 7, Count: 3})
	expectInvalid(t, api.Object{ID: 7, Kind: api.KindDevice, Count: 3})
	expectInvalid(t, api.Object{ID: 7, Kind: api.KindPipe, Readers: 1, Writers: 1})
	expectInvalid(t, api.Object{ID: 7, Kind: api.KindPort, Refs: 1})
	expectInvalid(t, withLists(withCount(3), 1))
	expectInvalid(t, withLists(withCount(3), room))
}

func TestP13_1EmptyListsAreZero(t *testing.T) {
	for _, count := range counts() {
		expectValid(t, withLists(withCount(count), 0))
	}
	expectInvalid(t, withLists(api.Object{ID: 7}, 0))
	expectInvalid(t, withLists(withCount(-1), 0))
}

func TestP13_2Down(t *testing.T) {
	expectDown(t, withCount(1), 0)
	expectDown(t, withCount(2), 1)
	expectDown(t, withCount(1<<30), 1<<30-1)
	for _, id := range identifiers() {
		for _, count := range counts()[1:] {
			expectDown(t, api.Object{ID: id, Kind: api.KindSemaphore, Count: count}, count-1)
		}
	}
}

func TestP13_2DownWaits(t *testing.T) {
	for _, id := range identifiers() {
		o := api.Object{ID: id, Kind: api.KindSemaphore}
		expectDownFails(t, o, api.ErrWait)
		expectDownFails(t, withLists(o, 0), api.ErrWait)
	}
}

func TestP13_2Example(t *testing.T) {
	o, _ := New(5, 0)
	expectDownFails(t, o, api.ErrWait)
}

func TestP13_2Up(t *testing.T) {
	expectUp(t, withCount(0), 1)
	expectUp(t, withCount(1), 2)
	expectUp(t, withCount(1<<30-1), 1<<30)
	for _, id := range identifiers() {
		for _, count := range counts()[:len(counts())-1] {
			expectUp(t, api.Object{ID: id, Kind: api.KindSemaphore, Count: count}, count+1)
		}
	}
}

func TestP13_2UpLimit(t *testing.T) {
	for _, id := range identifiers() {
		o := api.Object{ID: id, Kind: api.KindSemaphore, Count: 1 << 30}
		expectUpFails(t, o, api.ErrLimit)
		expectUpFails(t, withLists(o, 0), api.ErrLimit)
	}
}

// TestP13_2InvalidComesFirst has objects whose counts are at an end too: that they are no semaphores comes first.
func TestP13_2InvalidComesFirst(t *testing.T) {
	for _, count := range []int64{0, 1 << 30} {
		for _, o := range changedElsewhere(withCount(count)) {
			expectDownFails(t, o, api.ErrInvalid)
			expectUpFails(t, o, api.ErrInvalid)
		}
		for _, o := range []api.Object{{Count: count}, {ID: 7, Count: count}, {Kind: api.KindSemaphore, Count: count}} {
			expectDownFails(t, o, api.ErrInvalid)
			expectUpFails(t, o, api.ErrInvalid)
		}
	}
}

// TestP13_2InvalidByOne has counts that are invalid, but would not be so after the change.
func TestP13_2InvalidByOne(t *testing.T) {
	expectUpFails(t, withCount(-1), api.ErrInvalid)
	expectDownFails(t, withCount(1<<30+1), api.ErrInvalid)
	expectDownFails(t, withCount(math.MinInt64), api.ErrInvalid)
	expectUpFails(t, withCount(math.MaxInt64), api.ErrInvalid)
}

func TestConsequenceDownAfterUp(t *testing.T) {
	for _, count := range counts() {
		for _, o := range []api.Object{withCount(count), withLists(withCount(count), 0)} {
			if up, e := Up(o); e == api.OK {
				expectDown(t, up, count)
			} else if count != 1<<30 {
				t.Fatalf("Up(%v) is the error %d", o, e)
			}
			if down, e := Down(o); e == api.OK {
				expectUp(t, down, count)
			} else if count != 0 {
				t.Fatalf("Down(%v) is the error %d", o, e)
			}
		}
	}
}

// TestConsequenceNeverNegative goes up and down now and then, and compares the count with a number each time.
func TestConsequenceNeverNegative(t *testing.T) {
	for _, count := range []int64{0, 3, 1<<30 - 3, 1 << 30} {
		for seed := range 40 {
			o, want := withCount(count), count
			for i := range 300 {
				o, want = stepped(t, o, want, (i*i*7+i*seed)%(13+seed) < 6)
				if o.Count < 0 || o.Count > 1<<30 {
					t.Fatalf("the count is %d", o.Count)
				}
				expectSemaphore(t, o, api.OK, 7, want)
				expectValid(t, o)
			}
		}
	}
}

// stepped goes up or down with a semaphore and with the count that it has to have, unless it cannot.
func stepped(t *testing.T, o api.Object, count int64, up bool) (api.Object, int64) {
	t.Helper()
	change, difference, end, want := Down, int64(-1), int64(0), api.ErrWait
	if up {
		change, difference, end, want = Up, 1, 1<<30, api.ErrLimit
	}
	x, e := change(o)
	if count == end {
		expectError(t, x, e, want)
		return o, count
	}
	if e != api.OK {
		t.Fatalf("a change of %v by %d is the error %d", o, difference, e)
	}
	return x, count + difference
}

// TestConsequenceAsOftenAsUp goes down as often as it went up, and not once more.
func TestConsequenceAsOftenAsUp(t *testing.T) {
	for n := range int64(300) {
		o := withCount(0)
		for i := range n {
			expectUp(t, o, i+1)
			o, _ = Up(o)
		}
		for i := range n {
			expectDown(t, o, n-i-1)
			o, _ = Down(o)
		}
		expectDownFails(t, o, api.ErrWait)
	}
}

// TestP1NothingIsChanged has lists with memory beyond their lengths: empty ones, as a semaphore may have, and others.
func TestP1NothingIsChanged(t *testing.T) {
	for n := range room + 1 {
		for _, count := range append(counts(), noCounts()...) {
			o, want := withLists(withCount(count), n), withLists(withCount(count), n)
			Valid(o)
			Down(o)
			Up(o)
			if !reflect.DeepEqual(o, want) {
				t.Fatalf("the semaphore is %v, want %v", o, want)
			}
			if !reflect.DeepEqual(withAllMemory(o), withAllMemory(want)) {
				t.Fatalf("the memory of the semaphore is %v, want %v", withAllMemory(o), withAllMemory(want))
			}
		}
	}
}

// TestP1ResultsShareNoMemory has arguments whose empty lists have memory, and expects none in the results.
func TestP1ResultsShareNoMemory(t *testing.T) {
	o := withLists(withCount(3), 0)
	down, e := Down(o)
	expectSemaphore(t, down, e, 7, 2)
	up, e := Up(o)
	expectSemaphore(t, up, e, 7, 4)
	for _, x := range []api.Object{down, up} {
		eachPart(reflect.ValueOf(&x).Elem(), "", func(path string, part reflect.Value) {
			if part.Kind() == reflect.Slice && part.Cap() != 0 {
				t.Errorf("%s has room for %d", path, part.Cap())
			}
		})
	}
}

// TestP1ResultsAreApart changes each result, and expects other results as they were.
func TestP1ResultsAreApart(t *testing.T) {
	a, _ := New(7, 3)
	b, _ := New(7, 3)
	up, _ := Up(a)
	down, _ := Down(a)
	a.Count, a.ID = 9, 1
	expectSemaphore(t, b, api.OK, 7, 3)
	expectSemaphore(t, up, api.OK, 7, 4)
	up.Count = 20
	expectSemaphore(t, down, api.OK, 7, 2)
	expectUp(t, b, 4)
	expectDown(t, b, 2)
}

func TestP1SameArgumentsSameResults(t *testing.T) {
	o := withCount(3)
	for range 3 {
		expectUp(t, o, 4)
		expectDown(t, o, 2)
		expectValid(t, o)
		expectDownFails(t, withCount(0), api.ErrWait)
		expectUpFails(t, withCount(1<<30), api.ErrLimit)
		expectInvalid(t, withCount(-1))
		x, e := New(7, 3)
		expectSemaphore(t, x, e, 7, 3)
		x, e = New(7, -1)
		expectError(t, x, e, api.ErrRange)
	}
}
