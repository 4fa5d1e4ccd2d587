package device

import (
	"math"
	"math/big"
	"reflect"
	"testing"

	"clusterkernel/api"
)

// withCount is the device 7 with a count.
func withCount(count int64) api.Object {
	return api.Object{ID: 7, Kind: api.KindDevice, Count: count}
}

// identifiers are some of those that an object can have.
func identifiers() []uint64 {
	return []uint64{1, 2, 7, 1<<32 - 1, 1 << 32, 1<<57 + 5, 1<<63 - 1, 1 << 63, math.MaxUint64}
}

// counts are some that a device can have, and that it can be asked to add: any of 64 bits.
func counts() []int64 {
	return []int64{0, 1, 2, 3, 5, 255, 256, 1<<30 - 1, 1 << 30, 1<<30 + 1, 1<<31 - 1, 1 << 31, 1 << 32, 1<<53 + 1, 1 << 62, math.MaxInt64 - 1, math.MaxInt64,
		-1, -2, -3, -5, -256, -1<<30 - 1, -1 << 31, -1 << 32, -1<<53 - 1, -1 << 62, math.MinInt64 + 1, math.MinInt64}
}

// sum is a + b modulo 2^64, with the sign of a register.
func sum(a, b int64) int64 {
	exact := new(big.Int).Add(big.NewInt(a), big.NewInt(b))
	modulus := new(big.Int).Lsh(big.NewInt(1), 64)
	least := new(big.Int).Mod(exact, modulus)
	if !least.IsInt64() {
		least.Sub(least, modulus)
	}
	return least.Int64()
}

// otherKinds are all kinds around those of objects but that of a device, and some whose low bits are those of this one.
func otherKinds() []int {
	list := []int{math.MinInt64, -1 << 32, api.KindDevice - 256, api.KindDevice + 256, api.KindDevice + 1<<32, math.MaxInt64}
	for kind := -20; kind <= 20; kind++ {
		if kind != api.KindDevice {
			list = append(list, kind)
		}
	}
	return list
}

// expectDevice compares all fields, and nil differs from an empty list: the lists have to be nil, as memory of their own would be of no use.
func expectDevice(t *testing.T, got api.Object, id uint64, count int64) {
	t.Helper()
	if want := (api.Object{ID: id, Kind: api.KindDevice, Count: count}); !reflect.DeepEqual(got, want) {
		t.Fatalf("the device is %v, want %v", got, want)
	}
}

func expectDo(t *testing.T, o api.Object, value, answer, count int64) {
	t.Helper()
	n, x, e := Do(o, value)
	if n != answer || e != api.OK {
		t.Fatalf("Do(%v, %d) answers %d (error %d), want %d", o, value, n, e, answer)
	}
	expectDevice(t, x, o.ID, count)
	if !Valid(x) {
		t.Fatalf("Do(%v, %d) leaves %v, which is not valid", o, value, x)
	}
}

func expectDoFails(t *testing.T, o api.Object, value int64) {
	t.Helper()
	n, x, e := Do(o, value)
	if n != 0 || e != api.ErrInvalid || !reflect.DeepEqual(x, api.Object{}) {
		t.Fatalf("Do(%v, %d) is %d, %v and the error %d, want the error %d alone", o, value, n, x, e, api.ErrInvalid)
	}
}

// expectValid expects of o what the chapter says of any valid device.
func expectValid(t *testing.T, o api.Object) {
	t.Helper()
	if !Valid(o) {
		t.Fatalf("Valid(%v) = false", o)
	}
	for _, value := range []int64{0, 5, -5} {
		expectDo(t, o, value, o.Count, sum(o.Count, value))
	}
}

func expectInvalid(t *testing.T, o api.Object) {
	t.Helper()
	if Valid(o) {
		t.Fatalf("Valid(%v) = true", o)
	}
	for _, value := range []int64{0, 5, -o.Count} {
		expectDoFails(t, o, value)
	}
}

// expectAlwaysInvalid changes devices with all counts, and expects that none of them is a device any more.
func expectAlwaysInvalid(t *testing.T, change func(o *api.Object)) {
	t.Helper()
	for _, count := range counts() {
		for _, o := range []api.Object{withCount(count), withLists(withCount(count), 0)} {
			change(&o)
			expectInvalid(t, o)
		}
	}
}

func TestP17_1New(t *testing.T) {
	for _, id := range identifiers() {
		o := New(id)
		expectDevice(t, o, id, 0)
		expectValid(t, o)
	}
	for bit := range 64 {
		o := New(1 << bit)
		expectDevice(t, o, 1<<bit, 0)
		expectValid(t, o)
	}
}

// TestP17_1NewWithoutIdentifier has the identifier 0, for which the chapter names no error: the result has it, and is not valid.
func TestP17_1NewWithoutIdentifier(t *testing.T) {
	o := New(0)
	expectDevice(t, o, 0, 0)
	expectInvalid(t, o)
}

func TestP17_1ValidWithAnyIdentifierAndCount(t *testing.T) {
	for _, id := range identifiers() {
		for _, count := range counts() {
			expectValid(t, api.Object{ID: id, Kind: api.KindDevice, Count: count})
		}
	}
	for bit := range 64 {
		expectValid(t, api.Object{ID: 1 << bit, Kind: api.KindDevice, Count: 1 << bit})
		expectValid(t, withCount(-1<<bit))
		expectValid(t, withCount(1<<bit-1))
	}
}

func TestP17_1InvalidKind(t *testing.T) {
	for _, kind := range otherKinds() {
		expectAlwaysInvalid(t, func(o *api.Object) { o.Kind = kind })
	}
}

func TestP17_1InvalidIdentifier(t *testing.T) {
	expectAlwaysInvalid(t, func(o *api.Object) { o.ID = 0 })
}

func TestP17_1InvalidOtherFields(t *testing.T) {
	for _, count := range counts() {
		for _, o := range []api.Object{withCount(count), withLists(withCount(count), 0)} {
			for _, x := range changedElsewhere(o) {
				expectInvalid(t, x)
			}
		}
	}
}

// TestP17_1SeveralThingsAreWrong has objects of which two parts are wrong, so that neither makes up for the other.
func TestP17_1SeveralThingsAreWrong(t *testing.T) {
	for _, x := range changedElsewhere(withCount(7)) {
		for _, y := range changedElsewhere(x) {
			if Valid(y) {
				t.Fatalf("Valid(%v) = true", y)
			}
		}
		for _, kind := range []int{0, api.KindSemaphore, api.KindDevice} {
			x.ID, x.Kind = 0, kind
			expectInvalid(t, x)
		}
	}
}

func TestP17_1InvalidOtherObjects(t *testing.T) {
	expectInvalid(t, api.Object{})
	expectInvalid(t, api.Object{ID: 7})
	expectInvalid(t, api.Object{Kind: api.KindDevice})
	expectInvalid(t, api.Object{Kind: api.KindDevice, Count: 3})
	expectInvalid(t, api.Object{ID: 7, Count: 3})
	expectInvalid(t, api.Object{ID: 7, Kind: api.KindSemaphore, Count: 3})
	expectInvalid(t, api.Object{ID: 7, Kind: api.KindPipe, Readers: 1, Writers: 1})
	expectInvalid(t, api.Object{ID: 7, Kind: api.KindPort, Refs: 1})
	expectInvalid(t, api.Object{ID: 7, Kind: api.KindPage, Words: make([]int64, api.PageWords)})
	expectInvalid(t, api.Object{ID: 7, Kind: api.KindProcess, Process: api.Process{State: api.Alive}})
	for n := range room {
		expectInvalid(t, withLists(withCount(3), n+1))
	}
}

func TestP17_1EmptyListsAreZero(t *testing.T) {
	for _, count := range counts() {
		expectValid(t, withLists(withCount(count), 0))
	}
	expectInvalid(t, withLists(api.Object{ID: 7}, 0))
	expectInvalid(t, withLists(api.Object{Kind: api.KindDevice}, 0))
}

func TestP17_2Do(t *testing.T) {
	expectDo(t, withCount(0), 0, 0, 0)
	expectDo(t, withCount(0), 5, 0, 5)
	expectDo(t, withCount(5), 7, 5, 12)
	expectDo(t, withCount(5), -7, 5, -2)
	expectDo(t, withCount(-2), -3, -2, -5)
	for _, id := range identifiers() {
		for _, count := range counts() {
			for _, value := range counts() {
				expectDo(t, api.Object{ID: id, Kind: api.KindDevice, Count: count}, value, count, sum(count, value))
			}
		}
	}
}

func TestP17_2Modulo(t *testing.T) {
	expectDo(t, withCount(math.MaxInt64), 1, math.MaxInt64, math.MinInt64)
	expectDo(t, withCount(math.MinInt64), -1, math.MinInt64, math.MaxInt64)
	expectDo(t, withCount(math.MaxInt64), math.MaxInt64, math.MaxInt64, -2)
	expectDo(t, withCount(math.MinInt64), math.MinInt64, math.MinInt64, 0)
	expectDo(t, withCount(math.MaxInt64), math.MinInt64, math.MaxInt64, -1)
	expectDo(t, withCount(math.MinInt64), math.MaxInt64, math.MinInt64, -1)
	expectDo(t, withCount(5), math.MaxInt64, 5, math.MinInt64+4)
	for bit := range 64 {
		expectDo(t, withCount(1<<bit), 1<<bit, 1<<bit, 1<<bit<<1)
		expectDo(t, withCount(1<<bit), -1<<bit, 1<<bit, 0)
	}
}

// TestP17_2Invalid has all values, also those after which the count is 0.
func TestP17_2Invalid(t *testing.T) {
	for _, value := range counts() {
		expectDoFails(t, api.Object{}, value)
		expectDoFails(t, api.Object{ID: 7, Kind: api.KindSemaphore, Count: -value}, value)
		expectDoFails(t, api.Object{Kind: api.KindDevice, Count: value}, value)
		for _, o := range changedElsewhere(withCount(-value)) {
			expectDoFails(t, o, value)
		}
	}
}

func TestP17_2Example(t *testing.T) {
	n, o, e := Do(New(7), 5)
	if n != 0 || e != api.OK {
		t.Fatalf("the first answer is %d (error %d)", n, e)
	}
	expectDo(t, o, 5, 5, 10)
}

// TestConsequenceHowOften asks with 1 each time: each answer is how often the device was asked before.
func TestConsequenceHowOften(t *testing.T) {
	for _, id := range identifiers() {
		o := New(id)
		for i := range int64(300) {
			expectDo(t, o, 1, i, i+1)
			_, o, _ = Do(o, 1)
		}
	}
}

// TestConsequenceWithWhat asks with other values each time: the next answer tells with what the device was asked.
func TestConsequenceWithWhat(t *testing.T) {
	o, before := New(7), int64(0)
	for _, a := range counts() {
		for _, b := range counts() {
			value := a ^ b<<7
			expectDo(t, o, value, before, sum(before, value))
			_, o, _ = Do(o, value)
			answer, _, _ := Do(o, 0)
			if got := answer - before; got != value { // modulo 2^64, as its sum was
				t.Fatalf("from %d to %d it was asked with %d, want %d", before, answer, got, value)
			}
			before = answer
		}
	}
}

// TestConsequenceTwiceIsSeen asks once more than the other device was asked: all answers after that differ.
func TestConsequenceTwiceIsSeen(t *testing.T) {
	for _, value := range counts()[1:] {
		_, once, _ := Do(New(7), value)
		_, twice, _ := Do(once, value)
		expectDo(t, once, 3, value, sum(value, 3))
		expectDo(t, twice, 3, sum(value, value), sum(sum(value, value), 3))
		if once.Count == twice.Count {
			t.Fatalf("asked with %d, both devices have the count %d", value, once.Count)
		}
	}
}

// TestP1NothingIsChanged has lists with memory beyond their lengths: empty ones, as a device may have, and others.
func TestP1NothingIsChanged(t *testing.T) {
	for n := range room + 1 {
		for _, count := range counts() {
			o, want := withLists(withCount(count), n), withLists(withCount(count), n)
			Valid(o)
			Do(o, 5)
			Do(o, -count)
			if !reflect.DeepEqual(o, want) {
				t.Fatalf("the device is %v, want %v", o, want)
			}
			if !reflect.DeepEqual(withAllMemory(o), withAllMemory(want)) {
				t.Fatalf("the memory of the device is %v, want %v", withAllMemory(o), withAllMemory(want))
			}
		}
	}
}

// TestP1ResultsShareNoMemory has an argument whose empty lists have memory, and expects none in the results.
func TestP1ResultsShareNoMemory(t *testing.T) {
	_, asked, _ := Do(withLists(withCount(3), 0), 5)
	expectDevice(t, asked, 7, 8)
	for _, x := range []api.Object{asked, New(7)} {
		eachPart(reflect.ValueOf(&x).Elem(), "", func(path string, part reflect.Value) {
			if part.Kind() == reflect.Slice && part.Cap() != 0 {
				t.Errorf("%s has room for %d", path, part.Cap())
			}
		})
	}
}

// TestP1ResultsAreApart changes each result, and expects other results as they were.
func TestP1ResultsAreApart(t *testing.T) {
	a, b := New(7), New(7)
	_, x, _ := Do(a, 5)
	_, y, _ := Do(a, 5)
	a.Count, a.ID = 9, 1
	expectDevice(t, b, 7, 0)
	expectDevice(t, x, 7, 5)
	x.Count, x.Ends[1] = 20, 1
	expectDevice(t, y, 7, 5)
	expectDo(t, b, 5, 0, 5)
}

func TestP1SameArgumentsSameResults(t *testing.T) {
	for range 3 {
		expectDevice(t, New(7), 7, 0)
		expectDo(t, withCount(3), 5, 3, 8)
		expectValid(t, withCount(3))
		expectInvalid(t, api.Object{ID: 7, Count: 3})
	}
}
