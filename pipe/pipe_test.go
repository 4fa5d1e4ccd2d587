package pipe

import (
	"bytes"
	"math"
	"reflect"
	"strings"
	"testing"

	"clusterkernel/api"
)

func identifiers() []uint64 {
	return []uint64{1, 2, 7, 1<<32 - 1, 1 << 32, 1<<57 + 5, 1<<63 - 1, 1 << 63, math.MaxUint64}
}

// counts are how many readers, or writers, a pipe can have.
func counts() []int {
	return []int{0, 1, 2, 3, 16, 255, 256, 1 << 16, 1<<29 + 1, 1<<30 - 1, 1 << 30}
}

// noCounts are numbers of readers that no pipe has. The low bits of some would do.
func noCounts() []int {
	return []int{math.MinInt64, math.MinInt64 + 1, -1 << 32, -1<<32 + 1, -1 << 31, -1 << 30, -256, -2, -1,
		1<<30 + 1, 1<<30 + 2, 1<<31 - 1, 1 << 31, 1 << 32, 1<<32 + 1, 1 << 62, math.MaxInt64}
}

// withData is the pipe 7 with some readers, some writers, and these bytes.
func withData(readers, writers int, data string) api.Object {
	return api.Object{ID: 7, Kind: api.KindPipe, Readers: readers, Writers: writers, Data: []byte(data)}
}

// series are n bytes, of which none is 0 and none is that before it.
func series(n int) string {
	var data []byte
	for i := range n {
		data = append(data, byte(i%251)+5)
	}
	return string(data)
}

// filled is a pipe with n bytes.
func filled(n int) api.Object {
	return withData(2, 3, series(n))
}

// expectPipe expects o but for its bytes, which are given. The lists that a pipe does not use have to be nil: memory of their own would be of no use.
func expectPipe(t *testing.T, got, o api.Object, data string) {
	t.Helper()
	if string(got.Data) != data {
		t.Fatalf("the bytes are %q, want %q", got.Data, data)
	}
	got.Data = nil
	if want := (api.Object{ID: o.ID, Kind: api.KindPipe, Readers: o.Readers, Writers: o.Writers}); !reflect.DeepEqual(got, want) {
		t.Fatalf("the pipe is %v and its bytes, want %v", got, want)
	}
}

func expectRead(t *testing.T, o api.Object, want int64, left string) {
	t.Helper()
	n, x, e := Read(o)
	if n != want || e != api.OK {
		t.Fatalf("Read(%v) = %d and the error %d, want %d", o, n, e, want)
	}
	expectPipe(t, x, o, left)
}

func expectReadFails(t *testing.T, o api.Object, want api.Errno) {
	t.Helper()
	if n, x, e := Read(o); n != 0 || !reflect.DeepEqual(x, api.Object{}) || e != want {
		t.Fatalf("Read(%v) = %d, %v, %d, want the error %d", o, n, x, e, want)
	}
}

func expectWrite(t *testing.T, o api.Object, c byte, data string) {
	t.Helper()
	x, e := Write(o, c)
	if e != api.OK {
		t.Fatalf("Write(%v, %d) is the error %d", o, c, e)
	}
	expectPipe(t, x, o, data)
}

func expectWriteFails(t *testing.T, o api.Object, want api.Errno) {
	t.Helper()
	for _, c := range []byte{0, 1, 'x', 255} {
		if x, e := Write(o, c); !reflect.DeepEqual(x, api.Object{}) || e != want {
			t.Fatalf("Write(%v, %d) = %v, %d, want the error %d", o, c, x, e, want)
		}
	}
}

// expectValid expects of o what the chapter says of any valid pipe.
func expectValid(t *testing.T, o api.Object) {
	t.Helper()
	if !Valid(o) {
		t.Fatalf("Valid(%v) = false", o)
	}
	data := string(o.Data)
	switch {
	case data != "":
		expectRead(t, o, int64(data[0]), data[1:])
	case o.Writers == 0:
		expectRead(t, o, -1, "")
	default:
		expectReadFails(t, o, api.ErrWait)
	}
	switch {
	case o.Readers == 0:
		expectWriteFails(t, o, api.ErrClosed)
	case len(data) == api.MaxPipe:
		expectWriteFails(t, o, api.ErrWait)
	default:
		expectWrite(t, o, 'x', data+"x")
		expectWrite(t, o, 0, data+"\x00")
	}
}

// expectInvalid expects ErrInvalid also where other errors apply too.
func expectInvalid(t *testing.T, o api.Object) {
	t.Helper()
	if Valid(o) {
		t.Fatalf("Valid(%v) = true", o)
	}
	expectReadFails(t, o, api.ErrInvalid)
	expectWriteFails(t, o, api.ErrInvalid)
}

// expectAlwaysInvalid changes pipes in all states, and expects that none of them is a pipe any more.
func expectAlwaysInvalid(t *testing.T, change func(o *api.Object)) {
	t.Helper()
	for _, o := range []api.Object{New(7), filled(1), filled(20), filled(64), withData(0, 1, ""), withData(1, 0, ""), withData(0, 2, series(64)), withEmptyLists(New(7))} {
		change(&o)
		expectInvalid(t, o)
	}
}

func TestP11_1New(t *testing.T) {
	for _, id := range identifiers() {
		expectPipe(t, New(id), api.Object{ID: id, Readers: 1, Writers: 1}, "")
		expectValid(t, New(id))
	}
}

func TestP11_1NewWithoutIdentifier(t *testing.T) {
	expectPipe(t, New(0), api.Object{Readers: 1, Writers: 1}, "")
	expectInvalid(t, New(0))
}

func TestP11_1ValidWithAnyIdentifierAndBytes(t *testing.T) {
	for _, id := range identifiers() {
		o := filled(20)
		o.ID = id
		expectValid(t, o)
	}
	for c := range 256 {
		expectValid(t, withData(1, 1, string([]byte{byte(c)})))
		expectValid(t, withData(1, 1, strings.Repeat(string([]byte{byte(c)}), 9)))
	}
}

func TestP11_1ReadersAndWriters(t *testing.T) {
	for _, readers := range counts() {
		for _, writers := range counts() {
			for _, n := range []int{0, 1, 5, 63, 64} {
				if o := withData(readers, writers, series(n)); readers != 0 || writers != 0 {
					expectValid(t, o)
				} else {
					expectInvalid(t, o)
				}
			}
		}
	}
}

func TestP11_1InvalidReadersAndWriters(t *testing.T) {
	for _, wrong := range noCounts() {
		expectAlwaysInvalid(t, func(o *api.Object) { o.Readers = wrong })
		expectAlwaysInvalid(t, func(o *api.Object) { o.Writers = wrong })
		expectAlwaysInvalid(t, func(o *api.Object) { o.Readers, o.Writers = wrong, 1 })
		expectAlwaysInvalid(t, func(o *api.Object) { o.Readers, o.Writers = 1, wrong })
		expectAlwaysInvalid(t, func(o *api.Object) { o.Readers, o.Writers = wrong, 0 })
		expectAlwaysInvalid(t, func(o *api.Object) { o.Readers, o.Writers = 0, wrong })
		for _, other := range noCounts() {
			expectInvalid(t, withData(wrong, other, "abc"))
		}
	}
}

// TestP11_1NegativeAndPositive has readers and writers of which the sum would do.
func TestP11_1NegativeAndPositive(t *testing.T) {
	for _, n := range []int{1, 2, 7, 1<<30 - 1, 1 << 30} {
		expectInvalid(t, withData(-n, n, "abc"))
		expectInvalid(t, withData(n, -n, "abc"))
		expectInvalid(t, withData(-1, n, "abc"))
		expectInvalid(t, withData(n, -1, ""))
	}
}

func TestP11_1NeitherReadersNorWriters(t *testing.T) {
	expectAlwaysInvalid(t, func(o *api.Object) { o.Readers, o.Writers = 0, 0 })
}

func TestP11_1AtMostMaxPipe(t *testing.T) {
	for n := range api.MaxPipe + 1 {
		expectValid(t, filled(n))
		expectValid(t, withData(1, 1, strings.Repeat("\x00", n)))
	}
	for _, n := range []int{65, 66, 127, 128, 255, 256, 257, 4096, 1 << 16, 1<<16 + 1} {
		expectInvalid(t, filled(n))
		expectInvalid(t, withData(1, 0, series(n)))
		expectInvalid(t, withData(0, 1, series(n)))
		expectInvalid(t, withData(1, 1, strings.Repeat("\x00", n)))
	}
}

// TestP11_1LengthIsNotThatOfTheMemory has bytes beyond the length of the list.
func TestP11_1LengthIsNotThatOfTheMemory(t *testing.T) {
	for _, n := range []int{0, 1, 30, 63, 64} {
		o := filled(100)
		o.Data = o.Data[:n]
		expectValid(t, o)
	}
}

func TestP11_1InvalidKind(t *testing.T) {
	for kind := -20; kind <= 20; kind++ {
		if kind != api.KindPipe {
			expectAlwaysInvalid(t, func(o *api.Object) { o.Kind = kind })
		}
	}
	for _, kind := range []int{math.MinInt64, -1 << 32, api.KindPipe - 256, api.KindPipe + 256, api.KindPipe + 1<<32, math.MaxInt64} {
		expectAlwaysInvalid(t, func(o *api.Object) { o.Kind = kind })
	}
}

func TestP11_1InvalidIdentifier(t *testing.T) {
	expectAlwaysInvalid(t, func(o *api.Object) { o.ID = 0 })
}

func TestP11_1InvalidOtherFields(t *testing.T) {
	for _, o := range []api.Object{New(1), filled(20), filled(64), withData(0, 1, ""), withData(1, 0, "")} {
		for _, x := range changedElsewhere(o) {
			expectInvalid(t, x)
		}
	}
}

// TestP11_1SeveralThingsAreWrong has objects of which two parts are wrong, so that neither makes up for the other.
func TestP11_1SeveralThingsAreWrong(t *testing.T) {
	for _, x := range changedElsewhere(New(7)) {
		for _, y := range changedElsewhere(x) {
			if Valid(y) {
				t.Fatalf("Valid(%v) = true", y)
			}
		}
	}
	wrong := []api.Object{New(0), withData(0, 0, ""), withData(-1, 1, ""), withData(1, -1, ""), filled(65), withData(0, 0, series(65))}
	for _, o := range wrong {
		for _, x := range changedElsewhere(o) {
			expectInvalid(t, x)
		}
		for _, kind := range []int{0, api.KindFile, api.KindPipe} {
			o.ID, o.Kind = 0, kind
			expectInvalid(t, o)
		}
	}
}

func TestP11_1InvalidOtherObjects(t *testing.T) {
	expectInvalid(t, api.Object{})
	expectInvalid(t, api.Object{ID: 7})
	expectInvalid(t, api.Object{Kind: api.KindPipe})
	expectInvalid(t, api.Object{ID: 7, Kind: api.KindPipe})
	expectInvalid(t, api.Object{Readers: 1, Writers: 1, Data: []byte("abc")})
	expectInvalid(t, api.Object{ID: 7, Kind: api.KindFile, Data: []byte("abc")})
	expectInvalid(t, api.Object{ID: 7, Kind: api.KindDescription, Refs: 1, Target: 5})
	expectInvalid(t, api.Object{ID: 7, Kind: api.KindChannel, Ends: [2]int{1, 1}})
}

func TestP11_1EmptyListsAreZero(t *testing.T) {
	for _, o := range []api.Object{New(7), filled(20), filled(64), withData(0, 1, ""), withData(1, 0, "")} {
		expectValid(t, withEmptyLists(o))
	}
	expectInvalid(t, withEmptyLists(api.Object{ID: 7}))
	expectInvalid(t, withEmptyLists(withData(0, 0, "")))
}

func TestP11_2Read(t *testing.T) {
	expectRead(t, withData(1, 1, "abc"), 'a', "bc")
	expectRead(t, withData(1, 1, "a"), 'a', "")
	expectRead(t, withData(2, 3, "aab"), 'a', "ab")
	for n := 1; n <= api.MaxPipe; n++ {
		expectRead(t, filled(n), 5, series(n)[1:])
	}
}

// TestP11_2AnyByte has bytes that would be negative, or the end, as signed ones.
func TestP11_2AnyByte(t *testing.T) {
	for c := range 256 {
		one := string([]byte{byte(c)})
		for _, writers := range []int{0, 1} {
			expectRead(t, withData(1, writers, one), int64(c), "")
			expectRead(t, withData(1, writers, one+"\x00"), int64(c), "\x00")
			expectRead(t, withData(1, writers, one+one+"x"), int64(c), one+"x")
		}
	}
}

func TestP11_2EmptyWithoutWriters(t *testing.T) {
	for _, readers := range counts()[1:] {
		o := withData(readers, 0, "")
		for range 3 { // as it stays as it is
			expectRead(t, o, -1, "")
			_, o, _ = Read(o)
		}
	}
	expectRead(t, withEmptyLists(withData(1, 0, "")), -1, "")
}

// TestP11_2EmptyWithWriters has pipes without readers too: they are not looked at.
func TestP11_2EmptyWithWriters(t *testing.T) {
	for _, readers := range counts() {
		for _, writers := range counts()[1:] {
			expectReadFails(t, withData(readers, writers, ""), api.ErrWait)
			expectReadFails(t, withEmptyLists(withData(readers, writers, "")), api.ErrWait)
		}
	}
}

func TestP11_2BytesAreLeftWithoutWriters(t *testing.T) {
	o := withData(1, 0, "abc")
	for _, c := range "abc" {
		n, x, e := Read(o)
		if n != int64(c) || e != api.OK {
			t.Fatalf("Read(%v) = %d, %d, want %d", o, n, e, c)
		}
		o = x
	}
	expectRead(t, o, -1, "")
}

func TestP11_2BytesAreLeftWithoutReaders(t *testing.T) {
	expectRead(t, withData(0, 1, "abc"), 'a', "bc")
	expectRead(t, withData(0, 1, "a"), 'a', "")
	expectReadFails(t, withData(0, 1, ""), api.ErrWait)
}

func TestP11_2Example(t *testing.T) {
	for _, id := range identifiers() {
		expectReadFails(t, New(id), api.ErrWait)
	}
}

func TestP11_3Write(t *testing.T) {
	expectWrite(t, New(7), 'x', "x")
	expectWrite(t, withData(1, 1, "abc"), 'x', "abcx")
	expectWrite(t, withData(1, 1, "abc"), 'c', "abcc")
	for n := range api.MaxPipe {
		expectWrite(t, filled(n), 'x', series(n)+"x")
	}
	for c := range 256 {
		one := string([]byte{byte(c)})
		expectWrite(t, withData(1, 1, ""), byte(c), one)
		expectWrite(t, withData(2, 1, "ab"), byte(c), "ab"+one)
	}
}

// TestP11_3WritersAreNotLookedAt writes to pipes without writers too.
func TestP11_3WritersAreNotLookedAt(t *testing.T) {
	for _, writers := range counts() {
		expectWrite(t, withData(1, writers, ""), 'x', "x")
		expectWrite(t, withData(2, writers, "abc"), 'x', "abcx")
		expectWriteFails(t, withData(1, writers, series(64)), api.ErrWait)
	}
}

// TestP11_3Closed has pipes that are full too: that they have no readers comes first.
func TestP11_3Closed(t *testing.T) {
	for _, writers := range counts()[1:] {
		for _, n := range []int{0, 1, 5, 63, 64} {
			expectWriteFails(t, withData(0, writers, series(n)), api.ErrClosed)
		}
	}
}

func TestP11_3Full(t *testing.T) {
	for _, readers := range counts()[1:] {
		for _, writers := range counts() {
			expectWriteFails(t, withData(readers, writers, series(64)), api.ErrWait)
			expectWrite(t, withData(readers, writers, series(63)), 'x', series(63)+"x")
		}
	}
}

// TestConsequenceInOrder reads and writes now and then, and compares the pipe with a list each time.
func TestConsequenceInOrder(t *testing.T) {
	for seed := range 40 {
		o := New(7)
		var want []byte
		written, read := 0, 0
		for i := range 1000 {
			if (i*i*7+i*seed)%(13+seed) < 6 {
				written += writeNext(t, &o, &want, byte(written*11+seed))
			} else {
				read += readNext(t, &o, &want)
			}
			if len(o.Data) > api.MaxPipe || len(o.Data) != written-read {
				t.Fatalf("the pipe has %d bytes after %d that were written and %d that were read", len(o.Data), written, read)
			}
			expectPipe(t, o, New(7), string(want))
			expectValid(t, o)
		}
	}
}

// writeNext writes a byte to a pipe and to the list of the bytes that it has to have, unless the pipe is full.
func writeNext(t *testing.T, o *api.Object, want *[]byte, c byte) int {
	t.Helper()
	x, e := Write(*o, c)
	if len(*want) == api.MaxPipe {
		expectWriteFails(t, *o, api.ErrWait)
		return 0
	}
	if e != api.OK {
		t.Fatalf("Write(%v, %d) is the error %d", *o, c, e)
	}
	*o, *want = x, append(*want, c)
	return 1
}

// readNext reads a byte from a pipe and from the list of the bytes that it has to have, unless the pipe is empty.
func readNext(t *testing.T, o *api.Object, want *[]byte) int {
	t.Helper()
	n, x, e := Read(*o)
	if len(*want) == 0 {
		expectReadFails(t, *o, api.ErrWait)
		return 0
	}
	if n != int64((*want)[0]) || e != api.OK {
		t.Fatalf("Read(%v) = %d, %d, want %d", *o, n, e, (*want)[0])
	}
	*o, *want = x, (*want)[1:]
	return 1
}

// TestConsequenceNeverMore fills a pipe, and empties it when there are no writers any more.
func TestConsequenceNeverMore(t *testing.T) {
	o := New(7)
	for i := range 3 * api.MaxPipe {
		x, e := Write(o, byte(i))
		if i >= api.MaxPipe {
			expectWriteFails(t, o, api.ErrWait)
			continue
		}
		if e != api.OK || len(x.Data) != i+1 {
			t.Fatalf("the write %d is the error %d, and there are %d bytes", i, e, len(x.Data))
		}
		o = x
	}
	o.Writers = 0
	for i := range api.MaxPipe {
		n, x, e := Read(o)
		if n != int64(i) || e != api.OK {
			t.Fatalf("the read %d is %d, and the error %d", i, n, e)
		}
		o = x
	}
	expectRead(t, o, -1, "")
}

// TestP1NothingIsChanged calls every function with bytes that have other bytes before and behind them.
func TestP1NothingIsChanged(t *testing.T) {
	memory := []byte(series(1000))
	before := bytes.Clone(memory)
	for _, n := range []int{0, 1, 2, 3, 30, 63, 64, 65, 200} {
		for _, ends := range [][2]int{{1, 1}, {0, 1}, {1, 0}, {0, 0}, {-1, 1}} {
			o := withEmptyLists(withData(ends[0], ends[1], ""))
			o.Data = memory[300 : 300+n]
			want := o
			want.Data = before[300 : 300+n]
			Valid(o)
			Read(o)
			Write(o, 0)
			Write(o, 255)
			if !reflect.DeepEqual(o, want) {
				t.Fatalf("the pipe is %v, want %v", o, want)
			}
		}
	}
	if !bytes.Equal(memory, before) {
		t.Fatal("the memory of the pipes is changed")
	}
}

// wipe makes everything 0 that the bytes of o have in their memory, beyond their length too.
func wipe(o api.Object) {
	clear(o.Data[:cap(o.Data)])
}

// TestP1ResultsShareNoMemory overwrites each result, and expects its argument and other results as they were. All pipes have room, and bytes, beyond their lengths.
func TestP1ResultsShareNoMemory(t *testing.T) {
	for n := 1; n < api.MaxPipe-1; n++ { // so that there is room for two more
		o := filled(200)
		o.Data = o.Data[:n]
		written, _ := Write(o, 'x')
		other, _ := Write(o, 'y')
		again, _ := Write(written, 'z')
		_, read, _ := Read(o)
		_, last, _ := Read(written)
		wipe(o)
		expectPipe(t, written, o, series(n)+"x")
		expectPipe(t, other, o, series(n)+"y")
		expectPipe(t, read, o, series(n)[1:])
		wipe(other)
		wipe(read)
		expectPipe(t, written, o, series(n)+"x")
		wipe(written)
		expectPipe(t, again, o, series(n)+"xz")
		expectPipe(t, last, o, series(n)[1:]+"x")
	}
}

// TestP1ArgumentsStay overwrites each result, and expects the memory of its argument as it was.
func TestP1ArgumentsStay(t *testing.T) {
	for n := range api.MaxPipe + 1 {
		o := filled(200)
		o.Data = o.Data[:n]
		written, _ := Write(o, 'x')
		_, read, _ := Read(o)
		o.Writers = 0
		_, atEnd, _ := Read(o)
		wipe(written)
		wipe(read)
		wipe(atEnd)
		if string(o.Data[:200]) != series(200) {
			t.Fatalf("a result shares memory with its argument of %d bytes", n)
		}
	}
}

func TestP1NewPipesAreApart(t *testing.T) {
	a, b := New(7), New(7)
	a.Data = append(a.Data[:cap(a.Data)], 'x')
	expectPipe(t, b, New(7), "")
	expectPipe(t, New(7), withData(1, 1, ""), "")
}

// TestP1WhatLiesBeyondIsNotLookedAt gives the same bytes with other memory behind them.
func TestP1WhatLiesBeyondIsNotLookedAt(t *testing.T) {
	for _, beyond := range []byte{0, 1, 'x', 255} {
		o := withEmptyLists(New(7))
		o.Words = []int64{int64(beyond)}[:0]
		o.Names = make([]api.Name, 3)[:0]
		for _, data := range []string{"", "a", "abc"} {
			o.Data = append([]byte(data), bytes.Repeat([]byte{beyond}, 50)...)[:len(data)]
			expectValid(t, o)
		}
	}
}

func TestP1SameArgumentsSameResults(t *testing.T) {
	o := withData(1, 1, "abc")
	for range 3 {
		expectRead(t, o, 'a', "bc")
		expectWrite(t, o, 'x', "abcx")
		expectValid(t, o)
		expectReadFails(t, New(7), api.ErrWait)
		expectWriteFails(t, filled(64), api.ErrWait)
		expectWriteFails(t, withData(0, 1, "abc"), api.ErrClosed)
		expectPipe(t, New(7), withData(1, 1, ""), "")
	}
}
