package channel

import (
	"bytes"
	"math"
	"reflect"
	"strings"
	"testing"

	"clusterkernel/api"
)

// withBytes is the channel 7 with some references to its ends, and these bytes from the end 0 and from the end 1.
func withBytes(ends [2]int, from0, from1 string) api.Object {
	return api.Object{ID: 7, Kind: api.KindChannel, Ends: ends, Queues: [2][]byte{[]byte(from0), []byte(from1)}}
}

// series are n bytes, of which none is 0 and none is that before it.
func series(n int) string {
	var data []byte
	for i := range n {
		data = append(data, byte(i%251)+5)
	}
	return string(data)
}

// filled is a channel with so many bytes from the end 0, and from the end 1. They are others in one direction than in the other one.
func filled(from0, from1 int) api.Object {
	return withBytes([2]int{2, 3}, series(from0), series(from1 + 90)[90:])
}

// lengths are how many bytes a direction can have.
func lengths() []int {
	return []int{0, 1, 2, 5, 63, 64}
}

// tooLong are lengths that no direction has. The low bits of some would do.
func tooLong() []int {
	return []int{65, 66, 127, 128, 129, 255, 256, 257, 4096, 1 << 16, 1<<16 + 1}
}

func channels() []api.Object {
	return []api.Object{New(7), filled(1, 0), filled(0, 1), filled(20, 5), filled(64, 64), withBytes([2]int{0, 1}, "", ""), withBytes([2]int{1, 0}, "abc", "xy"),
		withBytes([2]int{0, 1}, series(64), series(64)), withEmptyLists(New(7))}
}

// expectChannel expects o but for its bytes, which are given. The lists that a channel does not use have to be nil: memory of their own would be of no use.
func expectChannel(t *testing.T, got, o api.Object, queues [2]string) {
	t.Helper()
	if now := [2]string{string(got.Queues[0]), string(got.Queues[1])}; now != queues {
		t.Fatalf("the bytes are %q, want %q", now, queues)
	}
	got.Queues = [2][]byte{}
	if want := (api.Object{ID: o.ID, Kind: api.KindChannel, Ends: o.Ends}); !reflect.DeepEqual(got, want) {
		t.Fatalf("the channel is %v and its bytes, want %v", got, want)
	}
}

func expectRead(t *testing.T, o api.Object, end int, want int64, left [2]string) {
	t.Helper()
	n, x, e := Read(o, end)
	if n != want || e != api.OK {
		t.Fatalf("Read(%v, %d) = %d and the error %d, want %d", o, end, n, e, want)
	}
	expectChannel(t, x, o, left)
}

func expectReadFails(t *testing.T, o api.Object, end int, want api.Errno) {
	t.Helper()
	if n, x, e := Read(o, end); n != 0 || !reflect.DeepEqual(x, api.Object{}) || e != want {
		t.Fatalf("Read(%v, %d) = %d, %v, %d, want the error %d", o, end, n, x, e, want)
	}
}

func expectWrite(t *testing.T, o api.Object, end int, c byte, queues [2]string) {
	t.Helper()
	x, e := Write(o, end, c)
	if e != api.OK {
		t.Fatalf("Write(%v, %d, %d) is the error %d", o, end, c, e)
	}
	expectChannel(t, x, o, queues)
}

func expectWriteFails(t *testing.T, o api.Object, end int, want api.Errno) {
	t.Helper()
	for _, c := range []byte{0, 1, 'x', 255} {
		if x, e := Write(o, end, c); !reflect.DeepEqual(x, api.Object{}) || e != want {
			t.Fatalf("Write(%v, %d, %d) = %v, %d, want the error %d", o, end, c, x, e, want)
		}
	}
}

// noEnds are numbers that are neither 0 nor 1. The low bits of some are.
func noEnds() []int {
	return []int{math.MinInt64, math.MinInt64 + 1, -1 << 32, -1<<32 + 1, -256, -2, -1, 2, 3, 4, 255, 256, 257, 1 << 32, 1<<32 + 1, math.MaxInt64 - 1, math.MaxInt64}
}

// expectValid expects of o what the chapter says of any valid channel.
func expectValid(t *testing.T, o api.Object) {
	t.Helper()
	if !Valid(o) {
		t.Fatalf("Valid(%v) = false", o)
	}
	expectReads(t, o)
	expectWrites(t, o)
	for _, end := range []int{-1, 2, math.MinInt64, math.MaxInt64} {
		expectReadFails(t, o, end, api.ErrInvalid)
		expectWriteFails(t, o, end, api.ErrInvalid)
	}
}

func expectReads(t *testing.T, o api.Object) {
	t.Helper()
	from0, from1 := string(o.Queues[0]), string(o.Queues[1])
	switch {
	case from1 != "":
		expectRead(t, o, 0, int64(from1[0]), [2]string{from0, from1[1:]})
	case o.Ends[1] == 0:
		expectRead(t, o, 0, -1, [2]string{from0, ""})
	default:
		expectReadFails(t, o, 0, api.ErrWait)
	}
	switch {
	case from0 != "":
		expectRead(t, o, 1, int64(from0[0]), [2]string{from0[1:], from1})
	case o.Ends[0] == 0:
		expectRead(t, o, 1, -1, [2]string{"", from1})
	default:
		expectReadFails(t, o, 1, api.ErrWait)
	}
}

func expectWrites(t *testing.T, o api.Object) {
	t.Helper()
	from0, from1 := string(o.Queues[0]), string(o.Queues[1])
	switch {
	case o.Ends[1] == 0:
		expectWriteFails(t, o, 0, api.ErrClosed)
	case len(from0) == api.MaxPipe:
		expectWriteFails(t, o, 0, api.ErrWait)
	default:
		expectWrite(t, o, 0, 'x', [2]string{from0 + "x", from1})
		expectWrite(t, o, 0, 0, [2]string{from0 + "\x00", from1})
	}
	switch {
	case o.Ends[0] == 0:
		expectWriteFails(t, o, 1, api.ErrClosed)
	case len(from1) == api.MaxPipe:
		expectWriteFails(t, o, 1, api.ErrWait)
	default:
		expectWrite(t, o, 1, 'x', [2]string{from0, from1 + "x"})
		expectWrite(t, o, 1, 0, [2]string{from0, from1 + "\x00"})
	}
}

// expectInvalid expects ErrInvalid also where other errors apply too.
func expectInvalid(t *testing.T, o api.Object) {
	t.Helper()
	if Valid(o) {
		t.Fatalf("Valid(%v) = true", o)
	}
	for _, end := range []int{0, 1, 2, -1} {
		expectReadFails(t, o, end, api.ErrInvalid)
		expectWriteFails(t, o, end, api.ErrInvalid)
	}
}

// expectAlwaysInvalid changes channels in all states, and expects that none of them is a channel any more.
func expectAlwaysInvalid(t *testing.T, change func(o *api.Object)) {
	t.Helper()
	for _, o := range channels() {
		change(&o)
		expectInvalid(t, o)
	}
}

func TestP12_3New(t *testing.T) {
	for _, id := range identifiers() {
		expectChannel(t, New(id), api.Object{ID: id, Ends: [2]int{1, 1}}, [2]string{})
		expectValid(t, New(id))
	}
}

func TestP12_3NewWithoutIdentifier(t *testing.T) {
	expectChannel(t, New(0), api.Object{Ends: [2]int{1, 1}}, [2]string{})
	expectInvalid(t, New(0))
}

func TestP12_3ValidWithAnyIdentifierAndBytes(t *testing.T) {
	for _, id := range identifiers() {
		o := filled(20, 7)
		o.ID = id
		expectValid(t, o)
	}
	for c := range 256 {
		one := string([]byte{byte(c)})
		expectValid(t, withBytes([2]int{1, 1}, one, ""))
		expectValid(t, withBytes([2]int{1, 1}, "", one))
		expectValid(t, withBytes([2]int{1, 1}, strings.Repeat(one, 9), one))
	}
}

func TestP12_3Ends(t *testing.T) {
	for _, a := range counts() {
		for _, b := range counts() {
			for _, n := range lengths() {
				for _, m := range lengths() {
					o := filled(n, m)
					if o.Ends = [2]int{a, b}; a != 0 || b != 0 {
						expectValid(t, o)
					} else {
						expectInvalid(t, o)
					}
				}
			}
		}
	}
}

func TestP12_3InvalidEnds(t *testing.T) {
	for _, wrong := range noCounts() {
		for _, other := range append(noCounts(), counts()...) {
			expectAlwaysInvalid(t, func(o *api.Object) { o.Ends = [2]int{wrong, other} })
			expectAlwaysInvalid(t, func(o *api.Object) { o.Ends = [2]int{other, wrong} })
		}
	}
	expectAlwaysInvalid(t, func(o *api.Object) { o.Ends = [2]int{} })
}

// TestP12_3NegativeAndPositive has ends of which the sum would do.
func TestP12_3NegativeAndPositive(t *testing.T) {
	for _, n := range []int{1, 2, 7, 1<<30 - 1, 1 << 30} {
		for _, wrong := range []int{-n, -1} {
			expectInvalid(t, withBytes([2]int{wrong, n}, "abc", "xy"))
			expectInvalid(t, withBytes([2]int{n, wrong}, "abc", "xy"))
		}
	}
}

func TestP12_3AtMostMaxPipe(t *testing.T) {
	for n := range api.MaxPipe + 1 {
		expectValid(t, filled(n, 0))
		expectValid(t, filled(0, n))
		expectValid(t, filled(n, 64-n))
		expectValid(t, filled(n, 64))
		expectValid(t, filled(64, n))
		expectValid(t, withBytes([2]int{1, 1}, strings.Repeat("\x00", n), strings.Repeat("\x00", 64-n)))
	}
	for _, n := range tooLong() {
		for _, ends := range [][2]int{{1, 1}, {0, 1}, {1, 0}} {
			expectInvalid(t, withBytes(ends, series(n), ""))
			expectInvalid(t, withBytes(ends, "", series(n)))
			expectInvalid(t, withBytes(ends, series(n), series(64)))
			expectInvalid(t, withBytes(ends, series(64), series(n)))
			expectInvalid(t, withBytes(ends, series(n), series(n)))
			expectInvalid(t, withBytes(ends, strings.Repeat("\x00", n), "\x00"))
			expectInvalid(t, withBytes(ends, "\x00", strings.Repeat("\x00", n)))
		}
	}
}

// TestP12_3LengthIsNotThatOfTheMemory has bytes beyond the lengths of the queues.
func TestP12_3LengthIsNotThatOfTheMemory(t *testing.T) {
	for _, n := range lengths() {
		for _, m := range lengths() {
			o := withBytes([2]int{1, 1}, series(100), series(100))
			o.Queues = [2][]byte{o.Queues[0][:n], o.Queues[1][:m]}
			expectValid(t, o)
		}
	}
}

func TestP12_3InvalidKind(t *testing.T) {
	for _, kind := range otherKinds(api.KindChannel) {
		expectAlwaysInvalid(t, func(o *api.Object) { o.Kind = kind })
	}
}

func TestP12_3InvalidIdentifier(t *testing.T) {
	expectAlwaysInvalid(t, func(o *api.Object) { o.ID = 0 })
}

func TestP12_3InvalidOtherFields(t *testing.T) {
	for _, o := range channels() {
		for _, x := range changedElsewhere(o, channelParts()) {
			expectInvalid(t, x)
		}
	}
}

// TestP12_3SeveralThingsAreWrong has objects of which two parts are wrong, so that neither makes up for the other.
func TestP12_3SeveralThingsAreWrong(t *testing.T) {
	for _, x := range changedElsewhere(New(7), channelParts()) {
		for _, y := range changedElsewhere(x, channelParts()) {
			if Valid(y) {
				t.Fatalf("Valid(%v) = true", y)
			}
		}
	}
	for _, o := range []api.Object{New(0), withBytes([2]int{}, "", ""), withBytes([2]int{-1, 1}, "", ""), withBytes([2]int{1, -1}, "", ""), filled(65, 0), filled(0, 65), withBytes([2]int{}, series(65), series(65))} {
		for _, x := range changedElsewhere(o, channelParts()) {
			expectInvalid(t, x)
		}
		for _, kind := range []int{0, api.KindPort, api.KindChannel} {
			o.ID, o.Kind = 0, kind
			expectInvalid(t, o)
		}
	}
}

func TestP12_3InvalidOtherObjects(t *testing.T) {
	expectInvalid(t, api.Object{})
	expectInvalid(t, api.Object{ID: 7})
	expectInvalid(t, api.Object{Kind: api.KindChannel})
	expectInvalid(t, api.Object{ID: 7, Kind: api.KindChannel})
	expectInvalid(t, NewPort(7))
	expectInvalid(t, api.Object{ID: 7, Kind: api.KindChannel, Refs: 1})
	expectInvalid(t, api.Object{ID: 7, Kind: api.KindPipe, Readers: 1, Writers: 1})
	expectInvalid(t, api.Object{ID: 7, Kind: api.KindPort, Ends: [2]int{1, 1}})
}

func TestP12_3EmptyListsAreZero(t *testing.T) {
	for _, o := range channels() {
		expectValid(t, withEmptyLists(o))
	}
	expectInvalid(t, withEmptyLists(api.Object{ID: 7}))
	expectInvalid(t, withEmptyLists(withBytes([2]int{}, "", "")))
}

func TestP12_4Example(t *testing.T) {
	for c := range 256 {
		o, e := Write(New(7), 0, byte(c))
		if e != api.OK {
			t.Fatalf("the error is %d", e)
		}
		expectRead(t, o, 1, int64(c), [2]string{})
		expectReadFails(t, o, 0, api.ErrWait)
	}
}

func TestP12_4Read(t *testing.T) {
	o := withBytes([2]int{1, 1}, "abc", "xy")
	expectRead(t, o, 0, 'x', [2]string{"abc", "y"})
	expectRead(t, o, 1, 'a', [2]string{"bc", "xy"})
	expectRead(t, withBytes([2]int{2, 3}, "a", ""), 1, 'a', [2]string{"", ""})
	expectRead(t, withBytes([2]int{2, 3}, "", "aab"), 0, 'a', [2]string{"", "ab"})
	for n := 1; n <= api.MaxPipe; n++ {
		for _, other := range lengths() {
			expectRead(t, withBytes([2]int{1, 1}, series(n), series(other)), 1, 5, [2]string{series(n)[1:], series(other)})
			expectRead(t, withBytes([2]int{1, 1}, series(other), series(n)), 0, 5, [2]string{series(other), series(n)[1:]})
		}
	}
}

// TestP12_4ReadAnyByte has bytes that would be negative, or the end, as signed ones.
func TestP12_4ReadAnyByte(t *testing.T) {
	for c := range 256 {
		one := string([]byte{byte(c)})
		for _, ends := range [][2]int{{1, 1}, {0, 1}, {1, 0}} {
			expectRead(t, withBytes(ends, one, ""), 1, int64(c), [2]string{"", ""})
			expectRead(t, withBytes(ends, "", one), 0, int64(c), [2]string{"", ""})
			expectRead(t, withBytes(ends, one+one+"x", "y"), 1, int64(c), [2]string{one + "x", "y"})
			expectRead(t, withBytes(ends, "y", one+"\x00"), 0, int64(c), [2]string{"y", "\x00"})
		}
	}
}

// TestP12_4ReadFinished reads from an end to which nothing refers, and which has written nothing that is left.
func TestP12_4ReadFinished(t *testing.T) {
	for _, refs := range counts()[1:] {
		for _, n := range lengths() {
			o, p := withBytes([2]int{refs, 0}, series(n), ""), withBytes([2]int{0, refs}, "", series(n))
			for range 3 { // as they stay as they are
				expectRead(t, o, 0, -1, [2]string{series(n), ""})
				expectRead(t, p, 1, -1, [2]string{"", series(n)})
				_, o, _ = Read(o, 0)
				_, p, _ = Read(p, 1)
			}
		}
	}
	expectRead(t, withEmptyLists(withBytes([2]int{1, 0}, "", "")), 0, -1, [2]string{})
	expectRead(t, withEmptyLists(withBytes([2]int{0, 1}, "", "")), 1, -1, [2]string{})
}

// TestP12_4ReadWaits reads also at ends to which nothing refers: they are not looked at.
func TestP12_4ReadWaits(t *testing.T) {
	for _, own := range counts() {
		for _, other := range counts()[1:] {
			for _, n := range lengths() {
				expectReadFails(t, withBytes([2]int{own, other}, series(n), ""), 0, api.ErrWait)
				expectReadFails(t, withBytes([2]int{other, own}, "", series(n)), 1, api.ErrWait)
				expectReadFails(t, withEmptyLists(withBytes([2]int{own, other}, "", "")), 0, api.ErrWait)
			}
		}
	}
}

// TestP12_4BytesAreLeft reads what was written at an end to which nothing refers any more, and then finds its end.
func TestP12_4BytesAreLeft(t *testing.T) {
	for end := range 2 {
		o := withBytes([2]int{1, 1}, "abc", "abc")
		o.Ends[1-end] = 0
		for _, c := range "abc" {
			n, x, e := Read(o, end)
			if n != int64(c) || e != api.OK {
				t.Fatalf("Read(%v, %d) = %d, %d, want %d", o, end, n, e, c)
			}
			o = x
		}
		left := [2]string{"abc", "abc"}
		left[1-end] = ""
		expectRead(t, o, end, -1, left)
	}
}

// TestP12_4ReadWithoutReferences reads at ends to which nothing refers: they are not looked at.
func TestP12_4ReadWithoutReferences(t *testing.T) {
	expectRead(t, withBytes([2]int{0, 1}, "abc", "xy"), 0, 'x', [2]string{"abc", "y"})
	expectRead(t, withBytes([2]int{1, 0}, "abc", "xy"), 1, 'a', [2]string{"bc", "xy"})
	expectReadFails(t, withBytes([2]int{0, 1}, "abc", ""), 0, api.ErrWait)
	expectReadFails(t, withBytes([2]int{1, 0}, "", "xy"), 1, api.ErrWait)
}

func TestP12_4Write(t *testing.T) {
	expectWrite(t, New(7), 0, 'x', [2]string{"x", ""})
	expectWrite(t, New(7), 1, 'x', [2]string{"", "x"})
	expectWrite(t, withBytes([2]int{2, 3}, "abc", "xy"), 0, 'c', [2]string{"abcc", "xy"})
	expectWrite(t, withBytes([2]int{2, 3}, "abc", "xy"), 1, 'z', [2]string{"abc", "xyz"})
	for n := range api.MaxPipe {
		for _, other := range lengths() {
			expectWrite(t, withBytes([2]int{1, 1}, series(n), series(other)), 0, 'x', [2]string{series(n) + "x", series(other)})
			expectWrite(t, withBytes([2]int{1, 1}, series(other), series(n)), 1, 'x', [2]string{series(other), series(n) + "x"})
		}
	}
	for c := range 256 {
		one := string([]byte{byte(c)})
		expectWrite(t, New(7), 0, byte(c), [2]string{one, ""})
		expectWrite(t, withBytes([2]int{1, 1}, "abc", "xy"), 1, byte(c), [2]string{"abc", "xy" + one})
	}
}

// TestP12_4WriteWithoutReferences writes at ends to which nothing refers: they are not looked at.
func TestP12_4WriteWithoutReferences(t *testing.T) {
	for _, other := range counts()[1:] {
		expectWrite(t, withBytes([2]int{0, other}, "abc", "xy"), 0, 'd', [2]string{"abcd", "xy"})
		expectWrite(t, withBytes([2]int{other, 0}, "abc", "xy"), 1, 'z', [2]string{"abc", "xyz"})
		expectWriteFails(t, withBytes([2]int{0, other}, series(64), "xy"), 0, api.ErrWait)
		expectWriteFails(t, withBytes([2]int{other, 0}, "abc", series(64)), 1, api.ErrWait)
	}
}

// TestP12_4WriteClosed has queues that are full too: that nothing refers to the other end comes first.
func TestP12_4WriteClosed(t *testing.T) {
	for _, own := range counts()[1:] {
		for _, n := range lengths() {
			for _, m := range lengths() {
				expectWriteFails(t, withBytes([2]int{own, 0}, series(n), series(m)), 0, api.ErrClosed)
				expectWriteFails(t, withBytes([2]int{0, own}, series(m), series(n)), 1, api.ErrClosed)
			}
		}
	}
}

func TestP12_4WriteFull(t *testing.T) {
	for _, own := range counts() {
		for _, other := range counts()[1:] {
			for _, n := range lengths() {
				expectWriteFails(t, withBytes([2]int{own, other}, series(64), series(n)), 0, api.ErrWait)
				expectWriteFails(t, withBytes([2]int{other, own}, series(n), series(64)), 1, api.ErrWait)
				expectWrite(t, withBytes([2]int{own, other}, series(63), series(n)), 0, 'x', [2]string{series(63) + "x", series(n)})
				expectWrite(t, withBytes([2]int{other, own}, series(n), series(63)), 1, 'x', [2]string{series(n), series(63) + "x"})
			}
		}
	}
}

func TestP12_4InvalidEnd(t *testing.T) {
	for _, o := range channels() {
		for _, end := range noEnds() {
			expectReadFails(t, o, end, api.ErrInvalid)
			expectWriteFails(t, o, end, api.ErrInvalid)
		}
	}
}

// TestConsequenceInOrder reads and writes at both ends now and then, and compares each direction with a list of its own each time.
func TestConsequenceInOrder(t *testing.T) {
	for seed := range 40 {
		o := New(7)
		var want [2][]byte
		for i := range 1000 {
			step := (i*i*7 + i*seed) % (13 + seed)
			if end := step % 2; step%5 < 3 {
				writeNext(t, &o, end, &want[end], byte(i*11+seed))
			} else {
				readNext(t, &o, end, &want[1-end])
			}
			expectChannel(t, o, New(7), [2]string{string(want[0]), string(want[1])})
			expectValid(t, o)
		}
	}
}

// writeNext writes a byte at an end and to the list of the bytes that its direction has to have, unless that is full.
func writeNext(t *testing.T, o *api.Object, end int, want *[]byte, c byte) {
	t.Helper()
	if len(*want) == api.MaxPipe {
		expectWriteFails(t, *o, end, api.ErrWait)
		return
	}
	x, e := Write(*o, end, c)
	if e != api.OK {
		t.Fatalf("Write(%v, %d, %d) is the error %d", *o, end, c, e)
	}
	*o, *want = x, append(*want, c)
}

// readNext reads a byte at an end and from the list of the bytes that the direction from the other end has to have, unless that is empty.
func readNext(t *testing.T, o *api.Object, end int, want *[]byte) {
	t.Helper()
	if len(*want) == 0 {
		expectReadFails(t, *o, end, api.ErrWait)
		return
	}
	n, x, e := Read(*o, end)
	if n != int64((*want)[0]) || e != api.OK {
		t.Fatalf("Read(%v, %d) = %d, %d, want %d", *o, end, n, e, (*want)[0])
	}
	*o, *want = x, (*want)[1:]
}

// TestConsequenceNoInfluence fills one direction and empties it, with and without bytes in the other one, and expects that these stay, and that the same happens.
func TestConsequenceNoInfluence(t *testing.T) {
	for end := range 2 {
		for _, n := range lengths() {
			o := New(7)
			o.Queues[1-end] = []byte(series(n))
			for i := range api.MaxPipe {
				x, e := Write(o, end, byte(i))
				if e != api.OK || len(x.Queues[end]) != i+1 || string(x.Queues[1-end]) != series(n) {
					t.Fatalf("the write %d gives %v, and the error %d", i, x, e)
				}
				o = x
			}
			expectWriteFails(t, o, end, api.ErrWait)
			for i := range api.MaxPipe {
				c, x, e := Read(o, 1-end)
				if c != int64(i) || e != api.OK || string(x.Queues[1-end]) != series(n) {
					t.Fatalf("the read %d is %d of %v, and the error %d", i, c, x, e)
				}
				o = x
			}
			expectReadFails(t, o, 1-end, api.ErrWait)
		}
	}
}

// TestP1ChannelsAreNotChanged calls every function with bytes that have other bytes before and behind them.
func TestP1ChannelsAreNotChanged(t *testing.T) {
	memory := []byte(series(1000))
	before := bytes.Clone(memory)
	for _, n := range []int{0, 1, 2, 30, 63, 64, 65, 200} {
		for _, ends := range [][2]int{{1, 1}, {0, 1}, {1, 0}, {0, 0}, {-1, 1}} {
			o := withEmptyLists(withBytes(ends, "", ""))
			o.Queues = [2][]byte{memory[300 : 300+n], memory[600 : 664-n%64]}
			want := o
			want.Queues = [2][]byte{before[300 : 300+n], before[600 : 664-n%64]}
			Valid(o)
			for _, end := range []int{0, 1, 2, -1} {
				Read(o, end)
				Write(o, end, 0)
				Write(o, end, 255)
			}
			if !reflect.DeepEqual(o, want) {
				t.Fatalf("the channel is %v, want %v", o, want)
			}
		}
	}
	if !bytes.Equal(memory, before) {
		t.Fatal("the memory of the channels is changed")
	}
}

// wipe makes everything 0 that the bytes of o have in their memory, beyond their lengths too.
func wipe(o api.Object) {
	for _, queue := range o.Queues {
		clear(queue[:cap(queue)])
	}
}

// roomy is a channel of which both directions have n bytes, and other bytes beyond their lengths.
func roomy(n int) api.Object {
	o := withBytes([2]int{1, 1}, series(200), strings.Repeat("z", 200))
	o.Queues = [2][]byte{o.Queues[0][:n], o.Queues[1][:n]}
	return o
}

func zs(n int) string {
	return strings.Repeat("z", n)
}

// TestP1WrittenChannelsShareNoMemory overwrites each result, and expects other results as they were.
func TestP1WrittenChannelsShareNoMemory(t *testing.T) {
	for n := range api.MaxPipe - 1 { // so that there is room for two more
		o := roomy(n)
		at0, _ := Write(o, 0, 'x')
		other, _ := Write(o, 0, 'y')
		at1, _ := Write(o, 1, 'x')
		again, _ := Write(at0, 0, 'w')
		both, _ := Write(at0, 1, 'w')
		wipe(o)
		wipe(other)
		expectChannel(t, at0, o, [2]string{series(n) + "x", zs(n)})
		expectChannel(t, at1, o, [2]string{series(n), zs(n) + "x"})
		wipe(at0)
		wipe(at1)
		expectChannel(t, again, o, [2]string{series(n) + "xw", zs(n)})
		expectChannel(t, both, o, [2]string{series(n) + "x", zs(n) + "w"})
	}
}

func TestP1ReadChannelsShareNoMemory(t *testing.T) {
	for n := 1; n <= api.MaxPipe; n++ {
		o := roomy(n)
		_, at0, _ := Read(o, 0)
		_, at1, _ := Read(o, 1)
		_, other, _ := Read(o, 1)
		wipe(o)
		wipe(other)
		expectChannel(t, at0, o, [2]string{series(n), zs(n - 1)})
		expectChannel(t, at1, o, [2]string{series(n)[1:], zs(n)})
		if n > 1 {
			_, again, _ := Read(at0, 0)
			wipe(at0)
			expectChannel(t, again, o, [2]string{series(n), zs(n - 2)})
		}
		at1.Ends[0], at1.Queues[0] = 0, nil
		_, finished, _ := Read(at1, 1)
		wipe(at1)
		expectChannel(t, finished, at1, [2]string{"", zs(n)})
	}
}

// TestP1ArgumentsStay overwrites each result, and expects the memory of its argument as it was.
func TestP1ArgumentsStay(t *testing.T) {
	for n := range api.MaxPipe + 1 {
		for end := range 2 {
			o := roomy(n)
			written, _ := Write(o, end, 'x')
			_, read, _ := Read(o, end)
			closed := o
			closed.Ends[1-end], closed.Queues[1-end] = 0, closed.Queues[1-end][:0]
			_, atEnd, _ := Read(closed, end)
			wipe(written)
			wipe(read)
			wipe(atEnd)
			if string(o.Queues[0][:200]) != series(200) || string(o.Queues[1][:200]) != zs(200) {
				t.Fatalf("a result shares memory with its argument of %d bytes", n)
			}
		}
	}
}

// TestP1DirectionsShareNoMemory has arguments whose two queues are the same memory, and overwrites one queue of each result.
func TestP1DirectionsShareNoMemory(t *testing.T) {
	memory := []byte(series(200))
	for n := 1; n < api.MaxPipe; n++ {
		for _, end := range []int{0, 1} {
			for wiped := range 2 {
				o := New(7)
				o.Queues = [2][]byte{memory[:n], memory[:n]}
				_, read, _ := Read(o, end)
				written, _ := Write(o, end, 'x')
				for _, x := range []api.Object{read, written} {
					before := string(x.Queues[1-wiped])
					clear(x.Queues[wiped][:cap(x.Queues[wiped])])
					if string(x.Queues[1-wiped]) != before {
						t.Fatal("the queues of a result share memory")
					}
				}
			}
		}
	}
}

func TestP1NewChannelsAreApart(t *testing.T) {
	a, b := New(7), New(7)
	a.Queues[0] = append(a.Queues[0][:cap(a.Queues[0])], 'x')
	a.Ends[0] = 9
	expectChannel(t, b, withBytes([2]int{1, 1}, "", ""), [2]string{})
	expectChannel(t, New(7), withBytes([2]int{1, 1}, "", ""), [2]string{})
}

func TestP1SameChannelSameResults(t *testing.T) {
	o := withBytes([2]int{1, 1}, "abc", "xy")
	for range 3 {
		expectRead(t, o, 0, 'x', [2]string{"abc", "y"})
		expectRead(t, o, 1, 'a', [2]string{"bc", "xy"})
		expectWrite(t, o, 0, 'd', [2]string{"abcd", "xy"})
		expectWrite(t, o, 1, 'd', [2]string{"abc", "xyd"})
		expectValid(t, o)
		expectReadFails(t, New(7), 0, api.ErrWait)
	}
}
