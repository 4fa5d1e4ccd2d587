package file

import (
	"bytes"
	"math"
	"reflect"
	"slices"
	"strings"
	"testing"

	"clusterkernel/api"
)

func identifiers() []uint64 {
	return []uint64{1, 2, 7, 1<<32 - 1, 1 << 32, 1<<57 + 5, 1<<63 - 1, 1 << 63, math.MaxUint64}
}

// negatives are offsets of which the low bits of some would do.
func negatives() []int {
	return []int{math.MinInt64, math.MinInt64 + 1, -1 << 62, -1<<32 + 1, -1 << 32, -1 << 31, -1 << 30, -4097, -4096, -4095, -256, -2, -1}
}

// pastFiles are offsets that no file reaches.
func pastFiles() []int {
	return []int{4096, 4097, 8191, 8192, 1 << 16, 1 << 30, 1<<31 - 1, 1 << 31, 1 << 32, 1<<32 + 1, 1 << 62, math.MaxInt64 - 1, math.MaxInt64}
}

// filled is the file 7 with n bytes, of which none is 0 and none is that before it.
func filled(n int) api.Object {
	o := api.Object{ID: 7, Kind: api.KindFile}
	for i := range n {
		o.Data = append(o.Data, byte(i%251)+5)
	}
	return o
}

// withData is the file 7 with these bytes.
func withData(data string) api.Object {
	return api.Object{ID: 7, Kind: api.KindFile, Data: []byte(data)}
}

// expectFile compares all fields. The lists that a file does not use have to be nil: memory of their own would be of no use.
func expectFile(t *testing.T, got api.Object, e api.Errno, id uint64, data string) {
	t.Helper()
	if e != api.OK || string(got.Data) != data {
		t.Fatalf("the data are %.200q (error %d), want %.200q", got.Data, e, data)
	}
	got.Data = nil
	if want := (api.Object{ID: id, Kind: api.KindFile}); !reflect.DeepEqual(got, want) {
		t.Fatalf("the file is %v and its data, want %v", got, want)
	}
}

func expectRead(t *testing.T, o api.Object, offset int, want byte) {
	t.Helper()
	if c, ok, e := Read(o, offset); c != want || !ok || e != api.OK {
		t.Fatalf("Read(%.200v, %d) = %d, %t, %d, want %d", o, offset, c, ok, e, want)
	}
}

func expectEnd(t *testing.T, o api.Object, offset int) {
	t.Helper()
	if c, ok, e := Read(o, offset); c != 0 || ok || e != api.OK {
		t.Fatalf("Read(%.200v, %d) = %d, %t, %d, want the end", o, offset, c, ok, e)
	}
}

func expectReadFails(t *testing.T, o api.Object, offset int, want api.Errno) {
	t.Helper()
	if c, ok, e := Read(o, offset); c != 0 || ok || e != want {
		t.Fatalf("Read(%.200v, %d) = %d, %t, %d, want the error %d", o, offset, c, ok, e, want)
	}
}

func expectWrite(t *testing.T, o api.Object, offset int, c byte, want string) {
	t.Helper()
	x, e := Write(o, offset, c)
	expectFile(t, x, e, o.ID, want)
}

func expectWriteFails(t *testing.T, o api.Object, offset int, want api.Errno) {
	t.Helper()
	for _, c := range []byte{0, 1, 255} {
		if x, e := Write(o, offset, c); !reflect.DeepEqual(x, api.Object{}) || e != want {
			t.Fatalf("Write(%.200v, %d, %d) = %.200v, %d, want the error %d", o, offset, c, x, e, want)
		}
	}
}

func expectValid(t *testing.T, o api.Object) {
	t.Helper()
	if !Valid(o) {
		t.Fatalf("Valid(%.200v) = false", o)
	}
	if c, ok, e := Read(o, len(o.Data)); c != 0 || ok || e != api.OK {
		t.Fatalf("Read(%.200v, %d) = %d, %t, %d, want the end", o, len(o.Data), c, ok, e)
	}
	expectWrite(t, o, 0, 'x', "x"+string(o.Data[min(1, len(o.Data)):]))
}

// expectInvalid expects ErrInvalid also where other errors apply too.
func expectInvalid(t *testing.T, o api.Object) {
	t.Helper()
	if Valid(o) {
		t.Fatalf("Valid(%.200v) = true", o)
	}
	for _, offset := range slices.Concat(negatives(), pastFiles(), []int{0, 1, 4095}) {
		expectReadFails(t, o, offset, api.ErrInvalid)
		expectWriteFails(t, o, offset, api.ErrInvalid)
	}
}

func TestP8_1New(t *testing.T) {
	for _, id := range identifiers() {
		expectFile(t, New(id), api.OK, id, "")
		expectValid(t, New(id))
	}
}

func TestP8_1NewWithoutIdentifier(t *testing.T) {
	expectFile(t, New(0), api.OK, 0, "")
	expectInvalid(t, New(0))
}

func TestP8_1ValidWithAnyIdentifierAndBytes(t *testing.T) {
	for _, id := range identifiers() {
		o := filled(20)
		o.ID = id
		expectValid(t, o)
	}
	for c := range 256 {
		expectValid(t, withData(string([]byte{byte(c)})))
		expectValid(t, withData(strings.Repeat(string([]byte{byte(c)}), 9)))
	}
}

func TestP8_1AtMostMaxFile(t *testing.T) {
	for _, n := range []int{0, 1, 2, 15, 16, 17, 64, 255, 256, 257, 4094, 4095, 4096} {
		expectValid(t, filled(n))
		expectValid(t, withData(strings.Repeat("\x00", n)))
	}
	for _, n := range []int{4097, 4098, 8192, 8193, 1 << 16, 1<<16 + 1, 1<<20 + 5} {
		expectInvalid(t, filled(n))
		expectInvalid(t, withData(strings.Repeat("\x00", n)))
	}
}

// TestP8_1LengthIsNotThatOfTheMemory has bytes beyond the length of the list.
func TestP8_1LengthIsNotThatOfTheMemory(t *testing.T) {
	o := filled(5000)
	o.Data = o.Data[:4096]
	expectValid(t, o)
	o.Data = o.Data[:0]
	expectValid(t, o)
}

func TestP8_1InvalidKind(t *testing.T) {
	o := filled(20)
	for kind := -20; kind <= 20; kind++ {
		if kind != api.KindFile {
			o.Kind = kind
			expectInvalid(t, o)
		}
	}
	for _, kind := range []int{math.MinInt64, -1 << 32, api.KindFile - 256, api.KindFile + 256, api.KindFile + 1<<32, math.MaxInt64} {
		o.Kind = kind
		expectInvalid(t, o)
	}
}

func TestP8_1InvalidIdentifier(t *testing.T) {
	for _, n := range []int{0, 1, 20, 4096} {
		o := filled(n)
		o.ID = 0
		expectInvalid(t, o)
	}
}

func TestP8_1InvalidOtherFields(t *testing.T) {
	for _, o := range []api.Object{New(1), filled(20)} {
		for _, x := range changedElsewhere(o, ".ID", ".Kind", ".Data") {
			expectInvalid(t, x)
		}
	}
}

func TestP8_1InvalidOtherObjects(t *testing.T) {
	expectInvalid(t, api.Object{})
	expectInvalid(t, api.Object{ID: 7})
	expectInvalid(t, api.Object{Kind: api.KindFile})
	expectInvalid(t, api.Object{Data: []byte("abc")})
	expectInvalid(t, Opened(7, 5))
	expectInvalid(t, api.Object{ID: 7, Kind: api.KindPipe, Data: []byte("abc")})
}

func TestP8_1EmptyListsAreZero(t *testing.T) {
	expectValid(t, withEmptyLists(filled(20)))
	expectValid(t, withEmptyLists(New(7)))
	expectInvalid(t, withEmptyLists(api.Object{ID: 7}))
}

func TestP8_2Read(t *testing.T) {
	o := withData("a\x00\xff")
	expectRead(t, o, 0, 'a')
	expectRead(t, o, 1, 0)
	expectRead(t, o, 2, 255)
	for _, n := range []int{0, 1, 2, 257, 4095, 4096} {
		o := filled(n)
		for i, c := range filled(n).Data {
			expectRead(t, o, i, c)
		}
		expectEnd(t, o, n)
	}
}

func TestP8_2ReadAtTheEndAndAfterIt(t *testing.T) {
	for _, n := range []int{0, 1, 2, 257, 4095, 4096} {
		for offset := n; offset < n+300; offset++ {
			expectEnd(t, filled(n), offset)
		}
		for _, offset := range pastFiles() {
			expectEnd(t, filled(n), offset)
		}
	}
}

// TestP8_2EndIsNotThatOfTheMemory has bytes beyond the length of the list.
func TestP8_2EndIsNotThatOfTheMemory(t *testing.T) {
	o := filled(30)
	o.Data = o.Data[:3]
	expectRead(t, o, 2, 7)
	expectEnd(t, o, 3)
	expectEnd(t, o, 29)
	expectWrite(t, o, 5, 'x', "\x05\x06\x07\x00\x00x")
	expectWrite(t, o, 3, 'x', "\x05\x06\x07x")
}

func TestP8_2Example(t *testing.T) {
	expectWrite(t, New(5), 2, 'c', "\x00\x00c")
}

func TestP8_2Write(t *testing.T) {
	expectWrite(t, withData("abc"), 0, 'x', "xbc")
	expectWrite(t, withData("abc"), 1, 'x', "axc")
	expectWrite(t, withData("abc"), 2, 'x', "abx")
	expectWrite(t, withData("abc"), 3, 'x', "abcx")
	expectWrite(t, withData("abc"), 4, 'x', "abc\x00x")
	expectWrite(t, withData("abc"), 6, 'x', "abc\x00\x00\x00x")
	expectWrite(t, withData("abc"), 1, 'b', "abc")
	expectWrite(t, withData("abc"), 1, 0, "a\x00c")
	expectWrite(t, withData("abc"), 4, 0, "abc\x00\x00")
	expectWrite(t, withData(""), 0, 'x', "x")
	expectWrite(t, withData(""), 0, 0, "\x00")
	for c := range 256 {
		expectWrite(t, withData("abc"), 2, byte(c), "ab"+string([]byte{byte(c)}))
		expectWrite(t, withData("abc"), 3, byte(c), "abc"+string([]byte{byte(c)}))
	}
	for _, id := range identifiers() {
		expectWrite(t, New(id), 1, 'x', "\x00x")
	}
}

// written is the definition of Write: what there was, zeros up to the offset, the byte, and what there was behind it.
func written(data string, offset int, c byte) string {
	long := data + strings.Repeat("\x00", max(0, offset-len(data)))
	return long[:offset] + string([]byte{c}) + long[min(offset+1, len(long)):]
}

func TestP8_2WriteEverywhere(t *testing.T) {
	for _, n := range []int{0, 1, 2, 255, 256, 257, 2048, 4094, 4095, 4096} {
		o := filled(n)
		data := string(o.Data)
		for offset := range api.MaxFile {
			if offset%29 == 0 || offset < 5 || offset > 4090 || offset > n-5 && offset < n+5 {
				expectWrite(t, o, offset, 1, written(data, offset, 1))
			}
		}
	}
}

func TestP8_2WriteUpToMaxFile(t *testing.T) {
	expectWrite(t, New(7), 4095, 'x', strings.Repeat("\x00", 4095)+"x")
	expectWrite(t, withData("abc"), 4095, 'x', "abc"+strings.Repeat("\x00", 4092)+"x")
	full, _ := Write(New(7), 4095, 'x')
	expectValid(t, full)
	expectWrite(t, full, 4095, 'y', strings.Repeat("\x00", 4095)+"y")
}

func TestP8_2Range(t *testing.T) {
	for _, o := range []api.Object{New(1), filled(1), filled(20), filled(4096), withEmptyLists(filled(3))} {
		for _, offset := range negatives() {
			expectReadFails(t, o, offset, api.ErrRange)
			expectWriteFails(t, o, offset, api.ErrRange)
		}
	}
}

func TestP8_2Full(t *testing.T) {
	for _, o := range []api.Object{New(1), filled(1), filled(4095), filled(4096), withEmptyLists(filled(3))} {
		for _, offset := range pastFiles() {
			expectWriteFails(t, o, offset, api.ErrFull)
		}
	}
}

func TestP8_2EmptyListsOfTheResultAreNil(t *testing.T) {
	expectWrite(t, withEmptyLists(filled(2)), 1, 'x', "\x05x")
	expectWrite(t, withEmptyLists(New(7)), 1, 'x', "\x00x")
}

// TestConsequenceReadAfterWrite writes here and there, and reads the whole file each time.
func TestConsequenceReadAfterWrite(t *testing.T) {
	o := New(7)
	want := ""
	for i := range 120 {
		offset, c := i*i*7%301, byte(i*13)
		x, e := Write(o, offset, c)
		want = written(want, offset, c)
		expectFile(t, x, e, 7, want)
		expectRead(t, x, offset, c)
		for other := range len(want) {
			expectRead(t, x, other, want[other])
		}
		expectEnd(t, x, len(want))
		if len(x.Data) < len(o.Data) {
			t.Fatalf("the file has %d bytes after %d", len(x.Data), len(o.Data))
		}
		expectValid(t, x)
		o = x
	}
}

// TestConsequenceOtherBytesStay writes at each place of small files with each of some bytes.
func TestConsequenceOtherBytesStay(t *testing.T) {
	for n := range 12 {
		for offset := range 20 {
			for _, c := range []byte{0, 1, 128, 255} {
				x, e := Write(filled(n), offset, c)
				expectFile(t, x, e, 7, written(string(filled(n).Data), offset, c))
				for i, before := range filled(n).Data {
					if i != offset {
						expectRead(t, x, i, before)
					}
				}
				for i := n; i < offset; i++ {
					expectRead(t, x, i, 0)
				}
			}
		}
	}
}

// TestP1NothingIsChanged calls every function with bytes that have other bytes before and behind them.
func TestP1NothingIsChanged(t *testing.T) {
	memory := filled(9000).Data
	before := bytes.Clone(memory)
	for _, n := range []int{0, 1, 2, 3, 100, 4095, 4096, 4097, 5000} {
		o := withEmptyLists(api.Object{ID: 7, Kind: api.KindFile})
		o.Data = memory[1000 : 1000+n]
		want := o
		want.Data = before[1000 : 1000+n]
		for _, offset := range slices.Concat(negatives(), pastFiles(), []int{0, 1, 2, n - 1, n, n + 1, n + 10, 4095}) {
			Valid(o)
			ValidOpen(o)
			Read(o, offset)
			Write(o, offset, 0)
			Write(o, offset, 255)
		}
		if !reflect.DeepEqual(o, want) {
			t.Fatalf("the file is %.200v, want %.200v", o, want)
		}
	}
	if !bytes.Equal(memory, before) {
		t.Fatal("the memory of the files is changed")
	}
}

// TestP1ResultsShareNoMemory overwrites each result, and expects its argument and other results as they were. All files have room, and bytes, beyond their lengths.
func TestP1ResultsShareNoMemory(t *testing.T) {
	for _, n := range []int{0, 1, 5, 40, 4096} {
		for _, offset := range []int{0, 1, 4, 5, 6, 39, 40, 50, 4095} {
			o := filled(5000)
			o.Data = o.Data[:n]
			first, _ := Write(o, offset, 'x')
			second, _ := Write(o, offset, 'x')
			again, e := Write(first, offset, 'x')
			want := written(string(filled(n).Data), offset, 'x')
			clear(second.Data[:cap(second.Data)])
			expectFile(t, first, api.OK, 7, want)
			clear(first.Data[:cap(first.Data)])
			expectFile(t, again, e, 7, want)
			if !bytes.Equal(o.Data[:5000], filled(5000).Data) {
				t.Fatal("a result shares memory with its argument")
			}
		}
	}
}

func TestP1NewFilesAreApart(t *testing.T) {
	a, b := New(7), New(7)
	a.Data = append(a.Data[:cap(a.Data)], 'x')
	expectFile(t, b, api.OK, 7, "")
	expectFile(t, New(7), api.OK, 7, "")
}

// TestP1WhatLiesBeyondIsNotLookedAt gives the same bytes with other memory behind them.
func TestP1WhatLiesBeyondIsNotLookedAt(t *testing.T) {
	for _, beyond := range []byte{0, 1, 'x', 255} {
		o := withEmptyLists(New(7))
		o.Data = append([]byte("abc"), bytes.Repeat([]byte{beyond}, 50)...)[:3]
		o.Words = []int64{int64(beyond)}[:0]
		o.Names = make([]api.Name, 3)[:0]
		expectValid(t, o)
		expectRead(t, o, 2, 'c')
		expectEnd(t, o, 3)
		expectWrite(t, o, 3, 'y', "abcy")
		expectWrite(t, o, 10, 'y', "abc\x00\x00\x00\x00\x00\x00\x00y")
	}
}

func TestP1SameArgumentsSameResults(t *testing.T) {
	o := withData("abc")
	for range 3 {
		expectValid(t, o)
		expectRead(t, o, 1, 'b')
		expectEnd(t, o, 3)
		expectWrite(t, o, 1, 'x', "axc")
		expectWrite(t, o, 4, 'x', "abc\x00x")
		expectWriteFails(t, o, -1, api.ErrRange)
		expectWriteFails(t, o, 4096, api.ErrFull)
		expectFile(t, New(7), api.OK, 7, "")
		expectOpened(t, 8, 5)
	}
}
