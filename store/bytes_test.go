package store_test

import (
	"bytes"
	"encoding/binary"
	"math"
	"math/rand/v2"
	"reflect"
	"slices"
	"testing"

	"clusterkernel/api"
	"clusterkernel/store"
)

// layout is what P18.4 writes of o: numbers, identifiers, flags, texts, and lists of bytes.
func layout(o api.Object) []any {
	l := []any{o.Kind, o.ID}
	switch o.Kind {
	case api.KindPage:
		for _, n := range o.Words {
			l = append(l, n)
		}
	case api.KindFile:
		l = append(l, o.Data)
	case api.KindDescription:
		l = append(l, o.Target, o.Refs, o.Offset)
	case api.KindPipe:
		l = append(l, o.Readers, o.Writers, o.Data)
	case api.KindPort:
		l = append(l, o.Refs)
		l = append(l, listed(o.Backlog)...)
	case api.KindChannel:
		l = append(l, o.Ends[0], o.Ends[1], o.Queues[0], o.Queues[1])
	case api.KindSemaphore, api.KindDevice:
		l = append(l, o.Count)
	case api.KindNames:
		l = append(l, len(o.Names))
		for _, n := range o.Names {
			l = append(l, n.Path, n.Kind)
			l = append(l, listed(n.IDs)...)
		}
	case api.KindProcess:
		l = append(l, processLayout(o.Process)...)
	}
	return l
}

func listed(ids []uint64) []any {
	l := []any{len(ids)}
	for _, id := range ids {
		l = append(l, id)
	}
	return l
}

func processLayout(p api.Process) []any {
	l := []any{p.State, p.Parent, p.Status, p.Alarm, p.Pending, p.CPU.PC}
	for _, n := range p.CPU.Regs {
		l = append(l, n)
	}
	l = append(l, listed(p.Children)...)
	l = append(l, len(p.Pages))
	for _, x := range p.Pages {
		l = append(l, x.ID, x.Shared)
	}
	l = append(l, len(p.Table))
	for _, x := range p.Table {
		l = append(l, x.Kind, x.Description, x.Target, x.End)
	}
	l = append(l, p.Program.Pages, len(p.Program.Strings))
	for _, s := range p.Program.Strings {
		l = append(l, s)
	}
	l = append(l, len(p.Program.Code))
	for _, x := range p.Program.Code {
		l = append(l, x.Op, x.A, x.B, x.C)
	}
	return l
}

// numberOf is the number as which x is written: for bytes, that of their length.
func numberOf(x any) int64 {
	switch n := x.(type) {
	case int:
		return int64(n)
	case int64:
		return n
	case uint64:
		return int64(n)
	case bool:
		if n {
			return 1
		}
		return 0
	case string:
		return int64(len(n))
	}
	return int64(len(x.([]byte)))
}

func contentOf(x any) []byte {
	switch c := x.(type) {
	case string:
		return []byte(c)
	case []byte:
		return c
	}
	return nil
}

// written are the bytes of a layout. The numbers of the standard library are the same as those of package pack.
func written(l []any) []byte {
	var b []byte
	for _, x := range l {
		b = append(binary.AppendVarint(b, numberOf(x)), contentOf(x)...)
	}
	return b
}

// used is o with nothing but the fields of o that its kind uses.
func used(o api.Object) api.Object {
	x := api.Object{ID: o.ID, Kind: o.Kind}
	switch o.Kind {
	case api.KindProcess:
		x.Process = o.Process
	case api.KindPage:
		x.Words = o.Words
	case api.KindFile:
		x.Data = o.Data
	case api.KindDescription:
		x.Target, x.Refs, x.Offset = o.Target, o.Refs, o.Offset
	case api.KindPipe:
		x.Readers, x.Writers, x.Data = o.Readers, o.Writers, o.Data
	case api.KindPort:
		x.Refs, x.Backlog = o.Refs, o.Backlog
	case api.KindChannel:
		x.Ends, x.Queues = o.Ends, o.Queues
	case api.KindSemaphore, api.KindDevice:
		x.Count = o.Count
	case api.KindNames:
		x.Names = o.Names
	}
	return x
}

func expectEncode(t *testing.T, o api.Object, want []byte) {
	t.Helper()
	b, e := store.Encode(o)
	if e != api.OK || !bytes.Equal(b, want) {
		t.Fatalf("Encode(%v) = %x, %d, want %x", o, b, e, want)
	}
}

func expectEncodeFails(t *testing.T, o api.Object) {
	t.Helper()
	b, e := store.Encode(o)
	if e != api.ErrInvalid || len(b) != 0 {
		t.Fatalf("Encode(%v) = %x, %d, want the error %d alone", o, b, e, api.ErrInvalid)
	}
}

func expectDecode(t *testing.T, b []byte, want api.Object) {
	t.Helper()
	o, e := store.Decode(b)
	if e != api.OK || !reflect.DeepEqual(clone(o), clone(want)) {
		t.Fatalf("Decode(%x) = %v, %d, want %v", b, o, e, want)
	}
}

func expectDecodeFails(t *testing.T, b []byte) {
	t.Helper()
	o, e := store.Decode(b)
	if e != api.ErrSyntax || !reflect.DeepEqual(o, api.Object{}) {
		t.Fatalf("Decode(%x) = %v, %d, want the error %d alone", b, o, e, api.ErrSyntax)
	}
}

// expectDecodeRight expects that what is decoded, if anything is, is valid and has the bytes b.
func expectDecodeRight(t *testing.T, b []byte) bool {
	t.Helper()
	o, e := store.Decode(b)
	if e != api.OK {
		expectDecodeFails(t, b)
		return false
	}
	if !isValid(o) || !bytes.Equal(written(layout(o)), b) {
		t.Fatalf("Decode(%x) = %v, which has the bytes %x", b, o, written(layout(o)))
	}
	expectEncode(t, o, b)
	return true
}

func TestP18_4Bytes(t *testing.T) {
	for _, o := range valid() {
		expectEncode(t, o, written(layout(o)))
		expectEncode(t, withRoom(o), written(layout(o)))
	}
}

func TestP18_4Examples(t *testing.T) {
	for _, x := range []struct {
		o api.Object
		b string
	}{
		{api.Object{ID: 5, Kind: api.KindSemaphore, Count: 2}, "\x10\x0a\x04"},
		{api.Object{ID: 64, Kind: api.KindSemaphore, Count: 64}, "\x10\x80\x01\x80\x01"},
		{api.Object{ID: 10, Kind: api.KindDevice, Count: -3}, "\x12\x14\x05"},
		{api.Object{ID: 1<<64 - 1, Kind: api.KindDevice, Count: -1}, "\x12\x01\x01"},
		{api.Object{ID: 1 << 63, Kind: api.KindDevice}, "\x12\xff\xff\xff\xff\xff\xff\xff\xff\xff\x01\x00"},
		{api.Object{ID: 1<<63 - 1, Kind: api.KindDevice}, "\x12\xfe\xff\xff\xff\xff\xff\xff\xff\xff\x01\x00"},
		{api.Object{ID: 3, Kind: api.KindPage, Words: words(1, -1, 64, -65, 5)}, "\x04\x06\x02\x01\x80\x01\x81\x01\x0a\x00\x00\x00\x00\x00\x00\x00\x00\x00\x00\x00"},
		{api.Object{ID: 4, Kind: api.KindFile, Data: []byte("hey")}, "\x06\x08\x06hey"},
		{api.Object{ID: 4, Kind: api.KindFile}, "\x06\x08\x00"},
		{api.Object{ID: 9, Kind: api.KindDescription, Target: 4, Refs: 2, Offset: 3}, "\x08\x12\x08\x04\x06"},
		{api.Object{ID: 6, Kind: api.KindPipe, Readers: 1, Writers: 2, Data: []byte{255, 0}}, "\x0a\x0c\x02\x04\x04\xff\x00"},
		{api.Object{ID: 8, Kind: api.KindPort, Refs: 3, Backlog: []uint64{7, 1<<64 - 2}}, "\x0c\x10\x06\x04\x0e\x03"},
		{api.Object{ID: 7, Kind: api.KindChannel, Ends: [2]int{4, 3}, Queues: [2][]byte{{1}, {2, 3}}}, "\x0e\x0e\x08\x06\x02\x01\x04\x02\x03"},
		{nameSpace(), "\x14\x02\x00"},
		{nameSpace(api.Name{Path: "/a", Kind: api.KindFile, IDs: []uint64{4}}, api.Name{Path: "/pq", Kind: api.KindPage, IDs: []uint64{3, 5}}), "\x14\x02\x04\x04/a\x06\x02\x08\x06/pq\x04\x04\x06\x0a"},
		{zombie(3), "\x02\x12\x06\x0a\x06\x00\x00\x00\x00\x00\x00\x00\x00\x00\x00\x00\x00\x00\x00\x00\x00\x00"},
	} {
		expectEncode(t, x.o, []byte(x.b))
		expectDecode(t, []byte(x.b), x.o)
	}
}

// TestP18_4Process has a process of which no two numbers are the same.
func TestP18_4Process(t *testing.T) {
	o := api.Object{ID: 3, Kind: api.KindProcess, Process: api.Process{
		State: api.Dying, Parent: 4, Children: []uint64{23, 24, 25}, Status: 5, Alarm: 6, Pending: 1 << 4,
		Program: api.Program{Code: []api.Instr{{Op: api.OpLoad, A: 7, B: 6, C: 40}, {Op: api.OpCall, A: 13}}, Strings: []string{"ab", "", "c"}, Pages: 12},
		CPU:     api.CPU{PC: 11, Regs: [api.Regs]int64{31, -32, 33, 34, 35, 36, 37, 38}}, Pages: []api.PageRef{{ID: 26}, {ID: 27, Shared: true}},
		Table: []api.Slot{{Kind: api.SlotFile, Description: 28, Target: 29}, {Kind: api.SlotChannel, Target: 30, End: 1}},
	}}
	want := []byte{2, 6, 4, 8, 10, 12, 32, 22, 62, 63, 66, 68, 70, 72, 74, 76, 6, 46, 48, 50, 4, 52, 0, 54, 2, 4, 2, 56, 58, 0, 8, 0, 60, 2,
		24, 6, 4, 'a', 'b', 0, 2, 'c', 4, 20, 14, 12, 80, 24, 26, 0, 0}
	expectEncode(t, o, want)
	expectDecode(t, want, o)
}

func TestP18_4Invalid(t *testing.T) {
	for _, o := range invalid() {
		expectEncodeFails(t, o)
		expectEncodeFails(t, withRoom(o))
	}
	for _, o := range extreme() {
		o.ID = 0
		expectEncodeFails(t, o)
	}
	for _, o := range ordinary() {
		for _, x := range changes(o) {
			if isValid(x.object) {
				expectEncode(t, x.object, written(layout(x.object)))
			}
		}
	}
}

func TestP18_5Valid(t *testing.T) {
	for _, o := range valid() {
		expectDecode(t, written(layout(o)), o)
	}
	for _, o := range ordinary() {
		for _, x := range changes(o) {
			if isValid(x.object) {
				expectDecode(t, written(layout(x.object)), x.object)
			}
		}
	}
}

// TestP18_5BytesOfInvalidObjects has the bytes that objects would have if they were valid.
func TestP18_5BytesOfInvalidObjects(t *testing.T) {
	for _, o := range invalid() {
		if x := used(o); !isValid(x) {
			expectDecodeFails(t, written(layout(x)))
		}
	}
	for _, o := range append(ordinary(), extreme()...) {
		for _, change := range []func(o *api.Object){
			func(o *api.Object) {
				o.Names = append(o.Names, api.Name{Path: "/zz", Kind: api.KindFile, IDs: []uint64{4}})
			},
			func(o *api.Object) { o.Data = append(o.Data, make([]byte, api.MaxFile)...) },
			func(o *api.Object) { o.Backlog = append(o.Backlog, 81, 82, 83, 84, 85, 86) },
			func(o *api.Object) { o.Queues[1] = append(o.Queues[1], make([]byte, api.MaxPipe)...) },
			func(o *api.Object) { o.Process.Children = append(o.Process.Children, 81, 82, 81) },
			func(o *api.Object) {
				o.Process.Program.Strings = append(o.Process.Program.Strings, string(make([]byte, 129)))
			},
			func(o *api.Object) {
				o.Process.Program.Code = append(o.Process.Program.Code, make([]api.Instr, 256)...)
			},
		} {
			x := clone(o)
			change(&x)
			if x = used(x); isValid(x) {
				expectDecode(t, written(layout(x)), x)
			} else {
				expectDecodeFails(t, written(layout(x)))
			}
		}
	}
}

func TestP18_5UnknownKinds(t *testing.T) {
	for kind := int64(-30); kind <= 30; kind++ {
		for _, n := range []int64{kind, kind + 1<<32, kind + 256, kind - 256} {
			b := written([]any{n, 7, 2})
			switch n {
			case api.KindFile:
				expectDecodeFails(t, b)
			case api.KindSemaphore, api.KindDevice:
				expectDecode(t, b, api.Object{ID: 7, Kind: int(n), Count: 2})
			default:
				expectDecodeFails(t, b)
			}
			expectDecodeFails(t, written([]any{n}))
			expectDecodeFails(t, written([]any{n, 7}))
		}
	}
	expectDecodeFails(t, nil)
	expectDecodeFails(t, []byte{})
}

func TestP18_5TooShortOrTooLong(t *testing.T) {
	for _, o := range append(ordinary(), extreme()[3:]...) {
		b := written(layout(o))
		for i := range b {
			expectDecodeFails(t, b[:i])
			expectDecodeFails(t, b[:i:i])
		}
		for _, c := range []byte{0, 1, 2, 127, 128, 255} {
			expectDecodeFails(t, append(slices.Clone(b), c))
			expectDecodeFails(t, append([]byte{c}, b...))
		}
		expectDecodeFails(t, append(slices.Clone(b), b...))
	}
}

// TestP18_5Numbers writes each number of an object in a way in which it is not written: not in its shortest form, and beyond 64 bits.
func TestP18_5Numbers(t *testing.T) {
	for _, o := range ordinary() {
		l := layout(o)
		for i, x := range l {
			before, after := written(l[:i]), append(contentOf(x), written(l[i+1:])...)
			n := binary.AppendVarint(nil, numberOf(x))
			longer := append(slices.Clone(n), 0)
			longer[len(n)-1] |= 128
			eleven := append(bytes.Repeat([]byte{128}, 10), 1)
			for _, wrong := range [][]byte{longer, append(longer[:len(longer)-1:len(longer)], 128, 0), eleven, append(bytes.Repeat([]byte{255}, 9), 2)} {
				expectDecodeFails(t, slices.Concat(before, wrong, after))
			}
		}
	}
}

// TestP18_5OtherNumbers has another number in the place of each one: lengths, flags, and numbers that make the object another one, or invalid.
func TestP18_5OtherNumbers(t *testing.T) {
	decoded := 0
	for _, o := range ordinary() {
		l := layout(o)
		for i, x := range l {
			before, after := written(l[:i]), append(contentOf(x), written(l[i+1:])...)
			n := numberOf(x)
			for _, other := range []int64{n + 1, n - 1, -n, n + 256, n + 1<<32, n ^ math.MinInt64, 0, 1, 2, -1, 255, 256, 257, 1 << 31, 1 << 62, math.MaxInt64, math.MinInt64} {
				if expectDecodeRight(t, slices.Concat(before, binary.AppendVarint(nil, other), after)) {
					decoded++
				}
			}
		}
	}
	if decoded < 1000 {
		t.Errorf("only %d are decoded", decoded)
	}
}

// TestP18_5Flags writes other numbers than 0 and 1 in the place of Shared.
func TestP18_5Flags(t *testing.T) {
	o := api.Object{ID: 7, Kind: api.KindProcess, Process: api.Process{State: api.Alive, Pages: []api.PageRef{{ID: 30}, {ID: 31}}}}
	l := layout(o)
	for page, i := range []int{19, 21} {
		before, after := written(l[:i]), written(l[i+1:])
		x := clone(o)
		x.Process.Pages[page].Shared = true
		expectDecode(t, slices.Concat(before, []byte{0}, after), o)
		expectDecode(t, slices.Concat(before, []byte{2}, after), x)
		for n := int64(-300); n <= 300; n++ {
			for _, flag := range []int64{n, n + 1<<32, n - 1<<32, n ^ math.MinInt64} {
				if flag != 0 && flag != 1 {
					expectDecodeFails(t, slices.Concat(before, binary.AppendVarint(nil, flag), after))
				}
			}
		}
		for n := range 40 { // what comes after something wrong does not make it right
			expectDecodeFails(t, slices.Concat(before, []byte{4}, make([]byte, n), after))
			expectDecodeFails(t, slices.Concat(before, []byte{1}, make([]byte, n), after))
		}
	}
}

// TestP18_5Lengths has lists that say that they have more elements than they have, or less than none.
func TestP18_5Lengths(t *testing.T) {
	for _, n := range []int64{2, 3, 16, 255, 256, 257, 4096, 1 << 31, 1 << 32, 1<<32 + 1, 1 << 62, math.MaxInt64, -1, -2, -256, -1<<32 + 1, math.MinInt64, math.MinInt64 + 1} {
		expectDecodeFails(t, written([]any{api.KindPort, 7, 1, n, 9}))
		expectDecodeFails(t, written([]any{api.KindPort, 7, 1, n}))
		expectDecodeFails(t, written([]any{api.KindNames, 1, n, "/a", api.KindFile, 1, 9}))
		expectDecodeFails(t, written([]any{api.KindNames, 1, 1, "/a", api.KindPage, n, 9}))
		expectDecodeFails(t, append(written([]any{api.KindNames, 1, 1, n}), "/abcd\x06\x02\x12"...))
		expectDecodeFails(t, append(written([]any{api.KindFile, 7, n}), 1))
		expectDecodeFails(t, append(written([]any{api.KindPipe, 7, 1, 1, n}), 1))
		expectDecodeFails(t, append(written([]any{api.KindChannel, 7, 1, 1, n}), 1, 0))
		expectDecodeFails(t, append(written([]any{api.KindChannel, 7, 1, 1, 0, n}), 1))
		expectDecodeFails(t, append(written([]any{api.KindPort, 7, 1, n}), make([]byte, 5000)...))
		expectDecodeFails(t, append(written([]any{api.KindNames, 1, n}), make([]byte, 5000)...))
		for more := range 40 {
			expectDecodeFails(t, append(written([]any{api.KindPort, 7, 1, n}), make([]byte, more)...))
			expectDecodeFails(t, append(written([]any{api.KindNames, 1, n}), make([]byte, more)...))
		}
	}
}

// TestP18_5OtherBytes has other bytes anywhere: what is decoded has the bytes that it is decoded of.
func TestP18_5OtherBytes(t *testing.T) {
	for _, o := range ordinary() {
		b := written(layout(o))
		for i := range b {
			for _, c := range []byte{0, 1, 2, 3, 4, b[i] + 1, b[i] - 1, b[i] ^ 128, b[i] ^ 1, 127, 128, 129, 254, 255} {
				x := slices.Clone(b)
				x[i] = c
				expectDecodeRight(t, x)
				expectDecodeRight(t, slices.Insert(slices.Clone(b), i, c))
			}
			expectDecodeRight(t, slices.Delete(slices.Clone(b), i, i+1))
			expectDecodeRight(t, append(slices.Clone(b[:i]), b[min(i+2, len(b)):]...))
		}
	}
}

func TestP18_5AnyBytes(t *testing.T) {
	g := rand.New(rand.NewPCG(5, 18))
	decoded := 0
	for range 200000 {
		b := make([]byte, g.IntN(25))
		for i := range b {
			b[i] = byte(g.IntN(256) >> g.IntN(8))
		}
		if len(b) > 0 && g.IntN(2) == 0 {
			b[0] = byte(2 * g.IntN(11))
		}
		if expectDecodeRight(t, b) {
			decoded++
		}
	}
	if decoded < 1000 {
		t.Errorf("only %d are decoded", decoded)
	}
	for _, n := range []int{1000, 1 << 20} {
		for c := range 256 {
			expectDecodeFails(t, bytes.Repeat([]byte{byte(c)}, n))
		}
	}
}

// TestP18_5ManyBytes has long bytes that begin like those of each kind.
func TestP18_5ManyBytes(t *testing.T) {
	for _, o := range append(ordinary(), extreme()...) {
		b := written(layout(o))
		for _, c := range []byte{0, 2, 128, 254} {
			expectDecodeFails(t, append(slices.Clone(b), bytes.Repeat([]byte{c}, 1<<20)...))
			expectDecodeFails(t, append(slices.Clone(b[:2]), bytes.Repeat([]byte{c}, 1<<20)...))
		}
	}
}

// TestConsequenceThereAndBack encodes and decodes without looking at the bytes.
func TestConsequenceThereAndBack(t *testing.T) {
	seen := map[string]api.Object{}
	for _, o := range valid() {
		b, e := store.Encode(o)
		x, f := store.Decode(b)
		again, g := store.Encode(x)
		if e != api.OK || f != api.OK || g != api.OK || !store.SameObject(o, x) || !bytes.Equal(b, again) {
			t.Fatalf("%v is %v after %x (errors %d, %d and %d)", o, x, b, e, f, g)
		}
		if other, there := seen[string(b)]; there && !store.SameObject(o, other) {
			t.Fatalf("%v and %v have the same bytes", o, other)
		}
		seen[string(b)] = o
	}
}
