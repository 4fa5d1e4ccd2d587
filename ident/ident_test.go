package ident

import (
	"fmt"
	"math"
	"math/big"
	"testing"

	"clusterkernel/api"
)

// origin is a node and one of its boots.
type origin struct{ node, boot int }

// origins lists good ones, on both ends of their ranges and between them.
func origins() []origin {
	var list []origin
	for _, node := range []int{0, 1, 2, 63, 64, 126, api.MaxNode} {
		for _, boot := range []int{0, 1, 3, 255, 256, 257, 32768, api.MaxBoot - 1, api.MaxBoot} {
			list = append(list, origin{node, boot})
		}
	}
	return list
}

// wrongOrigins lists origins of which a number is out of its range, some of them with low bits that would do.
func wrongOrigins() []origin {
	var list []origin
	wrongNodes := []int{-1, -2, -128, -256, math.MinInt32, math.MinInt64, math.MinInt64 + 1, 128, 129, 255, 256, 257, 1 << 32, 1<<32 + 1, 1 << 56, math.MaxInt32, math.MaxInt64}
	wrongBoots := []int{-1, -2, -65536, math.MinInt32, math.MinInt64, math.MinInt64 + 1, 65536, 65537, 1 << 24, 1 << 32, 1<<32 + 1, 1 << 40, math.MaxInt32, math.MaxInt64}
	for _, node := range wrongNodes {
		list = append(list, origin{node, 0}, origin{node, 7}, origin{node, api.MaxBoot}, origin{node, -1})
	}
	for _, boot := range wrongBoots {
		list = append(list, origin{0, boot}, origin{5, boot}, origin{api.MaxNode, boot}, origin{128, boot})
	}
	return list
}

// serials lists good serial numbers.
func serials() []int64 {
	return []int64{1, 2, 4, 255, 256, 65535, 65536, 1<<31 - 1, 1 << 31, 1 << 32, 1<<32 + 1, 1 << 39, api.MaxSerial - 1, api.MaxSerial}
}

// wrongSerials lists numbers below 0 and above MaxSerial.
func wrongSerials() []int64 {
	return []int64{-1, -2, math.MinInt32, -1 << 40, math.MinInt64, math.MinInt64 + 1, 1 << 40, 1<<40 + 1, 1 << 41, 1 << 56, 1 << 62, math.MaxInt64 - 64, math.MaxInt64 - 1, math.MaxInt64}
}

// sum writes the definition of an identifier down with exact numbers.
func sum(node, boot int, serial int64) uint64 {
	power := func(n int64, exponent uint) *big.Int { return new(big.Int).Lsh(big.NewInt(n), exponent) }
	id := new(big.Int).Add(power(int64(node), 56), power(int64(boot), 40))
	return id.Add(id, big.NewInt(serial)).Uint64()
}

// anyIDs lies around all powers of two, and has the identifiers of the good numbers and patterns of bits.
func anyIDs() []uint64 {
	list := []uint64{0, math.MaxUint64, 0x0123456789abcdef, 0xfedcba9876543210, 0xaaaaaaaaaaaaaaaa, 0x5555555555555555}
	for bits := range 64 {
		edge := uint64(1) << bits
		list = append(list, edge-1, edge, edge+1, -edge, -edge-1, -edge+1)
	}
	for _, o := range origins() {
		for _, serial := range append(serials(), 0) {
			id := sum(o.node, o.boot, serial)
			list = append(list, id, id+1<<63)
		}
	}
	return list
}

func TestP3_1Make(t *testing.T) {
	for _, c := range []struct {
		node, boot int
		serial     int64
		id         uint64
	}{
		{0, 0, 1, 1}, {0, 0, 2, 2}, {0, 0, api.MaxSerial, 1099511627775},
		{0, 1, 1, 1099511627777}, {1, 0, 1, 72057594037927937}, {1, 1, 1, 72058693549555713},
		{2, 3, 4, 144118486610739204}, {3, 2, 4, 216174981137039364},
		{127, 65535, 1099511627775, 9223372036854775807}, {127, 0, 1, 9151314442816847873},
	} {
		if id, e := Make(c.node, c.boot, c.serial); id != c.id || e != api.OK {
			t.Errorf("Make(%d, %d, %d) = %d, %d, want %d", c.node, c.boot, c.serial, id, e, c.id)
		}
	}
	for _, o := range origins() {
		for _, serial := range serials() {
			if id, e := Make(o.node, o.boot, serial); id != sum(o.node, o.boot, serial) || e != api.OK {
				t.Errorf("Make(%d, %d, %d) = %d, %d", o.node, o.boot, serial, id, e)
			}
		}
	}
}

func checkMakeFails(t *testing.T, o origin, serial int64) {
	t.Helper()
	if id, e := Make(o.node, o.boot, serial); id != 0 || e != api.ErrRange {
		t.Errorf("Make(%d, %d, %d) = %d, %d, want the error %d", o.node, o.boot, serial, id, e, api.ErrRange)
	}
}

func TestP3_1MakeRange(t *testing.T) {
	for _, o := range wrongOrigins() {
		for _, serial := range append(serials(), 0, -1, 1<<40) {
			checkMakeFails(t, o, serial)
		}
	}
	for _, o := range origins() {
		for _, serial := range append(wrongSerials(), 0) {
			checkMakeFails(t, o, serial)
		}
	}
}

func checkSplit(t *testing.T, id uint64, node, boot int, serial int64) {
	t.Helper()
	if n, b, s := Split(id); n != node || b != boot || s != serial {
		t.Errorf("Split(%d) = %d, %d, %d, want %d, %d, %d", id, n, b, s, node, boot, serial)
	}
}

func TestP3_1Split(t *testing.T) {
	checkSplit(t, 0, 0, 0, 0)
	checkSplit(t, api.Root, 0, 0, 1)
	checkSplit(t, 144118486610739204, 2, 3, 4)
	checkSplit(t, 1<<40, 0, 1, 0)
	checkSplit(t, 1<<40-1, 0, 0, api.MaxSerial)
	checkSplit(t, 1<<56, 1, 0, 0)
	checkSplit(t, 1<<56-1, 0, 65535, api.MaxSerial)
	checkSplit(t, 1<<63, 128, 0, 0)
	checkSplit(t, 1<<63-1, 127, 65535, api.MaxSerial)
	checkSplit(t, 1<<64-1, 255, 65535, api.MaxSerial)
	for _, id := range anyIDs() {
		const boots, serials = 1 << 16, 1 << 40
		checkSplit(t, id, int(id/serials/boots), int(id/serials%boots), int64(id%serials))
		node, boot, serial := Split(id)
		if sum(node, boot, serial) != id {
			t.Errorf("%d is not made of %d, %d and %d", id, node, boot, serial)
		}
	}
}

func TestP3_1Valid(t *testing.T) {
	for _, id := range []uint64{api.Root, 2, 1<<40 - 1, 1<<40 + 1, 1<<56 + 1, 144118486610739204, 1<<63 - 1} {
		if !Valid(id) {
			t.Errorf("Valid(%d) = false", id)
		}
	}
	for _, id := range []uint64{0, 1 << 40, 1 << 41, 65535 << 40, 1 << 56, 127<<56 + 65535<<40, 1 << 63, 1<<63 + 1, 1<<63 + 1<<40, 1<<64 - 1} {
		if Valid(id) {
			t.Errorf("Valid(%d) = true", id)
		}
	}
	for _, id := range anyIDs() {
		want := id < 1<<63 && id%(1<<40) != 0
		if Valid(id) != want {
			t.Errorf("Valid(%d) = %t", id, !want)
		}
	}
}

// TestP3_1ValidIsWhatMakeReturns takes the definition at its word: an identifier is valid if and only if Make returns it for some numbers, which are those of Split if there are any.
func TestP3_1ValidIsWhatMakeReturns(t *testing.T) {
	for _, id := range anyIDs() {
		made, e := Make(Split(id))
		if Valid(id) != (e == api.OK) || e == api.OK && made != id {
			t.Errorf("Valid(%d) = %t, but Make returns %d, %d", id, Valid(id), made, e)
		}
	}
}

func TestConsequencePositive(t *testing.T) {
	for _, o := range origins() {
		for _, serial := range serials() {
			if id, _ := Make(o.node, o.boot, serial); int64(id) <= 0 {
				t.Errorf("Make(%d, %d, %d) is %d as a signed number", o.node, o.boot, serial, int64(id))
			}
		}
		a := api.Allocator{Node: o.node, Boot: o.boot, Serial: api.MaxSerial - api.MaxFresh}
		ids, _, _ := Next(a, api.MaxFresh)
		for _, id := range ids {
			if int64(id) <= 0 {
				t.Errorf("Next(%v) gives %d as a signed number", a, int64(id))
			}
		}
	}
}

// TestP1SameArgumentsSameResults calls every function twice, with errors and without them.
func TestP1SameArgumentsSameResults(t *testing.T) {
	all := func() string {
		text := ""
		for _, o := range append(wrongOrigins(), origins()...) {
			id, e := Make(o.node, o.boot, 9)
			a, f := New(o.node, o.boot)
			ids, b, g := Next(api.Allocator{Node: o.node, Boot: o.boot, Serial: 5}, 3)
			text += fmt.Sprint(id, e, a, f, ids, b, g, Valid(id), Format(id), "\n")
			read, e := Parse(Format(id))
			text += fmt.Sprint(read, e, "\n")
		}
		return text
	}
	if first, second := all(), all(); first != second {
		t.Error("the same arguments have different results")
	}
}
