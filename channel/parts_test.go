package channel

import (
	"math"
	"reflect"
	"slices"
	"strconv"
	"testing"

	"clusterkernel/api"
)

// eachPart calls f with every number and every list of v, and with the path to it. They are found by reflection, so that none is forgotten.
func eachPart(v reflect.Value, path string, f func(path string, part reflect.Value)) {
	switch v.Kind() {
	case reflect.Struct:
		for i := range v.NumField() {
			eachPart(v.Field(i), path+"."+v.Type().Field(i).Name, f)
		}
	case reflect.Array:
		for i := range v.Len() {
			eachPart(v.Index(i), path+"["+strconv.Itoa(i)+"]", f)
		}
	default:
		f(path, v)
	}
}

// notZero are some values of a number or of a list: numbers of which some have low bits that are 0, and lists of zeros.
func notZero(kind reflect.Type) []reflect.Value {
	if kind.Kind() == reflect.Slice {
		return []reflect.Value{reflect.MakeSlice(kind, 1, 1), reflect.MakeSlice(kind, 20, 32)}
	}
	var values []reflect.Value
	for _, n := range []int64{1, -1, 2, 256, 1 << 32, math.MinInt64} {
		values = append(values, reflect.ValueOf(n).Convert(kind))
	}
	return values
}

// portParts and channelParts are what a port and a channel use.
func portParts() []string {
	return []string{".ID", ".Kind", ".Refs", ".Backlog"}
}

func channelParts() []string {
	return []string{".ID", ".Kind", ".Ends[0]", ".Ends[1]", ".Queues[0]", ".Queues[1]"}
}

// changedElsewhere returns o with another value in a single part, for each part but those that are used.
func changedElsewhere(o api.Object, used []string) []api.Object {
	var list []api.Object
	x := o
	eachPart(reflect.ValueOf(&x).Elem(), "", func(path string, part reflect.Value) {
		if slices.Contains(used, path) {
			return
		}
		before := reflect.New(part.Type()).Elem()
		before.Set(part)
		for _, value := range notZero(part.Type()) {
			part.Set(value)
			list = append(list, x)
		}
		part.Set(before)
	})
	return list
}

// withEmptyLists returns o with memory in the place of every list that is empty.
func withEmptyLists(o api.Object) api.Object {
	eachPart(reflect.ValueOf(&o).Elem(), "", func(_ string, part reflect.Value) {
		if part.Kind() == reflect.Slice && part.Len() == 0 {
			part.Set(reflect.MakeSlice(part.Type(), 0, 4))
		}
	})
	return o
}

// identifiers are some of those that an object can have.
func identifiers() []uint64 {
	return []uint64{1, 2, 7, 1<<32 - 1, 1 << 32, 1<<57 + 5, 1<<63 - 1, 1 << 63, math.MaxUint64}
}

// counts are how many times a port, or an end of a channel, can be referred to.
func counts() []int {
	return []int{0, 1, 2, 3, 16, 255, 256, 1 << 16, 1<<29 + 1, 1<<30 - 1, 1 << 30}
}

// noCounts are numbers that no port and no end has. The low bits of some would do.
func noCounts() []int {
	return []int{math.MinInt64, math.MinInt64 + 1, -1 << 32, -1<<32 + 1, -1 << 31, -1 << 30, -256, -2, -1,
		1<<30 + 1, 1<<30 + 2, 1<<31 - 1, 1 << 31, 1 << 32, 1<<32 + 1, 1 << 62, math.MaxInt64}
}

// otherKinds are all kinds around those of objects but one, and some whose low bits are those of this one.
func otherKinds(kind int) []int {
	list := []int{math.MinInt64, -1 << 32, kind - 256, kind + 256, kind + 1<<32, -kind, math.MaxInt64}
	for other := -20; other <= 20; other++ {
		if other != kind {
			list = append(list, other)
		}
	}
	return list
}

// TestPartsAreFound looks after the tests themselves: a part that is not found would not be tested.
func TestPartsAreFound(t *testing.T) {
	var paths []string
	lists := 0
	o := withEmptyLists(api.Object{})
	eachPart(reflect.ValueOf(&o).Elem(), "", func(path string, part reflect.Value) {
		paths = append(paths, path)
		if part.Kind() == reflect.Slice {
			lists++
			if part.Len() != 0 || part.Cap() != 4 {
				t.Errorf("%s has %d elements and room for %d", path, part.Len(), part.Cap())
			}
		}
	})
	if len(paths) != 36 || lists != 11 {
		t.Errorf("%d parts are found, and %d of them are lists: %v", len(paths), lists, paths)
	}
	for _, want := range append(portParts(), channelParts()...) {
		if !slices.Contains(paths, want) {
			t.Errorf("%s is not found", want)
		}
	}
	expectChanges(t, changedElsewhere(NewPort(7), portParts()), NewPort(7), 2*10+6*22) // all lists but Backlog, and all numbers but three
	expectChanges(t, changedElsewhere(New(7), channelParts()), New(7), 2*9+6*21)       // all lists but Queues, and all numbers but four
}

func expectChanges(t *testing.T, changed []api.Object, o api.Object, want int) {
	t.Helper()
	if len(changed) != want {
		t.Errorf("%d objects are changed, want %d", len(changed), want)
	}
	for i, x := range changed {
		if reflect.DeepEqual(x, o) || i > 0 && reflect.DeepEqual(x, changed[i-1]) {
			t.Errorf("the change %d changes nothing", i)
		}
	}
}
