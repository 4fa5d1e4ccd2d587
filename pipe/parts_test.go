package pipe

import (
	"math"
	"reflect"
	"slices"
	"strconv"
	"testing"

	"clusterkernel/api"
)

// eachPart calls f with every number and every list of v, and with the path to it. They are found by reflection, so that none is forgotten.
func eachPart(v reflect.Value, path string, f func(path string, part reflect.Value)) {
	switch v.Kind() {
	case reflect.Struct:
		for i := range v.NumField() {
			eachPart(v.Field(i), path+"."+v.Type().Field(i).Name, f)
		}
	case reflect.Array:
		for i := range v.Len() {
			eachPart(v.Index(i), path+"["+strconv.Itoa(i)+"]", f)
		}
	default:
		f(path, v)
	}
}

// notZero are some values of a number or of a list: numbers of which some have low bits that are 0, and lists of zeros.
func notZero(kind reflect.Type) []reflect.Value {
	if kind.Kind() == reflect.Slice {
		return []reflect.Value{reflect.MakeSlice(kind, 1, 1), reflect.MakeSlice(kind, 20, 32)}
	}
	var values []reflect.Value
	for _, n := range []int64{1, -1, 2, 256, 1 << 32, math.MinInt64} {
		values = append(values, reflect.ValueOf(n).Convert(kind))
	}
	return values
}

// changedElsewhere returns o with another value in a single part, for each part that a pipe does not use.
func changedElsewhere(o api.Object) []api.Object {
	var list []api.Object
	x := o
	eachPart(reflect.ValueOf(&x).Elem(), "", func(path string, part reflect.Value) {
		if slices.Contains([]string{".ID", ".Kind", ".Readers", ".Writers", ".Data"}, path) {
			return
		}
		before := reflect.New(part.Type()).Elem()
		before.Set(part)
		for _, value := range notZero(part.Type()) {
			part.Set(value)
			list = append(list, x)
		}
		part.Set(before)
	})
	return list
}

// withEmptyLists returns o with memory in the place of every list that is empty.
func withEmptyLists(o api.Object) api.Object {
	eachPart(reflect.ValueOf(&o).Elem(), "", func(_ string, part reflect.Value) {
		if part.Kind() == reflect.Slice && part.Len() == 0 {
			part.Set(reflect.MakeSlice(part.Type(), 0, 4))
		}
	})
	return o
}

// TestPartsAreFound looks after the tests themselves: a part that is not found would not be tested.
func TestPartsAreFound(t *testing.T) {
	var paths []string
	lists := 0
	o := withEmptyLists(api.Object{})
	eachPart(reflect.ValueOf(&o).Elem(), "", func(path string, part reflect.Value) {
		paths = append(paths, path)
		if part.Kind() == reflect.Slice {
			lists++
			if part.Len() != 0 || part.Cap() != 4 {
				t.Errorf("%s has %d elements and room for %d", path, part.Len(), part.Cap())
			}
		}
	})
	if len(paths) != 36 || lists != 11 {
		t.Errorf("%d parts are found, and %d of them are lists: %v", len(paths), lists, paths)
	}
	for _, want := range []string{".ID", ".Process.State", ".Process.Program.Pages", ".Process.CPU.Regs[7]", ".Process.Status", ".Data", ".Queues[1]", ".Ends[1]", ".Names"} {
		if !slices.Contains(paths, want) {
			t.Errorf("%s is not found", want)
		}
	}
	changed := changedElsewhere(New(7))
	if len(changed) != 2*10+6*21 { // all lists but Data, and all numbers but four
		t.Errorf("%d objects are changed", len(changed))
	}
	for i, x := range changed {
		if reflect.DeepEqual(x, New(7)) || i > 0 && reflect.DeepEqual(x, changed[i-1]) {
			t.Errorf("the change %d changes nothing", i)
		}
	}
}
