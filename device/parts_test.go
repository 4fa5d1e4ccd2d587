package device

import (
	"math"
	"reflect"
	"slices"
	"strconv"
	"testing"

	"clusterkernel/api"
)

// eachPart calls f with every number and every list of v, and with the path to it. They are found by reflection, so that none is forgotten.
func eachPart(v reflect.Value, path string, f func(path string, part reflect.Value)) {
	switch v.Kind() {
	case reflect.Struct:
		for i := range v.NumField() {
			eachPart(v.Field(i), path+"."+v.Type().Field(i).Name, f)
		}
	case reflect.Array:
		for i := range v.Len() {
			eachPart(v.Index(i), path+"["+strconv.Itoa(i)+"]", f)
		}
	default:
		f(path, v)
	}
}

// notZero are some values of a number or of a list: numbers of which some have low bits that are 0, and lists of zeros.
func notZero(kind reflect.Type) []reflect.Value {
	if kind.Kind() == reflect.Slice {
		return []reflect.Value{reflect.MakeSlice(kind, 1, 1), reflect.MakeSlice(kind, 20, 32)}
	}
	var values []reflect.Value
	for _, n := range []int64{1, -1, 2, 256, 1 << 32, math.MinInt64} {
		values = append(values, reflect.ValueOf(n).Convert(kind))
	}
	return values
}

// usedParts are what a device uses.
func usedParts() []string {
	return []string{".ID", ".Kind", ".Count"}
}

// changedElsewhere returns o with another value in a single part, for each part that a device does not use.
func changedElsewhere(o api.Object) []api.Object {
	var list []api.Object
	x := o
	eachPart(reflect.ValueOf(&x).Elem(), "", func(path string, part reflect.Value) {
		if slices.Contains(usedParts(), path) {
			return
		}
		before := reflect.New(part.Type()).Elem()
		before.Set(part)
		for _, value := range notZero(part.Type()) {
			part.Set(value)
			list = append(list, x)
		}
		part.Set(before)
	})
	return list
}

// room is how much memory the lists of withLists have.
const room = 4

// withLists returns o with new memory of sevens in the place of every list, of which the first n belong to the list.
func withLists(o api.Object, n int) api.Object {
	eachPart(reflect.ValueOf(&o).Elem(), "", func(_ string, part reflect.Value) {
		if part.Kind() == reflect.Slice {
			part.Set(sevens(part.Type(), room).Slice(0, n))
		}
	})
	return o
}

func sevens(kind reflect.Type, n int) reflect.Value {
	list := reflect.MakeSlice(kind, n, n)
	for i := range n {
		eachPart(list.Index(i), "", func(_ string, part reflect.Value) {
			switch part.Kind() {
			case reflect.Slice:
				part.Set(sevens(part.Type(), 2))
			case reflect.String:
				part.SetString("7")
			case reflect.Bool:
				part.SetBool(true)
			default:
				part.Set(reflect.ValueOf(7).Convert(part.Type()))
			}
		})
	}
	return list
}

// withAllMemory returns o with lists that are as long as their memory.
func withAllMemory(o api.Object) api.Object {
	eachPart(reflect.ValueOf(&o).Elem(), "", func(_ string, part reflect.Value) {
		if part.Kind() == reflect.Slice {
			part.Set(part.Slice(0, part.Cap()))
		}
	})
	return o
}

// TestPartsAreFound looks after the tests themselves: a part that is not found would not be tested.
func TestPartsAreFound(t *testing.T) {
	var paths []string
	lists := 0
	o := withLists(api.Object{}, 0)
	eachPart(reflect.ValueOf(&o).Elem(), "", func(path string, part reflect.Value) {
		paths = append(paths, path)
		if part.Kind() == reflect.Slice {
			lists++
			if part.Len() != 0 || part.Cap() != room {
				t.Errorf("%s has %d elements and room for %d", path, part.Len(), part.Cap())
			}
		}
	})
	if len(paths) != 36 || lists != 11 {
		t.Errorf("%d parts are found, and %d of them are lists: %v", len(paths), lists, paths)
	}
	for _, want := range append(usedParts(), ".Process.State", ".Process.Program.Pages", ".Process.CPU.Regs[7]", ".Data", ".Queues[1]", ".Ends[1]", ".Names") {
		if !slices.Contains(paths, want) {
			t.Errorf("%s is not found", want)
		}
	}
	changed := changedElsewhere(withCount(7))
	if len(changed) != 2*11+6*22 { // all lists, and all numbers but three
		t.Errorf("%d objects are changed", len(changed))
	}
	for i, x := range changed {
		if reflect.DeepEqual(x, withCount(7)) || i > 0 && reflect.DeepEqual(x, changed[i-1]) {
			t.Errorf("the change %d changes nothing", i)
		}
	}
}

// TestMemoryIsFound looks after the tests themselves: memory that is not found would not be tested.
func TestMemoryIsFound(t *testing.T) {
	seven := api.Name{Path: "7", Kind: 7, IDs: []uint64{7, 7}}
	for n := range room + 1 {
		o := withLists(withCount(3), n)
		if len(o.Names) != n || len(o.Process.Table) != n || len(o.Queues[1]) != n {
			t.Errorf("the lists are not of the length %d: %v", n, o)
		}
		all := withAllMemory(o)
		if len(all.Names) != room || !reflect.DeepEqual(all.Names[room-1], seven) || string(all.Queues[1]) != "\a\a\a\a" || !all.Process.Pages[3].Shared {
			t.Errorf("the memory is %v", all)
		}
		all.Data[3] = 8
		if o.Data[:room][3] != 8 {
			t.Error("the memory is another one")
		}
		if reflect.DeepEqual(withAllMemory(o), withAllMemory(withLists(withCount(3), n))) {
			t.Error("a change of the memory is not found")
		}
	}
}
