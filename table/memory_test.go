package table

import (
	"reflect"
	"testing"

	"clusterkernel/api"
)

// fill puts something that is not zero into every part of v, each time another number. Lists get three elements, and two more beyond their lengths. Parts are found by reflection, so that none is forgotten.
func fill(v reflect.Value, n *int64) {
	switch v.Kind() {
	case reflect.Struct:
		for i := range v.NumField() {
			fill(v.Field(i), n)
		}
	case reflect.Array:
		for i := range v.Len() {
			fill(v.Index(i), n)
		}
	case reflect.Slice:
		v.Set(reflect.MakeSlice(v.Type(), 3, 5))
		for i := range 5 {
			fill(v.Slice(0, 5).Index(i), n)
		}
	case reflect.String:
		v.SetString("string")
	case reflect.Bool:
		v.SetBool(true)
	default:
		fillNumber(v, n)
	}
}

func fillNumber(v reflect.Value, n *int64) {
	*n = *n%200 + 1 // so that every one of them is a byte
	if v.CanUint() {
		v.SetUint(uint64(*n))
	} else {
		v.SetInt(*n)
	}
}

// whole is a copy of v in which every list is as long as its memory, to compare what lies beyond the lengths too.
func whole(v reflect.Value) reflect.Value {
	w := reflect.New(v.Type()).Elem()
	switch v.Kind() {
	case reflect.Struct:
		for i := range v.NumField() {
			w.Field(i).Set(whole(v.Field(i)))
		}
	case reflect.Array:
		for i := range v.Len() {
			w.Index(i).Set(whole(v.Index(i)))
		}
	case reflect.Slice:
		w.Set(reflect.MakeSlice(v.Type(), v.Cap(), v.Cap()))
		for i := range v.Cap() {
			w.Index(i).Set(whole(v.Slice(0, v.Cap()).Index(i)))
		}
	default:
		w.Set(v)
	}
	return w
}

// wipe makes everything zero that the lists in v have in their memory, beyond their lengths too.
func wipe(v reflect.Value) {
	switch v.Kind() {
	case reflect.Struct:
		for i := range v.NumField() {
			wipe(v.Field(i))
		}
	case reflect.Array:
		for i := range v.Len() {
			wipe(v.Index(i))
		}
	case reflect.Slice:
		for i := range v.Cap() {
			element := v.Slice(0, v.Cap()).Index(i)
			wipe(element)
			element.SetZero()
		}
	}
}

// lists calls f with every list in v, also those in the elements of lists.
func lists(v reflect.Value, f func(list reflect.Value)) {
	switch v.Kind() {
	case reflect.Struct:
		for i := range v.NumField() {
			lists(v.Field(i), f)
		}
	case reflect.Array:
		for i := range v.Len() {
			lists(v.Index(i), f)
		}
	case reflect.Slice:
		f(v)
		for i := range v.Len() {
			lists(v.Index(i), f)
		}
	}
}

// full is an object without a part that is zero, but for its identifier and its kind, which are given.
func full(id uint64, kind int) api.Object {
	var o api.Object
	n := int64(0)
	fill(reflect.ValueOf(&o).Elem(), &n)
	o.ID, o.Kind = id, kind
	return o
}

// wholeObject is a copy of o to compare with what it was.
func wholeObject(o api.Object) api.Object {
	return whole(reflect.ValueOf(o)).Interface().(api.Object)
}

// wholeTable is a copy of t to compare with what it was.
func wholeTable(t []api.Slot) []api.Slot {
	return whole(reflect.ValueOf(t)).Interface().([]api.Slot)
}

// TestPartsAreFound looks after the tests themselves: a list that is not found would not be tested.
func TestPartsAreFound(t *testing.T) {
	o := full(7, api.KindPipe)
	if o.Process.Program.Strings[2] != "string" || o.Process.Pages[2].ID == 0 || !o.Process.Pages[2].Shared || o.Process.Table[:5][4].Kind == 0 || o.Process.CPU.Regs[7] == 0 ||
		o.Names[:5][4].IDs[:5][4] == 0 || o.Queues[1][2] == 0 || o.Ends[1] == 0 || o.Words[2] == o.Words[1] || o.Target == 0 || o.Count == 0 {
		t.Fatalf("full is %v", o)
	}
	if !reflect.DeepEqual(o, full(7, api.KindPipe)) {
		t.Fatal("full is not always the same")
	}
	found := 0
	lists(reflect.ValueOf(o), func(reflect.Value) { found++ })
	if want := 11 + len(o.Names); found != want { // five of the process, Words, Data, Backlog, two Queues, Names, and the IDs of each name
		t.Fatalf("%d lists are found, want %d", found, want)
	}
	kept := wholeObject(o)
	if len(kept.Names) != 5 || len(kept.Names[4].IDs) != 5 || len(kept.Queues[1]) != 5 || !reflect.DeepEqual(kept, wholeObject(o)) {
		t.Fatalf("whole is %v", kept)
	}
	wipe(reflect.ValueOf(o))
	if o.Names[2].IDs != nil || o.Queues[1][:5][4] != 0 || o.Process.Program.Strings[0] != "" || reflect.DeepEqual(kept, wholeObject(o)) {
		t.Fatalf("what is wiped is %v", o)
	}
}
