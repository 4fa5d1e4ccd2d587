package process

import (
	"math"
	"reflect"
	"slices"
	"strconv"
	"strings"
	"testing"

	"clusterkernel/api"
)

// eachPart calls f with every number and every list of v, and with the path to it. They are found by reflection, so that none is forgotten.
func eachPart(v reflect.Value, path string, f func(path string, part reflect.Value)) {
	switch v.Kind() {
	case reflect.Struct:
		for i := range v.NumField() {
			eachPart(v.Field(i), path+"."+v.Type().Field(i).Name, f)
		}
	case reflect.Array:
		for i := range v.Len() {
			eachPart(v.Index(i), path+"["+strconv.Itoa(i)+"]", f)
		}
	default:
		f(path, v)
	}
}

// belongsToProcesses tells whether a process uses the part with this path.
func belongsToProcesses(path string) bool {
	return path == ".ID" || path == ".Kind" || strings.HasPrefix(path, ".Process.")
}

// staysInZombies tells whether what is left of a process uses the part with this path, which belongs to processes.
func staysInZombies(path string) bool {
	return slices.Contains([]string{".ID", ".Kind", ".Process.State", ".Process.Parent", ".Process.Status"}, path)
}

// notZero are some values of a number or of a list: numbers of which some have low bits that are 0, lists of zeros, and lists that a process can have.
func notZero(kind reflect.Type) []reflect.Value {
	if kind.Kind() == reflect.Slice {
		return append(right(kind), reflect.MakeSlice(kind, 1, 1), reflect.MakeSlice(kind, 20, 32))
	}
	var values []reflect.Value
	for _, n := range []int64{1, 2, 8, 256, 1 << 30, 1 << 32, -1, math.MinInt64} {
		values = append(values, reflect.ValueOf(n).Convert(kind))
	}
	return values
}

// right returns a list that a process can have, if there is one of this kind.
func right(kind reflect.Type) []reflect.Value {
	for _, list := range []any{[]uint64{20}, []api.PageRef{{ID: 30}}, []api.Slot{{Kind: api.SlotSem, Target: 40}}} {
		if reflect.TypeOf(list) == kind {
			return []reflect.Value{reflect.ValueOf(list)}
		}
	}
	return nil
}

// changedAt returns o with another value in a single part, for each part whose path is wanted.
func changedAt(o api.Object, wanted func(path string) bool) []api.Object {
	var list []api.Object
	x := o
	eachPart(reflect.ValueOf(&x).Elem(), "", func(path string, part reflect.Value) {
		if !wanted(path) {
			return
		}
		before := reflect.New(part.Type()).Elem()
		before.Set(part)
		for _, value := range notZero(part.Type()) {
			part.Set(value)
			list = append(list, x)
		}
		part.Set(before)
	})
	return list
}

func changedElsewhere(o api.Object) []api.Object {
	return changedAt(o, func(path string) bool { return !belongsToProcesses(path) })
}

func zombiesWithMore(o api.Object) []api.Object {
	return changedAt(o, func(path string) bool { return belongsToProcesses(path) && !staysInZombies(path) })
}

// room is how much memory the lists of withRoom have beyond their lengths.
const room = 3

// withRoom returns o with copies of all its lists, which have memory of sevens beyond their lengths.
func withRoom(o api.Object) api.Object {
	eachPart(reflect.ValueOf(&o).Elem(), "", func(_ string, part reflect.Value) {
		if part.Kind() == reflect.Slice {
			part.Set(roomy(part))
		}
	})
	return o
}

func roomy(list reflect.Value) reflect.Value {
	n := list.Len()
	made := reflect.MakeSlice(list.Type(), n+room, n+room)
	fillWithSevens(made)
	reflect.Copy(made, list)
	return made.Slice(0, n)
}

// fillWithSevens overwrites all that a list has.
func fillWithSevens(list reflect.Value) {
	for i := range list.Len() {
		eachPart(list.Index(i), "", func(_ string, part reflect.Value) {
			switch part.Kind() {
			case reflect.Slice:
				part.Set(reflect.MakeSlice(part.Type(), 7, 7))
			case reflect.String:
				part.SetString("7")
			case reflect.Bool:
				part.SetBool(true)
			default:
				part.Set(reflect.ValueOf(7).Convert(part.Type()))
			}
		})
	}
}

// overwrite fills all memory of the lists of o with sevens.
func overwrite(o api.Object) {
	eachPart(reflect.ValueOf(&o).Elem(), "", func(_ string, part reflect.Value) {
		if part.Kind() == reflect.Slice {
			fillWithSevens(part.Slice(0, part.Cap()))
		}
	})
}

// whole is a copy of o in which every list is as long as its memory, to compare what lies beyond the lengths too.
func whole(o api.Object) api.Object {
	eachPart(reflect.ValueOf(&o).Elem(), "", func(_ string, part reflect.Value) {
		if part.Kind() == reflect.Slice {
			kept := reflect.MakeSlice(part.Type(), part.Cap(), part.Cap())
			reflect.Copy(kept, part.Slice(0, part.Cap()))
			part.Set(kept)
		}
	})
	return o
}

// withNil returns o with nil for every list that is empty, as they mean the same.
func withNil(o api.Object) api.Object {
	eachPart(reflect.ValueOf(&o).Elem(), "", func(_ string, part reflect.Value) {
		if part.Kind() == reflect.Slice && part.Len() == 0 {
			part.SetZero()
		}
	})
	return o
}

// TestPartsAreFound looks after the tests themselves: a part that is not found would not be tested.
func TestPartsAreFound(t *testing.T) {
	var paths []string
	lists := 0
	o := alive()
	eachPart(reflect.ValueOf(&o).Elem(), "", func(path string, part reflect.Value) {
		paths = append(paths, path)
		if part.Kind() == reflect.Slice {
			lists++
		}
		if belongsToProcesses(path) && path != ".Process.Status" && part.IsZero() {
			t.Errorf("%s is zero", path)
		}
	})
	if len(paths) != 36 || lists != 11 {
		t.Errorf("%d parts are found, and %d of them are lists: %v", len(paths), lists, paths)
	}
	for _, want := range []string{".ID", ".Kind", ".Refs", ".Process.State", ".Process.Program.Pages", ".Process.CPU.Regs[7]", ".Process.Table", ".Queues[1]", ".Ends[1]", ".Names"} {
		if !slices.Contains(paths, want) {
			t.Errorf("%s is not found", want)
		}
	}
	expectChanges(t, changedElsewhere(alive()), alive(), 2*5+3+8*8)                   // all lists but those of processes, of which the backlog is one of identifiers, and Refs, Offset, Target, Readers, Writers, Ends and Count
	expectChanges(t, zombiesWithMore(zombie(7, 5, 3)), zombie(7, 5, 3), 3*3+2*2+8*12) // all lists of processes, Pages of the program, PC, eight registers, Pending and Alarm
}

func expectChanges(t *testing.T, changed []api.Object, o api.Object, want int) {
	t.Helper()
	if len(changed) != want {
		t.Errorf("%d objects are changed, want %d", len(changed), want)
	}
	for i, x := range changed {
		if reflect.DeepEqual(x, o) || i > 0 && reflect.DeepEqual(x, changed[i-1]) {
			t.Errorf("the change %d changes nothing", i)
		}
	}
}

// TestMemoryIsFound looks after the tests themselves: memory that is not found would not be tested.
func TestMemoryIsFound(t *testing.T) {
	o := withRoom(alive())
	if !reflect.DeepEqual(withNil(o), alive()) {
		t.Errorf("withRoom is %v", o)
	}
	kept := whole(o)
	if len(kept.Process.Children) != len(o.Process.Children)+room || len(kept.Words) != room || kept.Process.Table[3+room-1].End != 7 || kept.Names[room-1].Path != "7" {
		t.Errorf("whole is %v", kept)
	}
	o.Process.Pages[:5][4].ID = 8
	if reflect.DeepEqual(whole(o), kept) {
		t.Error("a change beyond a length is not found")
	}
	overwrite(o)
	if o.Process.Children[0] != 7 || o.Process.Program.Strings[0] != "7" || !o.Process.Pages[0].Shared || o.Process.Table[:5][4].Kind != 7 || o.Process.Program.Code[0].C != 7 {
		t.Errorf("what is overwritten is %v", o)
	}
	if kept.Process.Children[0] == 7 || kept.Process.Program.Strings[0] == "7" {
		t.Errorf("whole shares memory with the object: %v", kept)
	}
	if empty := withNil(withRoom(api.Object{})); !reflect.DeepEqual(empty, api.Object{}) {
		t.Errorf("the empty lists are not nil: %v", empty)
	}
}
