package store_test

import (
	"math"
	"reflect"
	"slices"
	"strconv"
	"testing"

	"clusterkernel/api"
)

// eachPart calls f with every number, text, flag and list in v, also with those in the elements of lists, and with the path to it. They are found by reflection, so that none is forgotten.
func eachPart(v reflect.Value, path string, f func(path string, part reflect.Value)) {
	switch v.Kind() {
	case reflect.Struct:
		for i := range v.NumField() {
			eachPart(v.Field(i), path+"."+v.Type().Field(i).Name, f)
		}
	case reflect.Array:
		for i := range v.Len() {
			eachPart(v.Index(i), path+"["+strconv.Itoa(i)+"]", f)
		}
	case reflect.Slice:
		f(path, v)
		for i := range v.Len() {
			eachPart(v.Index(i), path+"["+strconv.Itoa(i)+"]", f)
		}
	default:
		f(path, v)
	}
}

// rebuilt returns a copy of v in which lists makes every list anew.
func rebuilt(v reflect.Value, lists func(list reflect.Value) reflect.Value) reflect.Value {
	made := reflect.New(v.Type()).Elem()
	made.Set(v)
	switch v.Kind() {
	case reflect.Struct:
		for i := range v.NumField() {
			made.Field(i).Set(rebuilt(v.Field(i), lists))
		}
	case reflect.Array:
		for i := range v.Len() {
			made.Index(i).Set(rebuilt(v.Index(i), lists))
		}
	case reflect.Slice:
		made.Set(lists(v))
		for i := range made.Len() {
			made.Index(i).Set(rebuilt(made.Index(i), lists))
		}
	}
	return made
}

func rebuiltAs[T any](x T, lists func(list reflect.Value) reflect.Value) T {
	return rebuilt(reflect.ValueOf(x), lists).Interface().(T)
}

// clone returns a copy of x, with nil for every list that is empty, as they mean the same.
func clone[T any](x T) T {
	return rebuiltAs(x, func(list reflect.Value) reflect.Value {
		if list.Len() == 0 {
			return reflect.Zero(list.Type())
		}
		return copyOf(list)
	})
}

func copyOf(list reflect.Value) reflect.Value {
	made := reflect.MakeSlice(list.Type(), list.Len(), list.Len())
	reflect.Copy(made, list)
	return made
}

// room is how much memory the lists of withRoom have beyond their lengths.
const room = 3

// withRoom returns a copy of x whose lists, also the empty ones, have memory of sevens beyond their lengths.
func withRoom[T any](x T) T {
	return rebuiltAs(x, func(list reflect.Value) reflect.Value {
		made := reflect.MakeSlice(list.Type(), list.Len()+room, list.Len()+room)
		fillWithSevens(made)
		reflect.Copy(made, list)
		return made.Slice(0, list.Len())
	})
}

// whole returns a copy of x whose lists are as long as their memory, to compare what lies beyond the lengths too.
func whole[T any](x T) T {
	return rebuiltAs(x, func(list reflect.Value) reflect.Value { return copyOf(list.Slice(0, list.Cap())) })
}

func fillWithSevens(list reflect.Value) {
	for i := range list.Len() {
		list.Index(i).Set(seven(list.Type().Elem()))
	}
}

func seven(kind reflect.Type) reflect.Value {
	v := reflect.New(kind).Elem()
	switch kind.Kind() {
	case reflect.Struct:
		for i := range kind.NumField() {
			v.Field(i).Set(seven(kind.Field(i).Type))
		}
	case reflect.Array:
		for i := range kind.Len() {
			v.Index(i).Set(seven(kind.Elem()))
		}
	case reflect.Slice:
		v.Set(reflect.MakeSlice(kind, 2, 2))
		fillWithSevens(v)
	case reflect.String:
		v.SetString("7")
	case reflect.Bool:
		v.SetBool(true)
	default:
		v.Set(reflect.ValueOf(7).Convert(kind))
	}
	return v
}

// overwrite fills all memory of the lists in v with sevens.
func overwrite(v reflect.Value) {
	eachPart(v, "", func(_ string, part reflect.Value) {
		if part.Kind() == reflect.Slice {
			overwriteList(part.Slice(0, part.Cap()))
		}
	})
}

func overwriteList(list reflect.Value) {
	for i := range list.Len() {
		overwrite(list.Index(i))
	}
	fillWithSevens(list)
}

// change is an object in which a single part is another one.
type change struct {
	path   string
	object api.Object
}

// changes are objects that differ from o in a single part, for each part of o and each of some other values.
func changes(o api.Object) []change {
	var list []change
	for i := range partsOf(o) {
		for _, other := range otherValues(part(&o, i)) {
			x := clone(o)
			part(&x, i).Set(other)
			list = append(list, change{partsOf(o)[i], x})
		}
	}
	return list
}

func partsOf(o api.Object) []string {
	var paths []string
	eachPart(reflect.ValueOf(&o).Elem(), "", func(path string, _ reflect.Value) { paths = append(paths, path) })
	return paths
}

// part returns the part of o whose path is partsOf(o)[number].
func part(o *api.Object, number int) reflect.Value {
	var found reflect.Value
	i := 0
	eachPart(reflect.ValueOf(o).Elem(), "", func(_ string, part reflect.Value) {
		if i == number {
			found = part
		}
		i++
	})
	return found
}

// otherValues are some values that v does not have: numbers of which some have the same low bits, the same numbers without a sign or the same high bits.
func otherValues(v reflect.Value) []reflect.Value {
	switch v.Kind() {
	case reflect.Slice:
		return otherLists(v)
	case reflect.String:
		s := v.String()
		return without(v, []any{"", s + "a", s + "\x00", "/" + s, "x" + s[min(1, len(s)):], s[:max(1, len(s))-1]})
	case reflect.Bool:
		return []reflect.Value{reflect.ValueOf(!v.Bool())}
	case reflect.Uint8:
		c := byte(v.Uint())
		return without(v, []any{c + 1, c - 1, c ^ 128, byte(0)})
	case reflect.Uint64:
		n := v.Uint()
		return without(v, []any{n + 1, n - 1, n ^ 1<<32, n ^ 1<<63, uint64(0), uint64(math.MaxUint64)})
	}
	n := v.Int()
	var list []any
	for _, other := range []int64{n + 1, n - 1, -n, n ^ 1<<32, n ^ 1<<30, n ^ math.MinInt64, 0, 1, -1, math.MaxInt64} {
		list = append(list, reflect.ValueOf(other).Convert(v.Type()).Interface())
	}
	return without(v, list)
}

func without(v reflect.Value, values []any) []reflect.Value {
	var list []reflect.Value
	for _, value := range values {
		if value != v.Interface() {
			list = append(list, reflect.ValueOf(value))
		}
	}
	return list
}

// otherLists are lists with an element more, an element less, no elements, and the elements in another order.
func otherLists(list reflect.Value) []reflect.Value {
	n := list.Len()
	made := []reflect.Value{
		reflect.Append(copyOf(list), reflect.Zero(list.Type().Elem())),
		reflect.Append(copyOf(list), seven(list.Type().Elem())),
	}
	if n > 0 {
		made = append(made, copyOf(list.Slice(0, n-1)), copyOf(list.Slice(1, n)), reflect.Append(copyOf(list), list.Index(n-1)))
	}
	for i := 1; i < n; i++ {
		swapped := copyOf(list)
		reflect.Swapper(swapped.Interface())(0, i)
		if !reflect.DeepEqual(swapped.Interface(), list.Interface()) {
			made = append(made, swapped)
		}
	}
	return made
}

// memory is the addresses of a list, from one up to another.
type memory struct {
	path     string
	from, to uintptr
}

// memoryOf is the memory of all lists in x, up to their capacities, in ascending order.
func memoryOf(x any) []memory {
	var list []memory
	eachPart(reflect.ValueOf(x), "", func(path string, part reflect.Value) {
		if part.Kind() == reflect.Slice && part.Cap() > 0 {
			list = append(list, memory{path, part.Pointer(), part.Pointer() + uintptr(part.Cap())*part.Type().Elem().Size()})
		}
	})
	slices.SortFunc(list, func(a, b memory) int { return int(a.from) - int(b.from) })
	return list
}

// expectNoneShared expects that no two lists in x have memory in common.
func expectNoneShared(t *testing.T, x any) {
	t.Helper()
	list := memoryOf(x)
	for i := 1; i < len(list); i++ {
		if list[i].from < list[i-1].to {
			t.Fatalf("%s and %s share memory", list[i-1].path, list[i].path)
		}
	}
}

// TestPartsAreFound looks after the tests themselves: a part that is not found would not be tested.
func TestPartsAreFound(t *testing.T) {
	paths := partsOf(full(1))
	for _, want := range []string{
		".ID", ".Kind", ".Refs", ".Process.State", ".Process.Parent", ".Process.Children", ".Process.Children[2]", ".Process.Program.Code[2].C", ".Process.Program.Strings[2]",
		".Process.Program.Pages", ".Process.CPU.PC", ".Process.CPU.Regs[7]", ".Process.Pages[2].ID", ".Process.Pages[0].Shared", ".Process.Table[2].End", ".Process.Pending",
		".Process.Alarm", ".Process.Status", ".Words[2]", ".Data[2]", ".Offset", ".Target", ".Readers", ".Writers", ".Backlog[2]", ".Queues[0][2]", ".Queues[1]", ".Queues[1][2]",
		".Ends[0]", ".Ends[1]", ".Count", ".Names", ".Names[2].Path", ".Names[2].Kind", ".Names[2].IDs", ".Names[2].IDs[2]",
	} {
		if !slices.Contains(paths, want) {
			t.Errorf("%s is not found", want)
		}
	}
	found := map[string]bool{}
	for _, x := range changes(full(1)) {
		found[x.path] = true
		if reflect.DeepEqual(x.object, full(1)) {
			t.Errorf("a change of %s changes nothing", x.path)
		}
	}
	if len(paths) != 105 || len(found) != len(paths) {
		t.Errorf("%d parts are found, and %d are changed: %v", len(paths), len(found), paths)
	}
	for i := range paths {
		o := full(1)
		if p := part(&o, i); p.IsZero() {
			t.Errorf("%s is zero", paths[i])
		}
	}
}

// TestMemoryIsFound looks after the tests themselves: memory that is not found would not be tested.
func TestMemoryIsFound(t *testing.T) {
	o := withRoom(full(1))
	if !reflect.DeepEqual(clone(o), full(1)) || !reflect.DeepEqual(clone(withRoom(api.Object{})), api.Object{}) {
		t.Errorf("withRoom is %v", o)
	}
	kept := whole(o)
	if len(kept.Names) != 3+room || len(kept.Names[2].IDs) != 3+room || kept.Names[3+room-1].Path != "7" || kept.Words[3+room-1] != 7 {
		t.Errorf("whole is %v", kept)
	}
	o.Names[2].IDs[:4][3] = 8
	if reflect.DeepEqual(whole(o), kept) {
		t.Error("a change beyond a length is not found")
	}
	overwrite(reflect.ValueOf(o))
	if o.Names[:5][4].Kind != 7 || o.Process.Program.Strings[1] != "7" || o.Process.Children[0] != 7 || o.Queues[1][0] != 7 {
		t.Errorf("what is overwritten is %v", o)
	}
	if kept.Names[0].Kind == 7 || kept.Process.Children[0] == 7 {
		t.Error("whole shares memory with the object")
	}
	if n := len(memoryOf(full(1))); n != 14 {
		t.Errorf("the memory of %d lists is found", n)
	}
}
