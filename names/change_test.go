package names

import (
	"math"
	"reflect"
	"slices"
	"testing"

	"clusterkernel/api"
)

// part is a number, a string or a list somewhere in an object.
type part struct {
	path string
	find func(o reflect.Value) reflect.Value
}

// parts are all parts of an object. They are found by reflection, so that none is forgotten.
func parts() []part {
	var list []part
	var collect func(kind reflect.Type, p part)
	collect = func(kind reflect.Type, p part) {
		switch kind.Kind() {
		case reflect.Struct:
			for i := range kind.NumField() {
				field := kind.Field(i)
				collect(field.Type, part{p.path + "." + field.Name, func(o reflect.Value) reflect.Value { return p.find(o).Field(i) }})
			}
		case reflect.Array:
			for i := range kind.Len() {
				collect(kind.Elem(), part{p.path + "[" + string(rune('0'+i)) + "]", func(o reflect.Value) reflect.Value { return p.find(o).Index(i) }})
			}
		default:
			list = append(list, p)
		}
	}
	collect(reflect.TypeFor[api.Object](), part{"", func(o reflect.Value) reflect.Value { return o }})
	return list
}

// changed returns o with each of some values that are not zero in the place of a part, one at a time.
func (p part) changed(o api.Object) []api.Object {
	var list []api.Object
	add := func(set func(place reflect.Value)) {
		x := o
		set(p.find(reflect.ValueOf(&x).Elem()))
		list = append(list, x)
	}
	if kind := p.kind(); kind.Kind() == reflect.Slice {
		add(func(place reflect.Value) { place.Set(reflect.MakeSlice(kind, 1, 1)) })
		add(func(place reflect.Value) { place.Set(reflect.MakeSlice(kind, 20, 32)) })
		return list
	}
	for _, n := range []int64{1, -1, 2, 256, 1 << 32, math.MinInt64} {
		add(func(place reflect.Value) {
			if place.CanUint() {
				place.SetUint(uint64(n))
			} else {
				place.SetInt(n)
			}
		})
	}
	return list
}

// emptied returns o with an empty list, which has memory of its own, in the place of a list that is not used.
func (p part) emptied(o api.Object) api.Object {
	place := p.find(reflect.ValueOf(&o).Elem())
	if place.Kind() == reflect.Slice && place.Len() == 0 {
		place.Set(reflect.MakeSlice(place.Type(), 0, 4))
	}
	return o
}

func (p part) kind() reflect.Type {
	return p.find(reflect.New(reflect.TypeFor[api.Object]()).Elem()).Type()
}

// withEmptyLists returns o with memory of their own for all lists that it does not use.
func withEmptyLists(o api.Object) api.Object {
	for _, p := range parts() {
		o = p.emptied(o)
	}
	return o
}

// changedElsewhere returns o with a change in a single part, for each part but those that are used.
func changedElsewhere(o api.Object, used ...string) []api.Object {
	var list []api.Object
	for _, p := range parts() {
		if !slices.Contains(used, p.path) {
			list = append(list, p.changed(o)...)
		}
	}
	return list
}

// TestPartsAreFound looks after the tests themselves: a part that is not found would not be tested.
func TestPartsAreFound(t *testing.T) {
	var paths []string
	for _, p := range parts() {
		paths = append(paths, p.path)
		for _, x := range p.changed(api.Object{}) {
			if reflect.DeepEqual(x, api.Object{}) {
				t.Errorf("a change of %s changes nothing", p.path)
			}
		}
	}
	for _, want := range []string{
		".ID", ".Kind", ".Refs", ".Process.State", ".Process.Program.Code", ".Process.Program.Pages", ".Process.CPU.PC", ".Process.CPU.Regs[7]",
		".Process.Status", ".Words", ".Data", ".Offset", ".Target", ".Readers", ".Writers", ".Backlog", ".Queues[0]", ".Queues[1]", ".Ends[0]", ".Ends[1]", ".Count", ".Names",
	} {
		if !slices.Contains(paths, want) {
			t.Errorf("%s is not found", want)
		}
	}
}
