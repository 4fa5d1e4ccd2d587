package alarm

import (
	"reflect"
	"testing"

	"clusterkernel/api"
)

// fill puts something that is not zero into every part of v, each time another number. Lists get three elements, and two more beyond their lengths. Parts are found by reflection, so that none is forgotten.
func fill(v reflect.Value, n *int64) {
	switch v.Kind() {
	case reflect.Struct:
		for i := range v.NumField() {
			fill(v.Field(i), n)
		}
	case reflect.Array:
		for i := range v.Len() {
			fill(v.Index(i), n)
		}
	case reflect.Slice:
		v.Set(reflect.MakeSlice(v.Type(), 3, 5))
		for i := range 5 {
			fill(v.Slice(0, 5).Index(i), n)
		}
	case reflect.String:
		v.SetString("string")
	case reflect.Bool:
		v.SetBool(true)
	default:
		*n++
		v.Set(reflect.ValueOf(*n).Convert(v.Type()))
	}
}

// whole is a copy of v in which every list is as long as its memory, to compare what lies beyond the lengths too.
func whole(v reflect.Value) reflect.Value {
	w := reflect.New(v.Type()).Elem()
	w.Set(v)
	lists(w, func(list reflect.Value) {
		kept := reflect.MakeSlice(list.Type(), list.Cap(), list.Cap())
		reflect.Copy(kept, list.Slice(0, list.Cap()))
		list.Set(kept)
	})
	return w
}

// lists calls f with every list of v. No element of a list of a process has a list.
func lists(v reflect.Value, f func(list reflect.Value)) {
	switch v.Kind() {
	case reflect.Struct:
		for i := range v.NumField() {
			lists(v.Field(i), f)
		}
	case reflect.Slice:
		f(v)
	}
}

// wipe makes everything zero that the lists of p have in their memory, beyond their lengths too.
func wipe(p api.Process) {
	lists(reflect.ValueOf(p), func(list reflect.Value) {
		list.Slice(0, list.Cap()).Clear()
	})
}

// full is a process without a part that is zero, but for those that are given.
func full(state int, alarm, pending int64) api.Process {
	var p api.Process
	n := int64(20)
	fill(reflect.ValueOf(&p).Elem(), &n)
	p.State, p.Alarm, p.Pending = state, alarm, pending
	return p
}

// wholeProcess is a copy of p to compare with what it was.
func wholeProcess(p api.Process) api.Process {
	return whole(reflect.ValueOf(p)).Interface().(api.Process)
}

// withRoom returns p with new lists, which are empty but have memory.
func withRoom(p api.Process) api.Process {
	lists(reflect.ValueOf(&p).Elem(), func(list reflect.Value) {
		list.Set(reflect.MakeSlice(list.Type(), 0, 4))
	})
	return p
}

// withNil returns p with nil for every list that is empty, as they mean the same.
func withNil(p api.Process) api.Process {
	lists(reflect.ValueOf(&p).Elem(), func(list reflect.Value) {
		if list.Len() == 0 {
			list.SetZero()
		}
	})
	return p
}

// TestPartsAreFound looks after the tests themselves: a part that is not found would not be tested.
func TestPartsAreFound(t *testing.T) {
	p := full(api.Alive, 3, 4)
	v := reflect.ValueOf(p)
	for i := range v.NumField() {
		if v.Field(i).IsZero() {
			t.Errorf("%s is zero", v.Type().Field(i).Name)
		}
	}
	if p.State != api.Alive || p.Alarm != 3 || p.Pending != 4 || p.Program.Pages == 0 || p.CPU.PC == 0 || p.CPU.Regs[7] == p.CPU.Regs[6] ||
		p.Children[2] == p.Children[1] || p.Program.Code[2].C == 0 || p.Program.Strings[2] != "string" || !p.Pages[2].Shared || p.Pages[:5][4].ID == 0 || p.Table[:5][4].End == 0 {
		t.Errorf("full is %v", p)
	}
	if !reflect.DeepEqual(p, full(api.Alive, 3, 4)) {
		t.Error("full is not always the same")
	}
	found := 0
	lists(v, func(reflect.Value) { found++ })
	if found != 5 { // Children, Code, Strings, Pages, Table
		t.Errorf("%d lists are found", found)
	}
}

// TestMemoryIsFound looks after the tests themselves: memory that is not found would not be tested.
func TestMemoryIsFound(t *testing.T) {
	p := full(api.Alive, 3, 4)
	kept := wholeProcess(p)
	if len(kept.Children) != 5 || len(kept.Program.Code) != 5 || len(kept.Program.Strings) != 5 || len(kept.Pages) != 5 || len(kept.Table) != 5 || kept.Table[4] != p.Table[:5][4] {
		t.Errorf("whole is %v", kept)
	}
	p.Children[:5][4] = 0
	if reflect.DeepEqual(wholeProcess(p), kept) {
		t.Error("a change beyond a length is not found")
	}
	wipe(p)
	if p.Children[0] != 0 || p.Program.Code[2].C != 0 || p.Program.Strings[:5][4] != "" || p.Pages[1].Shared || p.Table[:5][3].Kind != 0 {
		t.Errorf("what is wiped is %v", p)
	}
	if kept.Children[0] == 0 || kept.Table[3].Kind == 0 {
		t.Errorf("whole shares memory with the process: %v", kept)
	}
	empty := withRoom(p)
	if len(empty.Children) != 0 || cap(empty.Children) != 4 || empty.Table == nil || len(p.Children) != 3 {
		t.Errorf("the empty lists are those of %v", empty)
	}
	if got := withNil(empty); got.Children != nil || got.Program.Code != nil || got.Table != nil || got.State != api.Alive || withNil(p).Children == nil {
		t.Errorf("the lists are not nil: %v", got)
	}
}
