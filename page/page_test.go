package page

import (
	"math"
	"reflect"
	"slices"
	"testing"

	"clusterkernel/api"
)

// full is a page without a word that is 0, so that one that is cleared is noticed.
func full(id uint64) api.Object {
	o := api.Object{ID: id, Kind: api.KindPage}
	for i := range int64(api.PageWords) {
		o.Words = append(o.Words, 1000*(i+1))
	}
	o.Words[3], o.Words[8] = math.MinInt64, math.MaxInt64
	return o
}

func identifiers() []uint64 {
	return []uint64{1, 2, 7, 1<<32 - 1, 1 << 32, 1<<57 + 5, 1<<63 - 1, 1 << 63, math.MaxUint64}
}

func values() []int64 {
	return []int64{math.MinInt64, -1 << 32, -1<<31 - 1, -1, 0, 1, 255, 256, 1 << 31, 1 << 32, 1<<53 + 1, math.MaxInt64}
}

func noWords() []int {
	return []int{math.MinInt64, -1<<32 + 1, -1 << 32, -17, -16, -2, -1, 16, 17, 31, 32, 255, 256, 1 << 32, 1<<32 + 1, math.MaxInt64}
}

// expectPage compares all fields, and nil differs from an empty list: the lists that a page does not use have to be nil, as memory of their own would be of no use.
func expectPage(t *testing.T, got api.Object, e api.Errno, id uint64, words []int64) {
	t.Helper()
	if want := (api.Object{ID: id, Kind: api.KindPage, Words: words}); e != api.OK || !reflect.DeepEqual(got, want) {
		t.Errorf("page is %v (error %d), want %v", got, e, want)
	}
}

func expectValid(t *testing.T, o api.Object) {
	t.Helper()
	if !Valid(o) {
		t.Errorf("Valid(%v) = false", o)
	}
	if n, e := Get(o, 15); n != o.Words[15] || e != api.OK {
		t.Errorf("Get(%v, 15) = %d, %d", o, n, e)
	}
	words := slices.Clone(o.Words[:api.PageWords])
	copied, e := Copy(o, 5)
	expectPage(t, copied, e, 5, words)
	words[2] = -2
	changed, e := Set(o, 2, -2)
	expectPage(t, changed, e, o.ID, words)
}

func expectGetFails(t *testing.T, o api.Object, word int, want api.Errno) {
	t.Helper()
	if n, e := Get(o, word); n != 0 || e != want {
		t.Errorf("Get(%v, %d) = %d, %d, want the error %d", o, word, n, e, want)
	}
}

func expectSetFails(t *testing.T, o api.Object, word int, want api.Errno) {
	t.Helper()
	for _, value := range values() {
		if x, e := Set(o, word, value); !reflect.DeepEqual(x, api.Object{}) || e != want {
			t.Errorf("Set(%v, %d, %d) = %v, %d, want the error %d", o, word, value, x, e, want)
		}
	}
}

func expectCopyFails(t *testing.T, o api.Object, id uint64) {
	t.Helper()
	if x, e := Copy(o, id); !reflect.DeepEqual(x, api.Object{}) || e != api.ErrInvalid {
		t.Errorf("Copy(%v, %d) = %v, %d, want the error %d", o, id, x, e, api.ErrInvalid)
	}
}

// expectInvalid expects ErrInvalid also where ErrRange applies too.
func expectInvalid(t *testing.T, o api.Object) {
	t.Helper()
	if Valid(o) {
		t.Errorf("Valid(%v) = true", o)
	}
	for _, word := range append(noWords(), 0, 1, 15) {
		expectGetFails(t, o, word, api.ErrInvalid)
		expectSetFails(t, o, word, api.ErrInvalid)
	}
	for _, id := range append(identifiers(), 0) {
		expectCopyFails(t, o, id)
	}
}

// change is a change of a single number, string or list of an object.
type change struct {
	path  string
	apply func(o *api.Object)
}

// changes are changes of each field of an object, and of the fields of these, each to a value that is not zero. They are found by reflection, so that none is forgotten.
func changes() []change {
	return changesOf(reflect.TypeFor[api.Object](), "", func(o reflect.Value) reflect.Value { return o })
}

func changesOf(kind reflect.Type, path string, find func(o reflect.Value) reflect.Value) []change {
	var list []change
	switch kind.Kind() {
	case reflect.Struct:
		for i := range kind.NumField() {
			field := kind.Field(i)
			list = append(list, changesOf(field.Type, path+"."+field.Name, func(o reflect.Value) reflect.Value { return find(o).Field(i) })...)
		}
	case reflect.Array:
		for i := range kind.Len() {
			list = append(list, changesOf(kind.Elem(), path+"["+string(rune('0'+i))+"]", func(o reflect.Value) reflect.Value { return find(o).Index(i) })...)
		}
	default:
		for _, value := range notZero(kind) {
			list = append(list, change{path, func(o *api.Object) { find(reflect.ValueOf(o).Elem()).Set(value) }})
		}
	}
	return list
}

func notZero(kind reflect.Type) []reflect.Value {
	numbers := []int64{1, -1, 256, 1 << 32, math.MinInt64}
	var list []reflect.Value
	for _, n := range numbers {
		value := reflect.New(kind).Elem()
		switch {
		case value.CanInt():
			value.SetInt(n)
		case value.CanUint():
			value.SetUint(uint64(n))
		case kind.Kind() == reflect.Slice:
			return []reflect.Value{reflect.MakeSlice(kind, 1, 1), reflect.MakeSlice(kind, 20, 32)}
		default:
			panic("no value for " + kind.String())
		}
		list = append(list, value)
	}
	return list
}

func TestP6_1New(t *testing.T) {
	for _, id := range identifiers() {
		expectPage(t, New(id), api.OK, id, make([]int64, api.PageWords))
		expectValid(t, New(id))
	}
}

func TestP6_1NewWithoutIdentifier(t *testing.T) {
	expectPage(t, New(0), api.OK, 0, make([]int64, api.PageWords))
	expectInvalid(t, New(0))
}

func TestP6_1NewPagesAreApart(t *testing.T) {
	a, b := New(7), New(7)
	a.Words[0] = 5
	expectPage(t, b, api.OK, 7, make([]int64, api.PageWords))
	expectPage(t, New(7), api.OK, 7, make([]int64, api.PageWords))
}

func TestP6_1ValidWithAnyIdentifierAndWords(t *testing.T) {
	for _, id := range identifiers() {
		expectValid(t, full(id))
	}
	for _, value := range values() {
		o := New(7)
		for i := range o.Words {
			o.Words[i] = value
		}
		expectValid(t, o)
	}
}

func TestP6_1InvalidKind(t *testing.T) {
	for kind := -20; kind <= 20; kind++ {
		if kind != api.KindPage {
			o := full(7)
			o.Kind = kind
			expectInvalid(t, o)
		}
	}
	for _, kind := range []int{math.MinInt64, -1 << 32, api.KindPage - 256, api.KindPage + 256, api.KindPage + 1<<32, math.MaxInt64} {
		o := full(7)
		o.Kind = kind
		expectInvalid(t, o)
	}
}

func TestP6_1InvalidIdentifier(t *testing.T) {
	o := full(7)
	o.ID = 0
	expectInvalid(t, o)
}

func TestP6_1InvalidNumberOfWords(t *testing.T) {
	o := full(7)
	o.Words = nil
	expectInvalid(t, o)
	for n := range 40 {
		o.Words = make([]int64, n, 64)
		if n != api.PageWords {
			expectInvalid(t, o)
		} else {
			expectValid(t, o)
		}
	}
	o.Words = make([]int64, 1<<16)
	expectInvalid(t, o)
}

func TestP6_1InvalidOtherFields(t *testing.T) {
	seen := map[string]bool{}
	for _, c := range changes() {
		if c.path == ".ID" || c.path == ".Kind" || c.path == ".Words" {
			continue
		}
		seen[c.path] = true
		for _, o := range []api.Object{full(7), New(7)} {
			c.apply(&o)
			expectInvalid(t, o)
		}
	}
	for _, path := range []string{".Refs", ".Process.State", ".Process.Program.Strings", ".Process.CPU.Regs[7]", ".Data", ".Queues[1]", ".Ends[0]", ".Count", ".Names"} {
		if !seen[path] {
			t.Errorf("the field %s was not changed", path)
		}
	}
}

func TestP6_1InvalidZeroObject(t *testing.T) {
	expectInvalid(t, api.Object{})
	expectInvalid(t, api.Object{ID: 7})
	expectInvalid(t, api.Object{Kind: api.KindPage})
	expectInvalid(t, api.Object{Words: make([]int64, api.PageWords)})
}

// otherLists gives lists with no items, and with memory of their own, to the fields that a page does not use.
func otherLists(o api.Object) api.Object {
	o.Process.Children = make([]uint64, 0, 4)
	o.Process.Program = api.Program{Code: make([]api.Instr, 0, 4), Strings: make([]string, 0, 4)}
	o.Process.Pages = make([]api.PageRef, 0, 4)
	o.Process.Table = make([]api.Slot, 0, 4)
	o.Data = make([]byte, 0, 4)
	o.Backlog = make([]uint64, 0, 4)
	o.Queues = [2][]byte{make([]byte, 0, 4), make([]byte, 0, 4)}
	o.Names = make([]api.Name, 0, 4)
	return o
}

func TestP6_1EmptyListsAreZero(t *testing.T) {
	expectValid(t, otherLists(full(7)))
	o := full(7)
	o.Words = nil
	expectInvalid(t, otherLists(o))
}

func TestP6_2Example(t *testing.T) {
	for word := range 16 {
		if n, e := Get(New(7), word); n != 0 || e != api.OK {
			t.Errorf("Get(New(7), %d) = %d, %d", word, n, e)
		}
	}
}

func TestP6_2Get(t *testing.T) {
	o := full(7)
	for word, want := range full(7).Words {
		if n, e := Get(o, word); n != want || e != api.OK {
			t.Errorf("Get(%v, %d) = %d, %d, want %d", o, word, n, e, want)
		}
	}
}

func TestP6_2Set(t *testing.T) {
	for _, id := range identifiers() {
		for word := range api.PageWords {
			for _, value := range values() {
				want := full(id).Words
				want[word] = value
				x, e := Set(full(id), word, value)
				expectPage(t, x, e, id, want)
			}
		}
	}
}

func TestP6_2Copy(t *testing.T) {
	for _, from := range identifiers() {
		for _, to := range identifiers() {
			x, e := Copy(full(from), to)
			expectPage(t, x, e, to, full(from).Words)
		}
	}
}

func TestP6_2Range(t *testing.T) {
	for _, o := range []api.Object{full(7), New(1), otherLists(full(7))} {
		for _, word := range noWords() {
			expectGetFails(t, o, word, api.ErrRange)
			expectSetFails(t, o, word, api.ErrRange)
		}
	}
}

// TestP6_2RangeIsNotThatOfTheMemory has words beyond the length of the list.
func TestP6_2RangeIsNotThatOfTheMemory(t *testing.T) {
	o := full(7)
	o.Words = append(o.Words, 17, 18)[:api.PageWords]
	expectGetFails(t, o, 16, api.ErrRange)
	expectSetFails(t, o, 16, api.ErrRange)
}

func TestP6_2CopyWithoutIdentifier(t *testing.T) {
	expectCopyFails(t, full(7), 0)
	expectCopyFails(t, New(1), 0)
	expectCopyFails(t, New(0), 0)
	expectCopyFails(t, api.Object{}, 0)
}

func TestConsequenceGetAfterSet(t *testing.T) {
	o := New(7)
	want := make([]int64, api.PageWords)
	for i := range 200 {
		word := i * 7 % api.PageWords
		value := values()[i%len(values())] + int64(i)
		x, e := Set(o, word, value)
		want[word] = value
		expectPage(t, x, e, 7, want)
		for other := range api.PageWords {
			if n, e := Get(x, other); n != want[other] || e != api.OK {
				t.Errorf("Get of the word %d = %d, %d, want %d", other, n, e, want[other])
			}
		}
		o = x
	}
}

// TestConsequencePagesNeverShareTheirWords changes every word of a page, and expects the others as they were.
func TestConsequencePagesNeverShareTheirWords(t *testing.T) {
	make4 := func() [4]api.Object {
		o := full(7)
		same, _ := Set(o, 4, o.Words[4])
		copied, _ := Copy(o, 9)
		again, _ := Copy(copied, 7)
		return [4]api.Object{o, same, copied, again}
	}
	for changed := range 4 {
		pages, want := make4(), make4()
		for i := range pages[changed].Words[:cap(pages[changed].Words)] {
			pages[changed].Words[:cap(pages[changed].Words)][i] = -77
		}
		for i := range pages {
			if i != changed {
				expectPage(t, pages[i], api.OK, want[i].ID, want[i].Words)
			}
		}
	}
}

// TestP1NothingIsChanged calls every function with words that have other words before and behind them.
func TestP1NothingIsChanged(t *testing.T) {
	memory := make([]int64, 40)
	for i := range memory {
		memory[i] = int64(i) - 100
	}
	before := slices.Clone(memory)
	for n := range 20 {
		o := otherLists(api.Object{ID: 7, Kind: api.KindPage, Words: memory[8 : 8+n]})
		for word := -2; word < 20; word++ {
			Valid(o)
			Get(o, word)
			Set(o, word, 5)
			Copy(o, uint64(word+2))
		}
		if want := otherLists(api.Object{ID: 7, Kind: api.KindPage, Words: before[8 : 8+n]}); !reflect.DeepEqual(o, want) {
			t.Errorf("the page is %v, want %v", o, want)
		}
	}
	if !slices.Equal(memory, before) {
		t.Errorf("the memory is %v, want %v", memory, before)
	}
}

// TestP1WhatLiesBeyondIsNotLookedAt gives the same words with other memory behind them.
func TestP1WhatLiesBeyondIsNotLookedAt(t *testing.T) {
	for _, beyond := range values() {
		o := full(7)
		o.Words = slices.Repeat([]int64{beyond}, 30)[:api.PageWords]
		copy(o.Words, full(7).Words)
		o.Data = []byte{byte(beyond), 1}[:0]
		o.Names = make([]api.Name, 3)[:0]
		expectValid(t, o)
		x, e := Set(o, 15, 5)
		want := full(7).Words
		want[15] = 5
		expectPage(t, x, e, 7, want)
	}
}

func TestP1SameArgumentsSameResults(t *testing.T) {
	o := full(7)
	for range 3 {
		x, e := Set(o, 1, 5)
		want := full(7).Words
		want[1] = 5
		expectPage(t, x, e, 7, want)
		x, e = Copy(o, 9)
		expectPage(t, x, e, 9, full(7).Words)
		if n, e := Get(o, 1); n != 2000 || e != api.OK {
			t.Errorf("Get = %d, %d", n, e)
		}
	}
}
