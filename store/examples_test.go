package store_test

import (
	"math"
	"math/rand/v2"
	"reflect"
	"strings"

	"clusterkernel/api"
	"clusterkernel/channel"
	"clusterkernel/device"
	"clusterkernel/file"
	"clusterkernel/names"
	"clusterkernel/page"
	"clusterkernel/pipe"
	"clusterkernel/process"
	"clusterkernel/semaphore"
)

// isValid tells whether o is valid as P18.1 says.
func isValid(o api.Object) bool {
	switch o.Kind {
	case api.KindPage:
		return page.Valid(o)
	case api.KindFile:
		return file.Valid(o)
	case api.KindDescription:
		return file.ValidOpen(o)
	case api.KindNames:
		return names.Valid(o)
	case api.KindPipe:
		return pipe.Valid(o)
	case api.KindPort:
		return channel.ValidPort(o)
	case api.KindChannel:
		return channel.Valid(o)
	case api.KindSemaphore:
		return semaphore.Valid(o)
	case api.KindProcess:
		return process.Valid(o)
	case api.KindDevice:
		return device.Valid(o)
	}
	return false
}

// alive is a process without a part that is zero, but for its status.
func alive() api.Object {
	return api.Object{ID: 9, Kind: api.KindProcess, Process: api.Process{
		State:    api.Alive,
		Parent:   5,
		Children: []uint64{20, 1<<63 + 9, 21},
		Program: api.Program{
			Code:    []api.Instr{{Op: api.OpSet, A: 1, B: -70}, {Op: api.OpAdd, A: 7, B: 6, C: 5}, {}, {Op: api.OpStore, A: 2, B: 3, C: 256}},
			Strings: []string{"/a", "", "\x00\xff"},
			Pages:   3,
		},
		CPU:     api.CPU{PC: -2, Regs: [api.Regs]int64{1, -2, 3, math.MinInt64, math.MaxInt64, 60, 70, 8000}},
		Pages:   []api.PageRef{{ID: 30}, {ID: 40, Shared: true}, {ID: 1<<64 - 2}, {ID: 40, Shared: true}},
		Table:   []api.Slot{{Kind: api.SlotFile, Description: 50, Target: 51}, {}, {Kind: api.SlotChannel, Target: 52, End: 1}, {Kind: api.SlotSem, Target: 1 << 63}},
		Pending: 1<<1 | 1<<14 | 1<<31,
		Alarm:   90,
	}}
}

func dying() api.Object {
	o := alive()
	o.Process.State, o.Process.Status = api.Dying, -9
	return o
}

func bare(state int) api.Object {
	return api.Object{ID: 9, Kind: api.KindProcess, Process: api.Process{State: state}}
}

func zombie(status int64) api.Object {
	return api.Object{ID: 9, Kind: api.KindProcess, Process: api.Process{State: api.Zombie, Parent: 5, Status: status}}
}

func nameSpace(l ...api.Name) api.Object {
	return api.Object{ID: api.Root, Kind: api.KindNames, Names: l}
}

func words(l ...int64) []int64 {
	return append(l, make([]int64, api.PageWords-len(l))...)
}

// ordinary are valid objects of all kinds, in all of their states.
func ordinary() []api.Object {
	return []api.Object{
		nameSpace(),
		nameSpace(api.Name{Path: "/a", Kind: api.KindFile, IDs: []uint64{4}}, api.Name{Path: "/p/q_0-z", Kind: api.KindPage, IDs: []uint64{3, 1 << 63, 3}}, api.Name{Path: "/r", Kind: api.KindPort, IDs: []uint64{70}}),
		alive(), dying(), bare(api.Alive), bare(api.Dying), zombie(0), zombie(3), zombie(math.MinInt64),
		{ID: 3, Kind: api.KindPage, Words: words()},
		{ID: 3, Kind: api.KindPage, Words: words(1, -2, 63, 64, -64, -65, math.MaxInt64, math.MinInt64, 1<<32, 300)},
		{ID: 4, Kind: api.KindFile},
		{ID: 4, Kind: api.KindFile, Data: []byte("hey\x00\xff")},
		{ID: 6, Kind: api.KindDescription, Target: 4, Refs: 1},
		{ID: 6, Kind: api.KindDescription, Target: 1 << 63, Refs: 70, Offset: 300},
		{ID: 7, Kind: api.KindPipe, Readers: 1},
		{ID: 7, Kind: api.KindPipe, Readers: 2, Writers: 300, Data: []byte{255, 0, 1}},
		{ID: 8, Kind: api.KindPort},
		{ID: 8, Kind: api.KindPort, Refs: 3, Backlog: []uint64{70, 8, 1<<64 - 1}},
		{ID: 10, Kind: api.KindChannel, Ends: [2]int{0, 3}},
		{ID: 10, Kind: api.KindChannel, Ends: [2]int{70, 1}, Queues: [2][]byte{{1}, {2, 3, 0}}},
		{ID: 5, Kind: api.KindSemaphore},
		{ID: 5, Kind: api.KindSemaphore, Count: 2},
		{ID: 11, Kind: api.KindDevice},
		{ID: 11, Kind: api.KindDevice, Count: -300},
	}
}

// extreme are valid objects that are as large, and have numbers as great, as they can be.
func extreme() []api.Object {
	data := []byte(strings.Repeat("\x00\xffab", api.MaxFile/4))
	return []api.Object{
		largestNameSpace(), largestProcess(),
		{ID: 1<<64 - 1, Kind: api.KindFile, Data: data},
		{ID: 1 << 63, Kind: api.KindDescription, Target: 1<<64 - 1, Refs: math.MaxInt64, Offset: 1 << 30},
		{ID: 1<<63 - 1, Kind: api.KindPipe, Readers: 1 << 30, Writers: 1 << 30, Data: data[:api.MaxPipe]},
		{ID: 1 << 40, Kind: api.KindPort, Refs: 1 << 30, Backlog: []uint64{1, 1 << 62, 1 << 63, 1<<64 - 1, 3, 300, 70000, 1 << 56}},
		{ID: 1 << 56, Kind: api.KindChannel, Ends: [2]int{1 << 30, 1 << 30}, Queues: [2][]byte{data[:api.MaxPipe], data[1 : api.MaxPipe+1]}},
		{ID: 1<<64 - 1, Kind: api.KindSemaphore, Count: 1 << 30},
		{ID: 1<<64 - 1, Kind: api.KindDevice, Count: math.MinInt64},
		{ID: 1 << 63, Kind: api.KindDevice, Count: math.MaxInt64},
	}
}

func largestNameSpace() api.Object {
	o := nameSpace()
	for i := range api.MaxEntries {
		n := api.Name{Path: "/" + string(rune('a'+i/16)) + strings.Repeat(string(rune('a'+i%16)), api.MaxPath-2), Kind: api.KindPage}
		for j := range api.MaxPages {
			n.IDs = append(n.IDs, 1<<64-1-uint64(i*j))
		}
		o.Names = append(o.Names, n)
	}
	return o
}

func largestProcess() api.Object {
	p := api.Process{State: api.Dying, Parent: 1<<64 - 2, Program: api.Program{Pages: api.MaxPages}, Pending: 1<<32 - 2 - 1<<api.SigKill, Alarm: api.MaxAlarm, Status: math.MaxInt64}
	p.CPU.PC = math.MaxInt64
	for i := range p.CPU.Regs {
		p.CPU.Regs[i] = math.MinInt64 + int64(i)
	}
	for i := range uint64(api.MaxChildren) {
		p.Children = append(p.Children, 1<<63+i)
	}
	for i := range uint64(api.MaxPages) {
		p.Pages = append(p.Pages, api.PageRef{ID: 1<<63 - i - 1, Shared: i%3 == 1})
	}
	for i := range uint64(api.MaxSlots) {
		p.Table = append(p.Table, api.Slot{Kind: api.SlotFile, Description: 1<<64 - 1 - i, Target: 1<<62 + i})
	}
	for i := range api.MaxStrings {
		p.Program.Strings = append(p.Program.Strings, strings.Repeat(string([]byte{byte(i * 8)}), api.MaxPath))
	}
	for i := range api.MaxCode {
		p.Program.Code = append(p.Program.Code, api.Instr{Op: api.OpSet, A: i % api.Regs, B: 1<<53 - i*(i&1)<<46})
	}
	return api.Object{ID: 1<<64 - 1, Kind: api.KindProcess, Process: p}
}

// valid are valid objects of all kinds.
func valid() []api.Object {
	return append(append(ordinary(), extreme()...), random(120)...)
}

// random are valid objects of all kinds, the same ones each time.
func random(n int) []api.Object {
	g := generator{rand.New(rand.NewPCG(18, 18))}
	var list []api.Object
	for len(list) < n {
		for kind := 0; kind <= api.KindNames; kind++ {
			if o := g.object(kind); isValid(o) {
				list = append(list, o)
			}
		}
	}
	return list
}

// generator makes objects that are valid more often than not.
type generator struct{ *rand.Rand }

func (g generator) id() uint64 {
	return g.Uint64()>>g.IntN(64) | 1
}

func (g generator) number() int64 {
	return int64(g.Uint64()) >> g.IntN(64)
}

func (g generator) count() int {
	return g.IntN(1<<30+1) >> g.IntN(31)
}

func (g generator) bytes(n int) []byte {
	b := make([]byte, g.IntN(n+1))
	for i := range b {
		b[i] = byte(g.IntN(256))
	}
	return b
}

func (g generator) ids(n int) []uint64 {
	l := make([]uint64, g.IntN(n+1))
	for i := range l {
		l[i] = g.id()
	}
	return l
}

func (g generator) object(kind int) api.Object {
	o := api.Object{ID: g.id(), Kind: kind}
	switch kind {
	case api.KindProcess:
		o.Process = g.process()
	case api.KindPage:
		o.Words = make([]int64, api.PageWords)
		for i := range o.Words {
			o.Words[i] = g.number()
		}
	case api.KindFile:
		o.Data = g.bytes(200)
	case api.KindDescription:
		o.Target, o.Refs, o.Offset = g.id(), g.count(), g.count()
	case api.KindPipe:
		o.Readers, o.Writers, o.Data = g.count(), g.count(), g.bytes(api.MaxPipe)
	case api.KindPort:
		o.Refs, o.Backlog = g.count(), g.ids(api.MaxBacklog)
	case api.KindChannel:
		o.Ends, o.Queues = [2]int{g.count(), g.count()}, [2][]byte{g.bytes(api.MaxPipe), g.bytes(api.MaxPipe)}
	case api.KindSemaphore:
		o.Count = int64(g.count())
	case api.KindDevice:
		o.Count = g.number()
	case api.KindNames:
		o.ID, o.Names = api.Root, g.names()
	}
	return o
}

func (g generator) names() []api.Name {
	var list []api.Name
	for c := 'a'; c <= 'z'; c++ {
		switch kinds := []int{api.KindFile, api.KindPort, api.KindSemaphore, api.KindDevice}; g.IntN(8) {
		case 0, 1:
			list = append(list, api.Name{Path: "/x/" + string(c), Kind: kinds[g.IntN(4)], IDs: []uint64{g.id()}})
		case 2:
			list = append(list, api.Name{Path: "/x/" + string(c), Kind: api.KindPage, IDs: append(g.ids(api.MaxPages-1), g.id())})
		}
	}
	return list
}

func (g generator) process() api.Process {
	p := api.Process{State: 1 + g.IntN(3), Parent: g.id()}
	if p.State != api.Alive {
		p.Status = g.number()
	}
	if p.State == api.Zombie {
		return p
	}
	p.Alarm, p.Pending, p.CPU.PC = int64(g.count()), int64(1)<<(1+g.IntN(31)), int(g.number())
	for i := range p.CPU.Regs {
		p.CPU.Regs[i] = g.number()
	}
	p.Children = g.ids(api.MaxChildren)
	for _, id := range g.ids(api.MaxPages) {
		p.Pages = append(p.Pages, api.PageRef{ID: id, Shared: g.IntN(2) == 1})
	}
	for _, id := range g.ids(api.MaxSlots) {
		p.Table = append(p.Table, api.Slot{Kind: api.SlotReader + g.IntN(7), Target: id})
	}
	p.Program.Pages = g.IntN(api.MaxPages + 1)
	for range g.IntN(5) {
		p.Program.Strings = append(p.Program.Strings, string(g.bytes(20)))
	}
	for range g.IntN(20) {
		p.Program.Code = append(p.Program.Code, api.Instr{Op: api.OpLoad, A: g.IntN(api.Regs), B: g.IntN(api.Regs), C: g.IntN(257)})
	}
	return p
}

// full is an object, valid as nothing, of which no part is zero and no two are the same. Its lists have three elements each.
func full(id uint64) api.Object {
	next := int64(100)
	var filled func(kind reflect.Type) reflect.Value
	filled = func(kind reflect.Type) reflect.Value {
		v := reflect.New(kind).Elem()
		next++
		switch kind.Kind() {
		case reflect.Struct:
			for i := range kind.NumField() {
				v.Field(i).Set(filled(kind.Field(i).Type))
			}
		case reflect.Array:
			for i := range kind.Len() {
				v.Index(i).Set(filled(kind.Elem()))
			}
		case reflect.Slice:
			v.Set(reflect.MakeSlice(kind, 3, 3))
			for i := range 3 {
				v.Index(i).Set(filled(kind.Elem()))
			}
		case reflect.String:
			v.SetString("text " + string(rune(next)))
		case reflect.Bool:
			v.SetBool(true)
		default:
			v.Set(reflect.ValueOf(next).Convert(kind))
		}
		return v
	}
	o := filled(reflect.TypeFor[api.Object]()).Interface().(api.Object)
	o.ID = id
	return o
}

// invalid are objects that are not valid, each in another way.
func invalid() []api.Object {
	list := []api.Object{{}, {ID: 7}, full(7)}
	for _, kind := range []int{math.MinInt64, -1, 0, 11, 12, 77, 256 + api.KindDevice, 1<<32 + api.KindDevice, math.MaxInt64} {
		list = append(list, api.Object{ID: 7, Kind: kind}, api.Object{ID: 7, Kind: kind, Count: 3}, api.Object{ID: 7, Kind: kind, Words: words()})
	}
	for _, o := range ordinary() {
		o.ID = 0
		list = append(list, o)
	}
	for _, o := range ordinary() {
		for _, x := range changes(o) {
			if !isValid(x.object) {
				list = append(list, x.object)
			}
		}
	}
	return list
}
