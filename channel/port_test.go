package channel

import (
	"math"
	"reflect"
	"slices"
	"testing"

	"clusterkernel/api"
)

// withBacklogOf is the port 7 with some references, and these channels in its backlog.
func withBacklogOf(refs int, backlog ...uint64) api.Object {
	return api.Object{ID: 7, Kind: api.KindPort, Refs: refs, Backlog: backlog}
}

// callers are the identifiers of n channels, none of them twice, and in no order.
func callers(n int) []uint64 {
	var ids []uint64
	for i := range n {
		ids = append(ids, uint64(i*7919%1009)<<32+5)
	}
	return ids
}

// calledBy is a port with n channels in its backlog.
func calledBy(n int) api.Object {
	return withBacklogOf(2, callers(n)...)
}

func ports() []api.Object {
	return []api.Object{NewPort(7), calledBy(1), calledBy(5), calledBy(8), withBacklogOf(0), withBacklogOf(0, callers(8)...), withEmptyLists(NewPort(7))}
}

// expectPort expects o but for its backlog, which is given. The lists that a port does not use have to be nil: memory of their own would be of no use.
func expectPort(t *testing.T, got, o api.Object, backlog []uint64) {
	t.Helper()
	if !slices.Equal(got.Backlog, backlog) {
		t.Fatalf("the backlog is %v, want %v", got.Backlog, backlog)
	}
	got.Backlog = nil
	if want := (api.Object{ID: o.ID, Kind: api.KindPort, Refs: o.Refs}); !reflect.DeepEqual(got, want) {
		t.Fatalf("the port is %v and its backlog, want %v", got, want)
	}
}

func expectCall(t *testing.T, o api.Object, channel uint64, backlog []uint64) {
	t.Helper()
	x, e := Call(o, channel)
	if e != api.OK {
		t.Fatalf("Call(%v, %d) is the error %d", o, channel, e)
	}
	expectPort(t, x, o, backlog)
}

func expectCallFails(t *testing.T, o api.Object, channel uint64, want api.Errno) {
	t.Helper()
	if x, e := Call(o, channel); !reflect.DeepEqual(x, api.Object{}) || e != want {
		t.Fatalf("Call(%v, %d) = %v, %d, want the error %d", o, channel, x, e, want)
	}
}

func expectAccept(t *testing.T, o api.Object, channel uint64, backlog []uint64) {
	t.Helper()
	id, x, e := Accept(o)
	if id != channel || e != api.OK {
		t.Fatalf("Accept(%v) = %d and the error %d, want %d", o, id, e, channel)
	}
	expectPort(t, x, o, backlog)
}

func expectAcceptFails(t *testing.T, o api.Object, want api.Errno) {
	t.Helper()
	if id, x, e := Accept(o); id != 0 || !reflect.DeepEqual(x, api.Object{}) || e != want {
		t.Fatalf("Accept(%v) = %d, %v, %d, want the error %d", o, id, x, e, want)
	}
}

// expectValidPort expects of o what the chapter says of any valid port.
func expectValidPort(t *testing.T, o api.Object) {
	t.Helper()
	if !ValidPort(o) {
		t.Fatalf("ValidPort(%v) = false", o)
	}
	backlog := slices.Clone(o.Backlog)
	if len(backlog) == 0 {
		expectAcceptFails(t, o, api.ErrWait)
	} else {
		expectAccept(t, o, backlog[0], backlog[1:])
	}
	for _, channel := range append(backlog, 0) {
		expectCallFails(t, o, channel, api.ErrInvalid)
	}
	fresh := uint64(1<<40 + 3)
	switch {
	case o.Refs == 0:
		expectCallFails(t, o, fresh, api.ErrClosed)
	case len(backlog) == api.MaxBacklog:
		expectCallFails(t, o, fresh, api.ErrFull)
	default:
		expectCall(t, o, fresh, append(backlog, fresh))
	}
}

// expectNoPort expects ErrInvalid also where other errors apply too.
func expectNoPort(t *testing.T, o api.Object) {
	t.Helper()
	if ValidPort(o) {
		t.Fatalf("ValidPort(%v) = true", o)
	}
	expectAcceptFails(t, o, api.ErrInvalid)
	for _, channel := range []uint64{0, 1, 5, 7, 1<<40 + 3, math.MaxUint64} {
		expectCallFails(t, o, channel, api.ErrInvalid)
	}
}

// expectNeverPort changes ports in all states, and expects that none of them is a port any more.
func expectNeverPort(t *testing.T, change func(o *api.Object)) {
	t.Helper()
	for _, o := range ports() {
		change(&o)
		expectNoPort(t, o)
	}
}

func TestP12_1NewPort(t *testing.T) {
	for _, id := range identifiers() {
		expectPort(t, NewPort(id), api.Object{ID: id, Refs: 1}, nil)
		expectValidPort(t, NewPort(id))
	}
}

func TestP12_1NewPortWithoutIdentifier(t *testing.T) {
	expectPort(t, NewPort(0), api.Object{Refs: 1}, nil)
	expectNoPort(t, NewPort(0))
}

func TestP12_1ValidWithAnyIdentifier(t *testing.T) {
	for _, id := range identifiers() {
		o := calledBy(3)
		o.ID = id
		expectValidPort(t, o)
	}
}

func TestP12_1Refs(t *testing.T) {
	for _, refs := range counts() {
		for n := range api.MaxBacklog + 1 {
			expectValidPort(t, withBacklogOf(refs, callers(n)...))
		}
	}
	for _, wrong := range noCounts() {
		expectNeverPort(t, func(o *api.Object) { o.Refs = wrong })
	}
}

func TestP12_1AnyBacklog(t *testing.T) {
	for n := range len(identifiers()) {
		expectValidPort(t, withBacklogOf(1, identifiers()[:n]...))
		expectValidPort(t, withBacklogOf(1, identifiers()[9-n:]...))
	}
	expectValidPort(t, withBacklogOf(1, 8, 7, 6, 5, 4, 3, 2, 1))
	expectValidPort(t, withBacklogOf(1, 7)) // which is the port itself
}

func TestP12_1AtMostMaxBacklog(t *testing.T) {
	for n := range api.MaxBacklog + 1 {
		expectValidPort(t, calledBy(n))
	}
	for _, n := range []int{9, 10, 15, 16, 17, 256, 257, 1000} {
		expectNoPort(t, calledBy(n))
		expectNoPort(t, withBacklogOf(0, callers(n)...))
	}
}

// TestP12_1LengthIsNotThatOfTheMemory has channels beyond the length of the backlog, some of them 0 or there twice.
func TestP12_1LengthIsNotThatOfTheMemory(t *testing.T) {
	for n := range api.MaxBacklog + 1 {
		o := calledBy(100)
		copy(o.Backlog[n:], []uint64{o.Backlog[0], 0, 0})
		o.Backlog = o.Backlog[:n]
		expectValidPort(t, o)
	}
}

func TestP12_1BacklogWithout0(t *testing.T) {
	for n := 1; n <= api.MaxBacklog; n++ {
		for i := range n {
			o := calledBy(n)
			o.Backlog[i] = 0
			expectNoPort(t, o)
			o.Refs = 0
			expectNoPort(t, o)
		}
		expectNoPort(t, withBacklogOf(1, make([]uint64, n)...))
	}
}

func TestP12_1BacklogWithNoneTwice(t *testing.T) {
	for n := 2; n <= api.MaxBacklog; n++ {
		for i := range n {
			for j := range i {
				o := calledBy(n)
				o.Backlog[i] = o.Backlog[j]
				expectNoPort(t, o)
				o.Refs = 0
				expectNoPort(t, o)
			}
		}
	}
}

// TestP12_1BacklogIsComparedWhole has identifiers that differ in a single bit.
func TestP12_1BacklogIsComparedWhole(t *testing.T) {
	for bit := range 64 {
		expectValidPort(t, withBacklogOf(1, 1<<63+1, (1<<63+1)^(1<<bit)))
		expectValidPort(t, withBacklogOf(1, 1<<bit))
	}
}

func TestP12_1InvalidKind(t *testing.T) {
	for _, kind := range otherKinds(api.KindPort) {
		expectNeverPort(t, func(o *api.Object) { o.Kind = kind })
	}
}

func TestP12_1InvalidIdentifier(t *testing.T) {
	expectNeverPort(t, func(o *api.Object) { o.ID = 0 })
}

func TestP12_1InvalidOtherFields(t *testing.T) {
	for _, o := range ports() {
		for _, x := range changedElsewhere(o, portParts()) {
			expectNoPort(t, x)
		}
	}
}

// TestP12_1SeveralThingsAreWrong has objects of which two parts are wrong, so that neither makes up for the other.
func TestP12_1SeveralThingsAreWrong(t *testing.T) {
	for _, x := range changedElsewhere(NewPort(7), portParts()) {
		for _, y := range changedElsewhere(x, portParts()) {
			if ValidPort(y) {
				t.Fatalf("ValidPort(%v) = true", y)
			}
		}
	}
	for _, o := range []api.Object{NewPort(0), withBacklogOf(-1), withBacklogOf(1<<30 + 1), calledBy(9), withBacklogOf(1, 0), withBacklogOf(1, 5, 5)} {
		for _, x := range changedElsewhere(o, portParts()) {
			expectNoPort(t, x)
		}
		for _, kind := range []int{0, api.KindChannel, api.KindPort} {
			o.ID, o.Kind = 0, kind
			expectNoPort(t, o)
		}
	}
}

func TestP12_1InvalidOtherObjects(t *testing.T) {
	expectNoPort(t, api.Object{})
	expectNoPort(t, api.Object{ID: 7})
	expectNoPort(t, api.Object{Kind: api.KindPort})
	expectNoPort(t, New(7))
	expectNoPort(t, api.Object{ID: 7, Kind: api.KindPort, Ends: [2]int{1, 1}})
	expectNoPort(t, api.Object{ID: 7, Kind: api.KindPipe, Readers: 1, Writers: 1})
	expectValidPort(t, api.Object{ID: 7, Kind: api.KindPort})
}

func TestP12_1EmptyListsAreZero(t *testing.T) {
	for _, o := range ports() {
		expectValidPort(t, withEmptyLists(o))
	}
	expectNoPort(t, withEmptyLists(api.Object{ID: 7}))
	expectNoPort(t, withEmptyLists(withBacklogOf(-1)))
}

func TestP12_2Call(t *testing.T) {
	expectCall(t, NewPort(7), 9, []uint64{9})
	expectCall(t, withBacklogOf(3, 9), 8, []uint64{9, 8})
	expectCall(t, withBacklogOf(1, 9, 8), 10, []uint64{9, 8, 10})
	for n := range api.MaxBacklog {
		ids := callers(n + 1)
		expectCall(t, withBacklogOf(1, ids[:n:n]...), ids[n], ids)
	}
}

// TestP12_2CallWithAnyIdentifier has the identifier of the port itself too.
func TestP12_2CallWithAnyIdentifier(t *testing.T) {
	for _, id := range identifiers() {
		expectCall(t, NewPort(7), id, []uint64{id})
		expectCall(t, withBacklogOf(1, 3, 4), id, []uint64{3, 4, id})
	}
	for bit := range 64 {
		expectCall(t, withBacklogOf(1, 1<<63+1), (1<<63+1)^(1<<bit), []uint64{1<<63 + 1, (1<<63 + 1) ^ (1 << bit)})
	}
}

// TestP12_2CallInvalid has ports that are closed and full too: that the channel is not right comes first.
func TestP12_2CallInvalid(t *testing.T) {
	for _, refs := range counts() {
		for n := range api.MaxBacklog + 1 {
			o := withBacklogOf(refs, callers(n)...)
			for _, channel := range append(callers(n), 0) {
				expectCallFails(t, o, channel, api.ErrInvalid)
			}
		}
	}
}

// TestP12_2CallClosed has ports that are full too: that nothing refers to them comes first.
func TestP12_2CallClosed(t *testing.T) {
	for n := range api.MaxBacklog + 1 {
		for _, channel := range []uint64{1, 2, 7, 1<<40 + 3, math.MaxUint64} {
			expectCallFails(t, withBacklogOf(0, callers(n)...), channel, api.ErrClosed)
		}
	}
	expectCallFails(t, withEmptyLists(withBacklogOf(0)), 9, api.ErrClosed)
}

func TestP12_2CallFull(t *testing.T) {
	for _, refs := range counts()[1:] {
		for _, channel := range []uint64{1, 2, 7, 1<<40 + 3, math.MaxUint64} {
			expectCallFails(t, withBacklogOf(refs, callers(8)...), channel, api.ErrFull)
			expectCall(t, withBacklogOf(refs, callers(7)...), channel, append(callers(7), channel))
		}
	}
}

func TestP12_2Accept(t *testing.T) {
	expectAccept(t, withBacklogOf(1, 9), 9, nil)
	expectAccept(t, withBacklogOf(1, 9, 8, 10), 9, []uint64{8, 10})
	for n := 1; n <= api.MaxBacklog; n++ {
		expectAccept(t, calledBy(n), callers(n)[0], callers(n)[1:])
	}
	for _, id := range identifiers() {
		expectAccept(t, withBacklogOf(2, id), id, nil)
		expectAccept(t, withBacklogOf(2, id, 3, 4), id, []uint64{3, 4})
	}
}

// TestP12_2AcceptWithoutReferences accepts at ports to which nothing refers: that is not looked at.
func TestP12_2AcceptWithoutReferences(t *testing.T) {
	for n := 1; n <= api.MaxBacklog; n++ {
		expectAccept(t, withBacklogOf(0, callers(n)...), callers(n)[0], callers(n)[1:])
	}
	expectAcceptFails(t, withBacklogOf(0), api.ErrWait)
}

func TestP12_2AcceptWaits(t *testing.T) {
	for _, refs := range counts() {
		expectAcceptFails(t, withBacklogOf(refs), api.ErrWait)
		expectAcceptFails(t, withEmptyLists(withBacklogOf(refs)), api.ErrWait)
	}
	for _, id := range identifiers() {
		expectAcceptFails(t, NewPort(id), api.ErrWait)
	}
}

// TestP12_2CallAgain calls with a channel that was accepted.
func TestP12_2CallAgain(t *testing.T) {
	_, o, _ := Accept(withBacklogOf(1, 9, 8))
	expectCall(t, o, 9, []uint64{8, 9})
	expectCallFails(t, o, 8, api.ErrInvalid)
}

// TestConsequenceCallsInOrder calls and accepts now and then, and compares the backlog with a list each time.
func TestConsequenceCallsInOrder(t *testing.T) {
	for seed := range 40 {
		o := NewPort(7)
		var want []uint64
		for i := range 300 {
			if (i*i*7+i*seed)%(13+seed) < 6 {
				callNext(t, &o, &want, uint64(i*seed)<<20+uint64(i)+1)
			} else {
				acceptNext(t, &o, &want)
			}
			expectPort(t, o, NewPort(7), want)
			expectValidPort(t, o)
		}
	}
}

// callNext puts a channel into the backlog and into the list of those that it has to have, unless the backlog is full.
func callNext(t *testing.T, o *api.Object, want *[]uint64, channel uint64) {
	t.Helper()
	if len(*want) == api.MaxBacklog {
		expectCallFails(t, *o, channel, api.ErrFull)
		return
	}
	x, e := Call(*o, channel)
	if e != api.OK {
		t.Fatalf("Call(%v, %d) is the error %d", *o, channel, e)
	}
	*o, *want = x, append(*want, channel)
}

// acceptNext takes a channel from the backlog and from the list of those that it has to have, unless the backlog is empty.
func acceptNext(t *testing.T, o *api.Object, want *[]uint64) {
	t.Helper()
	if len(*want) == 0 {
		expectAcceptFails(t, *o, api.ErrWait)
		return
	}
	id, x, e := Accept(*o)
	if id != (*want)[0] || e != api.OK {
		t.Fatalf("Accept(%v) = %d, %d, want %d", *o, id, e, (*want)[0])
	}
	*o, *want = x, (*want)[1:]
}

// TestP1PortsAreNotChanged calls every function with a backlog that has other channels before and behind it.
func TestP1PortsAreNotChanged(t *testing.T) {
	memory := callers(100)
	before := slices.Clone(memory)
	for n := range 20 {
		for _, refs := range []int{0, 1, -1} {
			o := withEmptyLists(withBacklogOf(refs))
			o.Backlog = memory[30 : 30+n]
			want := o
			want.Backlog = before[30 : 30+n]
			ValidPort(o)
			Call(o, 0)
			Call(o, 1<<40+3)
			Call(o, memory[30])
			Accept(o)
			if !reflect.DeepEqual(o, want) {
				t.Fatalf("the port is %v, want %v", o, want)
			}
		}
	}
	if !slices.Equal(memory, before) {
		t.Fatal("the memory of the ports is changed")
	}
}

// wipePort makes everything 0 that the backlog of o has in its memory, beyond its length too.
func wipePort(o api.Object) {
	clear(o.Backlog[:cap(o.Backlog)])
}

// TestP1PortsShareNoMemory overwrites each result, and expects its argument and other results as they were. All arguments have room, and channels, beyond their lengths.
func TestP1PortsShareNoMemory(t *testing.T) {
	for n := 1; n < api.MaxBacklog-1; n++ { // so that there is room for two more
		ids := callers(n)
		o := withBacklogOf(1, callers(50)...)
		o.Backlog = o.Backlog[:n]
		called, _ := Call(o, 2)
		other, _ := Call(o, 3)
		again, _ := Call(called, 4)
		_, accepted, _ := Accept(o)
		_, last, _ := Accept(called)
		wipePort(other)
		wipePort(accepted)
		expectPort(t, o, o, ids)
		if !slices.Equal(o.Backlog[:50], callers(50)) {
			t.Fatal("a result shares memory with what lies beyond its argument")
		}
		expectPort(t, called, o, append(ids, 2))
		wipePort(o)
		expectPort(t, called, o, append(ids, 2))
		wipePort(called)
		expectPort(t, again, o, append(ids, 2, 4))
		expectPort(t, last, o, append(ids, 2)[1:])
	}
}

func TestP1AcceptedPortsShareNoMemory(t *testing.T) {
	for n := 1; n <= api.MaxBacklog; n++ {
		o := withBacklogOf(1, callers(50)...)
		o.Backlog = o.Backlog[:n]
		_, accepted, _ := Accept(o)
		_, other, _ := Accept(o)
		wipePort(accepted)
		expectPort(t, other, o, callers(n)[1:])
		if !slices.Equal(o.Backlog[:50], callers(50)) {
			t.Fatal("a result shares memory with its argument")
		}
		wipePort(o)
		expectPort(t, other, o, callers(n)[1:])
	}
}

func TestP1SamePortSameResults(t *testing.T) {
	o := withBacklogOf(1, 9, 8)
	for range 3 {
		expectCall(t, o, 3, []uint64{9, 8, 3})
		expectCall(t, o, 4, []uint64{9, 8, 4})
		expectAccept(t, o, 9, []uint64{8})
		expectValidPort(t, o)
		expectPort(t, NewPort(7), withBacklogOf(1), nil)
	}
}
