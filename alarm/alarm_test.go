package alarm

import (
	"math"
	"reflect"
	"testing"

	"clusterkernel/api"
)

// most is MaxAlarm, as the document gives it.
const most = int64(1073741824)

// someTicks are some numbers of ticks that are in range.
func someTicks() []int64 {
	return []int64{0, 1, 2, 3, 4, 5, 13, 14, 15, 16, 64, 255, 256, 257, 1 << 14, 1 << 16, 1<<29 - 1, 1 << 29, most - 2, most - 1, most}
}

// noTicks are some numbers that are out of range. The low bits of some are those of one that is in range.
func noTicks() []int64 {
	return []int64{math.MinInt64, math.MinInt64 + 3, -1 << 32, -1<<32 + 3, -most - 1, -most, -most + 1, -256, -14, -3, -2, -1,
		most + 1, most + 2, most + 14, 1<<31 - 1, 1 << 31, 1<<31 + 3, 1<<32 - 1, 1 << 32, 1<<32 + 3, 1 << 40, 1 << 62, math.MaxInt64 - 1, math.MaxInt64}
}

// alarms are some that a process can have, and some that it cannot: they may be anything.
func alarms() []int64 {
	return append(someTicks(), noTicks()...)
}

// pendings are some signals that are pending, with and without that of an alarm, also some that are not possible.
func pendings() []int64 {
	return []int64{0, 2, 4, 16384, 16388, 1 << 13, 1 << 15, 1 << 31, 1<<32 - 2 - 512, 1, 512, 1 << 32, math.MinInt64, math.MaxInt64, -1, -1 &^ 16384}
}

// goingStates are those of processes whose alarms go on.
func goingStates() []int {
	return []int{api.Alive, api.Dying}
}

// otherStates are states of processes that are neither alive nor dying. The low bits of some are those of one that is.
func otherStates() []int {
	list := []int{0, api.Zombie, math.MinInt64, math.MinInt64 + api.Alive, -1<<32 + api.Dying, 256 + api.Alive, 256 + api.Dying, 1<<32 + api.Alive, 1<<32 + api.Dying, math.MaxInt64}
	for state := 4; state < 20; state++ {
		list = append(list, state, -state+3)
	}
	return list
}

func allStates() []int {
	return append(otherStates(), goingStates()...)
}

// processes are some with the same state, alarm and signals, with and without other parts.
func processes(state int, alarm, pending int64) []api.Process {
	bare := api.Process{State: state, Alarm: alarm, Pending: pending}
	return []api.Process{bare, withRoom(bare), full(state, alarm, pending), withRoom(full(state, alarm, pending))}
}

func expectProcess(t *testing.T, got, want api.Process) {
	t.Helper()
	if !reflect.DeepEqual(withNil(got), withNil(want)) {
		t.Fatalf("the process is %v, want %v", got, want)
	}
}

// expectSet expects that the alarm that was is told, and that nothing else changes.
func expectSet(t *testing.T, p api.Process, ticks int64) {
	t.Helper()
	want := p
	want.Alarm = ticks
	left, got, e := Set(p, ticks)
	if left != p.Alarm || e != api.OK {
		t.Fatalf("Set(%v, %d) is %d and the error %d", p, ticks, left, e)
	}
	expectProcess(t, got, want)
}

func expectSetFails(t *testing.T, p api.Process, ticks int64) {
	t.Helper()
	left, got, e := Set(p, ticks)
	if left != 0 || e != api.ErrRange || !reflect.DeepEqual(got, api.Process{}) {
		t.Fatalf("Set(%v, %d) is %d, %v and the error %d, want ErrRange alone", p, ticks, left, got, e)
	}
}

// expectTick expects that only the alarm and the signals change.
func expectTick(t *testing.T, p api.Process, n, alarm, pending int64) {
	t.Helper()
	want := p
	want.Alarm, want.Pending = alarm, pending
	got, e := Tick(p, n)
	if e != api.OK {
		t.Fatalf("Tick(%v, %d) is the error %d", p, n, e)
	}
	expectProcess(t, got, want)
}

func expectTickFails(t *testing.T, p api.Process, n int64) {
	t.Helper()
	got, e := Tick(p, n)
	if e != api.ErrRange || !reflect.DeepEqual(got, api.Process{}) {
		t.Fatalf("Tick(%v, %d) is %v and the error %d, want ErrRange alone", p, n, got, e)
	}
}

// tick is Tick where it has no error.
func tick(t *testing.T, p api.Process, n int64) api.Process {
	t.Helper()
	got, e := Tick(p, n)
	if e != api.OK {
		t.Fatalf("Tick(%v, %d) is the error %d", p, n, e)
	}
	return got
}

// TestP15_1Set has processes in all states, with alarms of all kinds: only ticks is looked at.
func TestP15_1Set(t *testing.T) {
	for _, state := range allStates() {
		for _, alarm := range alarms() {
			for _, ticks := range someTicks() {
				for _, p := range processes(state, alarm, 4) {
					expectSet(t, p, ticks)
				}
			}
		}
	}
}

func TestP15_1SignalsStay(t *testing.T) {
	for _, pending := range pendings() {
		for _, alarm := range []int64{0, 3, -3, most} {
			for _, ticks := range []int64{0, 1, 3, most} {
				expectSet(t, full(api.Alive, alarm, pending), ticks)
				expectSet(t, full(api.Dying, alarm, pending), ticks)
			}
		}
	}
}

func TestP15_1None(t *testing.T) {
	left, p, e := Set(api.Process{State: api.Alive}, 7)
	if left != 0 || p.Alarm != 7 || e != api.OK {
		t.Fatalf("the first alarm: %d left, %v, the error %d", left, p, e)
	}
	left, p, e = Set(p, 0)
	if left != 7 || p.Alarm != 0 || e != api.OK {
		t.Fatalf("none: %d left, %v, the error %d", left, p, e)
	}
	expectTick(t, p, most, 0, 0)
	expectSet(t, p, 9)
}

func TestP15_1WhatIsLeftAfterTicks(t *testing.T) {
	_, p, _ := Set(full(api.Alive, 0, 0), 10)
	for _, c := range []struct{ n, left int64 }{{0, 10}, {1, 9}, {9, 1}, {10, 0}, {11, 0}} {
		if left, _, e := Set(tick(t, p, c.n), 5); left != c.left || e != api.OK {
			t.Errorf("after %d ticks %d are left, want %d (the error %d)", c.n, left, c.left, e)
		}
	}
}

func TestP15_1Range(t *testing.T) {
	for _, state := range allStates() {
		for _, alarm := range []int64{0, 3, -3, most, most + 1} {
			for _, ticks := range noTicks() {
				for _, p := range processes(state, alarm, 4) {
					expectSetFails(t, p, ticks)
				}
			}
		}
	}
}

// TestP15_1EachBit has the powers of two, and what is beside them, as another bound than MaxAlarm would be one of these.
func TestP15_1EachBit(t *testing.T) {
	for _, ticks := range besideBits() {
		p := full(api.Alive, 3, 4)
		if ticks >= 0 && ticks <= most {
			expectSet(t, p, ticks)
		} else {
			expectSetFails(t, p, ticks)
		}
	}
}

func besideBits() []int64 {
	var list []int64
	for bit := range 64 {
		n := int64(1) << bit
		list = append(list, n-1, n, n+1, -n-1, -n, -n+1)
	}
	return list
}

// TestP15_2NoAlarm has all signals: none is raised, and none goes.
func TestP15_2NoAlarm(t *testing.T) {
	for _, state := range allStates() {
		for _, pending := range pendings() {
			for _, n := range someTicks() {
				for _, p := range processes(state, 0, pending) {
					expectTick(t, p, n, 0, pending)
				}
			}
		}
	}
}

// TestP15_2OtherStates has alarms that would go off, and alarms that would not.
func TestP15_2OtherStates(t *testing.T) {
	for _, state := range otherStates() {
		for _, alarm := range alarms() {
			for _, n := range someTicks() {
				for _, p := range processes(state, alarm, 4) {
					expectTick(t, p, n, alarm, 4)
				}
			}
		}
	}
}

func TestP15_2Less(t *testing.T) {
	for _, state := range goingStates() {
		for _, alarm := range append(alarms(), besideBits()...) {
			for _, n := range someTicks() {
				if alarm <= n {
					continue
				}
				for _, p := range processes(state, alarm, 4) {
					expectTick(t, p, n, alarm-n, 4)
				}
			}
		}
	}
}

func TestP15_2GoesOff(t *testing.T) {
	for _, state := range goingStates() {
		for _, alarm := range append(alarms(), besideBits()...) {
			for _, n := range someTicks() {
				if alarm > n || alarm == 0 {
					continue
				}
				for _, p := range processes(state, alarm, 4) {
					expectTick(t, p, n, 0, 16388)
				}
			}
		}
	}
}

func TestP15_2SignalsThatArePendingStay(t *testing.T) {
	for _, state := range goingStates() {
		for _, pending := range pendings() {
			for _, p := range processes(state, 3, pending) {
				expectTick(t, p, 0, 3, pending)
				expectTick(t, p, 2, 1, pending)
				expectTick(t, p, 3, 0, pending|16384)
				expectTick(t, p, most, 0, pending|16384)
			}
		}
	}
}

func TestP15_2Negative(t *testing.T) {
	for _, state := range goingStates() {
		for _, alarm := range []int64{-1, -2, -14, -most, -1 << 32, math.MinInt64 + 1, math.MinInt64} {
			for _, n := range someTicks() {
				for _, pending := range pendings() {
					expectTick(t, full(state, alarm, pending), n, 0, pending|16384)
				}
			}
		}
	}
}

func TestP15_2Bounds(t *testing.T) {
	for _, c := range []struct{ alarm, n, left, pending int64 }{
		{1, 0, 1, 0}, {1, 1, 0, 16384}, {1, 2, 0, 16384}, {2, 1, 1, 0}, {2, 2, 0, 16384}, {-1, 0, 0, 16384},
		{most, most - 1, 1, 0}, {most, most, 0, 16384}, {most - 1, most, 0, 16384}, {most + 1, most, 1, 0},
		{math.MaxInt64, 0, math.MaxInt64, 0}, {math.MaxInt64, most, math.MaxInt64 - most, 0}, {math.MinInt64, most, 0, 16384},
	} {
		expectTick(t, full(api.Alive, c.alarm, 0), c.n, c.left, c.pending)
		expectTick(t, full(api.Dying, c.alarm, 0), c.n, c.left, c.pending)
	}
}

func TestP15_2Example(t *testing.T) {
	p := api.Process{State: api.Alive, Alarm: 3}
	for _, c := range []struct{ alarm, pending int64 }{{2, 0}, {1, 0}, {0, 16384}, {0, 16384}} {
		expectTick(t, p, 1, c.alarm, c.pending)
		p = tick(t, p, 1)
	}
}

// TestP15_2Range has processes of all kinds: that n is out of range comes before what would change nothing.
func TestP15_2Range(t *testing.T) {
	for _, state := range allStates() {
		for _, alarm := range []int64{0, 3, -3, most, math.MaxInt64} {
			for _, n := range noTicks() {
				for _, p := range processes(state, alarm, 4) {
					expectTickFails(t, p, n)
				}
			}
		}
	}
}

func TestP15_2EachBit(t *testing.T) {
	for _, n := range besideBits() {
		p := full(api.Alive, math.MaxInt64, 4)
		if n >= 0 && n <= most {
			expectTick(t, p, n, math.MaxInt64-n, 4)
		} else {
			expectTickFails(t, p, n)
		}
	}
}

// TestConsequenceTicksAreAdded has all sums that are in range.
func TestConsequenceTicksAreAdded(t *testing.T) {
	for _, state := range []int{0, api.Alive, api.Dying, api.Zombie} {
		for _, alarm := range alarms() {
			for _, n := range someTicks() {
				for _, m := range someTicks() {
					if n+m > most {
						continue
					}
					p := full(state, alarm, 4)
					expectProcess(t, tick(t, tick(t, p, n), m), tick(t, p, n+m))
				}
			}
		}
	}
}

// TestConsequenceTicksOneByOne compares n ticks at once with a count of n single ones.
func TestConsequenceTicksOneByOne(t *testing.T) {
	for _, state := range goingStates() {
		for alarm := int64(-3); alarm <= 40; alarm++ {
			p := full(state, alarm, 0)
			one := tick(t, p, 0)
			for n := range int64(60) {
				expectProcess(t, tick(t, p, n), one)
				one = tick(t, one, 1)
			}
		}
	}
}

func TestConsequenceGoesOffOnce(t *testing.T) {
	for _, state := range goingStates() {
		for _, alarm := range alarms() {
			if alarm == 0 || alarm > most {
				continue
			}
			gone := tick(t, full(state, alarm, 0), most)
			if gone.Alarm != 0 || gone.Pending != 16384 {
				t.Fatalf("an alarm of %d did not go off: %v", alarm, gone)
			}
			gone.Pending = 0 // as when its signals were taken
			for _, n := range someTicks() {
				expectTick(t, gone, n, 0, 0)
			}
		}
	}
}

// TestAlarmsInARow sets alarms and ticks now and then, and compares what is left and pending with a count of single ticks each time.
func TestAlarmsInARow(t *testing.T) {
	for seed := range int64(40) {
		p, left, off := full(api.Alive, 0, 0), int64(0), false
		for i := range int64(300) {
			if (i*i*7+i*seed)%(7+seed) == 1 {
				ticks := (i*11 + seed*i*i) % 50
				was, set, e := Set(p, ticks)
				if was != left || e != api.OK {
					t.Fatalf("%d ticks were left, want %d (the error %d)", was, left, e)
				}
				p, left = set, ticks
			} else {
				n := (i*5 + seed) % 12
				for range n {
					off = off || left == 1
					left = max(left-1, 0)
				}
				p = tick(t, p, n)
			}
			pending := int64(0)
			if off {
				pending = 1 << 14
			}
			expectProcess(t, p, full(api.Alive, left, pending))
			if i%17 == 0 {
				p.Pending, off = 0, false
			}
		}
	}
}

// calls are Set and Tick with numbers of all sorts, without what else they return.
func calls() []func(p api.Process) api.Process {
	var list []func(p api.Process) api.Process
	for _, n := range []int64{0, 2, 3, most, -1, most + 1} {
		list = append(list, func(p api.Process) api.Process {
			_, set, _ := Set(p, n)
			return set
		}, func(p api.Process) api.Process {
			ticked, _ := Tick(p, n)
			return ticked
		})
	}
	return list
}

// examples are processes in all states, without an alarm, with alarms that go off and with alarms that do not, and with lists that have memory beyond their lengths.
func examples() []api.Process {
	var list []api.Process
	for _, state := range []int{0, api.Alive, api.Dying, api.Zombie} {
		for _, alarm := range []int64{0, 3, -3, most, math.MaxInt64} {
			list = append(list, full(state, alarm, 4), withRoom(full(state, alarm, 16384)))
		}
	}
	return list
}

// TestP1NothingIsChanged looks at what lies beyond the lengths of the lists, too.
func TestP1NothingIsChanged(t *testing.T) {
	for _, p := range examples() {
		want := wholeProcess(p)
		for _, n := range append(someTicks(), noTicks()...) {
			Set(p, n)
			Tick(p, n)
		}
		if !reflect.DeepEqual(wholeProcess(p), want) {
			t.Fatalf("the process is %v, want %v", wholeProcess(p), want)
		}
	}
}

// TestP1ResultsShareNoMemory overwrites each result, and expects its argument and other results as they were.
func TestP1ResultsShareNoMemory(t *testing.T) {
	for _, p := range examples() {
		before := wholeProcess(p)
		for _, call := range calls() {
			first, second := call(p), call(p)
			want := wholeProcess(first)
			fillMemory(second)
			if !reflect.DeepEqual(wholeProcess(first), want) {
				t.Fatalf("two results share memory: %v, want %v", first, want)
			}
			fillMemory(first)
			wipe(second)
			if !reflect.DeepEqual(wholeProcess(p), before) {
				t.Fatalf("a result shares memory with its argument: %v, want %v", wholeProcess(p), before)
			}
		}
	}
}

// fillMemory overwrites all memory of the lists of p.
func fillMemory(p api.Process) {
	n := int64(1000)
	lists(reflect.ValueOf(p), func(list reflect.Value) {
		for i := range list.Cap() {
			fill(list.Slice(0, list.Cap()).Index(i), &n)
		}
	})
}

// TestP1EmptyResultsShareNoMemory appends to the empty lists of each result, and expects the memory of its argument as it was.
func TestP1EmptyResultsShareNoMemory(t *testing.T) {
	for _, state := range []int{0, api.Alive, api.Dying, api.Zombie} {
		for _, alarm := range []int64{0, 3, -3} {
			for _, call := range calls() {
				p := withRoom(api.Process{State: state, Alarm: alarm})
				want := wholeProcess(p)
				got := call(p)
				got.Children = append(got.Children, 1)
				got.Program.Code = append(got.Program.Code, api.Instr{Op: 1})
				got.Program.Strings = append(got.Program.Strings, "a")
				got.Pages = append(got.Pages, api.PageRef{ID: 1})
				got.Table = append(got.Table, api.Slot{Kind: 1})
				if !reflect.DeepEqual(wholeProcess(p), want) {
					t.Fatalf("the memory is %v, want %v", wholeProcess(p), want)
				}
			}
		}
	}
}

// TestP1WhatLiesBeyondIsNotLookedAt gives the same process with other memory behind its lists.
func TestP1WhatLiesBeyondIsNotLookedAt(t *testing.T) {
	for _, plain := range examples() {
		for _, call := range calls() {
			other := wholeProcess(plain)
			other.Children = other.Children[:len(plain.Children)]
			other.Program.Code = other.Program.Code[:len(plain.Program.Code)]
			other.Program.Strings = other.Program.Strings[:len(plain.Program.Strings)]
			other.Pages = other.Pages[:len(plain.Pages)]
			other.Table = other.Table[:len(plain.Table)]
			lists(reflect.ValueOf(other), func(list reflect.Value) {
				list.Slice(list.Len(), list.Cap()).Clear()
			})
			expectProcess(t, call(other), call(plain))
		}
	}
}

func TestP1EmptyListsAreAsNil(t *testing.T) {
	for _, state := range []int{0, api.Alive, api.Dying, api.Zombie} {
		for _, alarm := range []int64{0, 3, -3} {
			for _, call := range calls() {
				p := api.Process{State: state, Alarm: alarm, Pending: 4, Status: 3}
				expectProcess(t, call(withRoom(p)), call(p))
			}
		}
	}
}

func TestP1SameArgumentsSameResults(t *testing.T) {
	p := full(api.Alive, 3, 4)
	for range 3 {
		expectSet(t, p, 7)
		expectSetFails(t, p, -1)
		expectTick(t, p, 2, 1, 4)
		expectTick(t, p, 3, 0, 16388)
		expectTickFails(t, p, most+1)
		expectTick(t, full(api.Zombie, 3, 4), 3, 3, 4)
	}
}
