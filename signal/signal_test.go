package signal

import (
	"math"
	"reflect"
	"testing"

	"clusterkernel/api"
)

// signals are all but SigKill.
func signals() []int64 {
	var list []int64
	for n := int64(1); n <= 31; n++ {
		if n != 9 {
			list = append(list, n)
		}
	}
	return list
}

// noSignals are some numbers that are no signals. The low bits of some are those of one.
func noSignals() []int64 {
	return []int64{math.MinInt64, math.MinInt64 + 9, -1 << 32, -1<<32 + 14, -256, -64, -32, -31, -14, -9, -2, -1, 0,
		32, 33, 41, 46, 63, 64, 65, 64 + 9, 64 + 14, 256 + 9, 256 + 14, 1 << 16, 1 << 31, 1 << 32, 1<<32 + 1, 1<<32 + 9, 1 << 40, math.MaxInt64}
}

// possibles are some pending signals that are possible.
func possibles() []int64 {
	list := []int64{0, 1<<32 - 2 - 512, 6, 1<<31 + 2, 0x55555400, 0xAAAAA8AA}
	for _, n := range signals() {
		list = append(list, 1<<n)
	}
	return list
}

// impossibles are some pending signals that are not possible. They have other bits, or that of SigKill.
func impossibles() []int64 {
	list := []int64{-1, -2, math.MinInt64, math.MinInt64 + 2, math.MaxInt64, 1, 3, 512, 513, 514, 1 << 32, 1<<32 - 1, 1<<32 - 2, 1<<33 - 2, 1<<32 + 2, 1<<62 + 4}
	for bit := 32; bit < 64; bit++ {
		list = append(list, 1<<bit)
	}
	return list
}

// otherStates are states of processes that are neither alive nor dying. The low bits of some are those of one that is.
func otherStates() []int {
	list := []int{0, api.Zombie, math.MinInt64, math.MinInt64 + api.Alive, -1<<32 + api.Dying, 256 + api.Alive, 256 + api.Dying, 1<<32 + api.Alive, 1<<32 + api.Dying, math.MaxInt64}
	for state := 4; state < 20; state++ {
		list = append(list, state, -state+3)
	}
	return list
}

// statuses are some that a process can have.
func statuses() []int64 {
	return []int64{0, 1, 3, 9, 512, -1, -9, -14, math.MinInt64, math.MaxInt64}
}

// processes are some with the same state, signals and status, with and without other parts.
func processes(state int, pending, status int64) []api.Process {
	bare := api.Process{State: state, Pending: pending, Status: status}
	return []api.Process{bare, withRoom(bare), full(state, pending, status), withRoom(full(state, pending, status))}
}

func expectProcess(t *testing.T, got, want api.Process) {
	t.Helper()
	if !reflect.DeepEqual(withNil(got), withNil(want)) {
		t.Fatalf("the process is %v, want %v", got, want)
	}
}

func expectRaise(t *testing.T, p api.Process, signal int64, want api.Process) {
	t.Helper()
	got, e := Raise(p, signal)
	if e != api.OK {
		t.Fatalf("Raise(%v, %d) is the error %d", p, signal, e)
	}
	expectProcess(t, got, want)
}

func expectRaiseFails(t *testing.T, p api.Process, signal int64, want api.Errno) {
	t.Helper()
	got, e := Raise(p, signal)
	if e != want || !reflect.DeepEqual(got, api.Process{}) {
		t.Fatalf("Raise(%v, %d) is %v and the error %d, want the error %d alone", p, signal, got, e, want)
	}
}

// expectTake expects that only Pending changes.
func expectTake(t *testing.T, p api.Process) {
	t.Helper()
	want := p
	want.Pending = 0
	n, got := Take(p)
	if n != p.Pending {
		t.Fatalf("Take(%v) is %d", p, n)
	}
	expectProcess(t, got, want)
}

func TestP14_1Valid(t *testing.T) {
	for _, pending := range possibles() {
		if !Valid(pending) {
			t.Errorf("Valid(%d) = false", pending)
		}
	}
}

func TestP14_1NotValid(t *testing.T) {
	for _, pending := range impossibles() {
		if Valid(pending) {
			t.Errorf("Valid(%d) = true", pending)
		}
	}
}

// isPossible says of a single bit what the chapter says.
func isPossible(bit int) bool {
	return bit >= 1 && bit <= api.MaxSignal && bit != api.SigKill
}

func TestP14_1EachBit(t *testing.T) {
	for a := range 64 {
		for b := range 64 {
			pending := int64(1)<<a | int64(1)<<b
			if want := isPossible(a) && isPossible(b); Valid(pending) != want {
				t.Errorf("Valid(1<<%d | 1<<%d) is not %t", a, b, want)
			}
		}
	}
}

// TestP14_1EachBitAmongOthers has bits together with all that are possible, and bits that are missing among them.
func TestP14_1EachBitAmongOthers(t *testing.T) {
	const most = int64(1<<32 - 2 - 512)
	for bit := range 64 {
		if Valid(most|1<<bit) != isPossible(bit) {
			t.Errorf("Valid with the bit %d is not %t", bit, isPossible(bit))
		}
		if !Valid(most &^ (1 << bit)) {
			t.Errorf("Valid without the bit %d is false", bit)
		}
	}
}

// TestP14_1Definition compares Valid with a loop over all bits.
func TestP14_1Definition(t *testing.T) {
	n := uint64(12345)
	for range 100000 {
		n = n*6364136223846793005 + 1442695040888963407
		pending := int64(n >> 32 &^ (n >> 7)) // of few bits, so that some are possible
		want := true
		for bit := range 64 {
			want = want && (pending>>bit&1 == 0 || isPossible(bit))
		}
		if Valid(pending) != want {
			t.Fatalf("Valid(%d) is not %t", pending, want)
		}
	}
}

// TestP14_2SetsItsBit has signals that are pending already, also those that are not possible: they stay.
func TestP14_2SetsItsBit(t *testing.T) {
	for _, state := range []int{api.Alive, api.Dying} {
		for _, pending := range append(possibles(), impossibles()...) {
			for _, signal := range signals() {
				for _, p := range processes(state, pending, -9) {
					want := p
					want.Pending = pending | 1<<signal
					expectRaise(t, p, signal, want)
				}
			}
		}
	}
}

func TestP14_2EachSignal(t *testing.T) {
	for _, c := range []struct{ signal, pending int64 }{{1, 2}, {2, 4}, {8, 256}, {10, 1024}, {14, 16384}, {15, 32768}, {30, 1073741824}, {31, 2147483648}} {
		expectRaise(t, api.Process{State: api.Alive}, c.signal, api.Process{State: api.Alive, Pending: c.pending})
		expectRaise(t, api.Process{State: api.Dying, Status: -9}, c.signal, api.Process{State: api.Dying, Pending: c.pending, Status: -9})
	}
}

func TestP14_2Example(t *testing.T) {
	expectRaise(t, api.Process{State: api.Alive}, api.SigAlarm, api.Process{State: api.Alive, Pending: 16384})
}

func TestP14_2StatusStays(t *testing.T) {
	for _, status := range statuses() {
		for _, signal := range signals() {
			for _, state := range []int{api.Alive, api.Dying} {
				expectRaise(t, full(state, 0, status), signal, full(state, 1<<signal, status))
			}
		}
	}
}

// TestP14_2KillsOneThatIsAlive has all signals pending that can be, and others: a kill is not one of them.
func TestP14_2KillsOneThatIsAlive(t *testing.T) {
	for _, pending := range append(possibles(), impossibles()...) {
		for _, status := range statuses() {
			for _, p := range processes(api.Alive, pending, status) {
				want := p
				want.State, want.Status = api.Dying, -9
				expectRaise(t, p, api.SigKill, want)
			}
		}
	}
}

func TestP14_2KillLeavesOneThatDies(t *testing.T) {
	for _, pending := range append(possibles(), impossibles()...) {
		for _, status := range statuses() {
			for _, p := range processes(api.Dying, pending, status) {
				expectRaise(t, p, api.SigKill, p)
			}
		}
	}
}

// TestP14_2Range has states of all kinds: that the signal is none comes first.
func TestP14_2Range(t *testing.T) {
	for _, state := range append(otherStates(), api.Alive, api.Dying) {
		for _, signal := range noSignals() {
			for _, p := range processes(state, 4, 3) {
				expectRaiseFails(t, p, signal, api.ErrRange)
			}
		}
	}
}

func TestP14_2Missing(t *testing.T) {
	for _, state := range otherStates() {
		for _, signal := range append(signals(), api.SigKill) {
			for _, p := range processes(state, 4, 3) {
				expectRaiseFails(t, p, signal, api.ErrMissing)
			}
		}
	}
}

// TestP14_3Take has processes in all states, and all kinds of signals: Take has no error.
func TestP14_3Take(t *testing.T) {
	for _, state := range append(otherStates(), api.Alive, api.Dying) {
		for _, pending := range append(possibles(), impossibles()...) {
			for _, p := range processes(state, pending, 3) {
				expectTake(t, p)
			}
		}
	}
	expectTake(t, api.Process{})
}

func TestP14_3StatusStays(t *testing.T) {
	for _, status := range statuses() {
		for _, p := range processes(api.Dying, 16384, status) {
			expectTake(t, p)
		}
	}
}

func TestConsequenceTwiceIsOnce(t *testing.T) {
	for _, state := range []int{api.Alive, api.Dying} {
		for _, signal := range append(signals(), api.SigKill) {
			for _, pending := range append(possibles(), impossibles()...) {
				for _, p := range processes(state, pending, 3) {
					once, e := Raise(p, signal)
					if e != api.OK {
						t.Fatalf("Raise(%v, %d) is the error %d", p, signal, e)
					}
					expectRaise(t, once, signal, once)
				}
			}
		}
	}
}

func TestConsequenceNothingIsPendingAfterTake(t *testing.T) {
	for _, pending := range append(possibles(), impossibles()...) {
		for _, p := range processes(api.Alive, pending, 0) {
			_, taken := Take(p)
			if n, again := Take(taken); n != 0 || taken.Pending != 0 || again.Pending != 0 {
				t.Fatalf("%d is pending after Take", n)
			}
		}
	}
}

// TestSignalsAreASet raises and takes now and then, and compares what is pending with a set each time.
func TestSignalsAreASet(t *testing.T) {
	for seed := range 40 {
		p, set := full(api.Alive, 0, 0), map[int64]bool{}
		for i := range 300 {
			if (i*i*7+i*seed)%(13+seed) == 1 {
				n, taken := Take(p)
				expectSet(t, n, set)
				p, set = taken, map[int64]bool{}
			} else {
				signal := signals()[(i*i*11+i*seed)%len(signals())]
				raised, e := Raise(p, signal)
				if e != api.OK {
					t.Fatalf("Raise(%v, %d) is the error %d", p, signal, e)
				}
				p, set[signal] = raised, true
			}
			expectSet(t, p.Pending, set)
			expectProcess(t, p, full(api.Alive, p.Pending, 0))
		}
	}
}

func expectSet(t *testing.T, pending int64, set map[int64]bool) {
	t.Helper()
	for n := range int64(64) {
		if (pending>>n&1 == 1) != set[n] {
			t.Fatalf("%d is pending, want %v", pending, set)
		}
	}
	if !Valid(pending) {
		t.Fatalf("Valid(%d) = false", pending)
	}
}

// calls are Raise with signals of both sorts, and Take, without what else they return.
func calls() []func(p api.Process) api.Process {
	raise := func(signal int64) func(p api.Process) api.Process {
		return func(p api.Process) api.Process {
			raised, _ := Raise(p, signal)
			return raised
		}
	}
	take := func(p api.Process) api.Process {
		_, taken := Take(p)
		return taken
	}
	return []func(p api.Process) api.Process{raise(1), raise(api.SigAlarm), raise(api.SigKill), take}
}

// examples are processes in all states, with lists that have memory beyond their lengths.
func examples() []api.Process {
	var list []api.Process
	for _, state := range []int{0, api.Alive, api.Dying, api.Zombie} {
		list = append(list, full(state, 4, 3), full(state, 0, 0), withRoom(full(state, 16384, -9)))
	}
	return list
}

// TestP1NothingIsChanged looks at what lies beyond the lengths of the lists, too.
func TestP1NothingIsChanged(t *testing.T) {
	for _, p := range examples() {
		want := wholeProcess(p)
		for _, signal := range append(append(noSignals(), signals()...), api.SigKill) {
			Raise(p, signal)
		}
		Take(p)
		if !reflect.DeepEqual(wholeProcess(p), want) {
			t.Fatalf("the process is %v, want %v", wholeProcess(p), want)
		}
	}
}

// TestP1ResultsShareNoMemory overwrites each result, and expects its argument and other results as they were.
func TestP1ResultsShareNoMemory(t *testing.T) {
	for _, p := range examples() {
		before := wholeProcess(p)
		for _, call := range calls() {
			first, second := call(p), call(p)
			want := wholeProcess(first)
			fillMemory(second)
			if !reflect.DeepEqual(wholeProcess(first), want) {
				t.Fatalf("two results share memory: %v, want %v", first, want)
			}
			fillMemory(first)
			wipe(second)
			if !reflect.DeepEqual(wholeProcess(p), before) {
				t.Fatalf("a result shares memory with its argument: %v, want %v", wholeProcess(p), before)
			}
		}
	}
}

// fillMemory overwrites all memory of the lists of p.
func fillMemory(p api.Process) {
	n := int64(1000)
	lists(reflect.ValueOf(p), func(list reflect.Value) {
		for i := range list.Cap() {
			fill(list.Slice(0, list.Cap()).Index(i), &n)
		}
	})
}

// TestP1EmptyResultsShareNoMemory appends to the empty lists of each result, and expects the memory of its argument as it was.
func TestP1EmptyResultsShareNoMemory(t *testing.T) {
	for _, call := range calls() {
		p := withRoom(api.Process{State: api.Alive})
		want := wholeProcess(p)
		got := call(p)
		got.Children = append(got.Children, 1)
		got.Program.Code = append(got.Program.Code, api.Instr{Op: 1})
		got.Program.Strings = append(got.Program.Strings, "a")
		got.Pages = append(got.Pages, api.PageRef{ID: 1})
		got.Table = append(got.Table, api.Slot{Kind: 1})
		if !reflect.DeepEqual(wholeProcess(p), want) {
			t.Fatalf("the memory is %v, want %v", wholeProcess(p), want)
		}
	}
}

// TestP1WhatLiesBeyondIsNotLookedAt gives the same process with other memory behind its lists.
func TestP1WhatLiesBeyondIsNotLookedAt(t *testing.T) {
	for _, state := range []int{api.Alive, api.Dying} {
		for _, call := range calls() {
			plain, other := full(state, 4, 3), full(state, 4, 3)
			lists(reflect.ValueOf(other), func(list reflect.Value) {
				list.Slice(list.Len(), list.Cap()).Clear()
			})
			if a, b := call(plain), call(other); !reflect.DeepEqual(a, b) {
				t.Fatalf("the results are %v and %v", a, b)
			}
		}
	}
}

func TestP1EmptyListsAreAsNil(t *testing.T) {
	for _, state := range []int{0, api.Alive, api.Dying, api.Zombie} {
		for _, call := range calls() {
			p := api.Process{State: state, Pending: 4, Status: 3}
			expectProcess(t, call(withRoom(p)), call(p))
		}
	}
}

func TestP1SameArgumentsSameResults(t *testing.T) {
	p := full(api.Alive, 4, 0)
	for range 3 {
		expectRaise(t, p, api.SigAlarm, full(api.Alive, 16388, 0))
		expectRaise(t, p, api.SigKill, full(api.Dying, 4, -9))
		expectRaiseFails(t, p, 32, api.ErrRange)
		expectRaiseFails(t, full(api.Zombie, 0, 0), 1, api.ErrMissing)
		expectTake(t, p)
		if !Valid(4) || Valid(1) {
			t.Fatal("Valid is not always the same")
		}
	}
}
