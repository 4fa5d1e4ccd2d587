package process

import (
	"math"
	"slices"
	"testing"

	"clusterkernel/api"
)

// expectProcess expects that o is a process also for all other functions.
func expectProcess(t *testing.T, o api.Object) {
	t.Helper()
	if !Valid(o) {
		t.Fatalf("Valid(%v) = false", o)
	}
	if _, _, e := Fork(o, 0, nil); e == api.ErrInvalid && (o.Process.State != api.Alive || len(o.Process.Children) == api.MaxChildren) {
		t.Fatalf("Fork(%v) is ErrInvalid", o)
	}
	if _, _, e := End(o, 3); e == api.ErrInvalid {
		t.Fatalf("End(%v) is ErrInvalid", o)
	}
	if _, _, e := Orphan(o); e == api.ErrInvalid {
		t.Fatalf("Orphan(%v) is ErrInvalid", o)
	}
	if _, _, e := Reap(o, zombie(o.ID^1<<50, o.ID, 3)); e != api.ErrChild {
		t.Fatalf("Reap(%v) is the error %d", o, e)
	}
	if _, _, e := Reap(zombie(o.ID^1<<50, o.ID, 3), o); e != api.ErrChild {
		t.Fatalf("Reap of the child %v is the error %d", o, e)
	}
}

// expectNoProcess expects ErrInvalid also where other errors apply too.
func expectNoProcess(t *testing.T, o api.Object) {
	t.Helper()
	if Valid(o) {
		t.Fatalf("Valid(%v) = true", o)
	}
	for _, id := range []uint64{0, 7, 20, 99} {
		for _, pages := range [][]uint64{nil, {100, 101}, {100, 101, 102}, {0, 0}, {40, 100}} {
			expectForkFails(t, o, id, pages, api.ErrInvalid)
		}
	}
	for _, status := range []int64{0, 3, -9} {
		expectEndFails(t, o, status, api.ErrInvalid)
	}
	expectOrphanFails(t, o, api.ErrInvalid)
	for _, x := range []api.Object{alive(), bare(api.Alive), zombie(7, 5, 3), zombie(20, 7, 3), zombie(20, 8, 3), {}, o} {
		expectReapFails(t, o, x, api.ErrInvalid)
		expectReapFails(t, x, o, api.ErrInvalid)
	}
	parent := bare(api.Alive) // of whose children o has the identifier
	if o.ID != 0 {
		parent.ID, parent.Process.Children = o.ID^1<<50, []uint64{o.ID}
		expectReapFails(t, parent, o, api.ErrInvalid)
	}
}

// expectNever changes processes in all states, and expects that none of them is a process any more.
func expectNever(t *testing.T, change func(o *api.Object)) {
	t.Helper()
	for _, o := range all() {
		change(&o)
		expectNoProcess(t, o)
	}
}

// expectAlways changes processes that are no zombies, and expects that all of them are still processes.
func expectAlways(t *testing.T, change func(o *api.Object)) {
	t.Helper()
	for _, o := range going() {
		change(&o)
		expectProcess(t, o)
		expectProcess(t, withRoom(o))
	}
}

func TestP16_1Processes(t *testing.T) {
	for _, o := range all() {
		expectProcess(t, o)
	}
	expectNoProcess(t, api.Object{})
}

func TestP16_1Kind(t *testing.T) {
	for kind := -20; kind <= 20; kind++ {
		if kind != api.KindProcess {
			expectNever(t, func(o *api.Object) { o.Kind = kind })
		}
	}
	for _, kind := range []int{math.MinInt64, math.MinInt64 + 1, -1<<32 + 1, 257, 1<<32 + 1, math.MaxInt64} {
		expectNever(t, func(o *api.Object) { o.Kind = kind })
	}
}

func TestP16_1ID(t *testing.T) {
	for _, id := range append(identifiers(), 30, 40, 50, 51, 52) { // also those of its pages and slots
		expectAlways(t, func(o *api.Object) { o.ID = id })
		expectProcess(t, zombie(id, 5, 3))
	}
	expectNever(t, func(o *api.Object) { o.ID = 0 })
}

func TestP16_1State(t *testing.T) {
	for state := -20; state <= 20; state++ {
		if state < api.Alive || state > api.Zombie {
			expectNever(t, func(o *api.Object) { o.Process.State = state })
		}
	}
	for _, state := range []int{math.MinInt64, math.MinInt64 + 1, -1<<32 + 2, 257, 258, 259, 1<<32 + 1, 1<<32 + 2, 1<<32 + 3, math.MaxInt64} {
		expectNever(t, func(o *api.Object) { o.Process.State = state })
	}
}

func TestP16_1Parent(t *testing.T) {
	for _, parent := range append(identifiers(), 20, 21, 30, 40) { // also those of its children and pages
		expectAlways(t, func(o *api.Object) { o.Process.Parent = parent })
		expectProcess(t, zombie(7, parent, 3))
	}
	for _, id := range identifiers() {
		expectNever(t, func(o *api.Object) { o.ID, o.Process.Parent = id, id })
	}
}

func TestP16_1AnyChildren(t *testing.T) {
	for n := range len(identifiers()) {
		expectAlways(t, func(o *api.Object) { o.Process.Children = identifiers()[:n] })
	}
	expectAlways(t, func(o *api.Object) { o.Process.Children = []uint64{8, 6, 5, 30, 40, 50} }) // also those of its parent, its pages and its slots
}

func TestP16_1AtMostMaxChildren(t *testing.T) {
	for n := range api.MaxChildren + 1 {
		expectAlways(t, func(o *api.Object) { o.Process.Children = others(n) })
	}
	for _, n := range []int{33, 34, 63, 64, 65, 256, 257, 288, 1000} {
		expectNever(t, func(o *api.Object) { o.Process.Children = others(n) })
	}
}

// TestP16_1LengthIsNotThatOfTheMemory has children beyond the length of the list, some of them 0 or there twice.
func TestP16_1LengthIsNotThatOfTheMemory(t *testing.T) {
	for n := range api.MaxChildren + 1 {
		expectAlways(t, func(o *api.Object) {
			children := others(100)
			copy(children[n:], []uint64{children[0], 0, 0, o.ID})
			o.Process.Children = children[:n]
		})
	}
}

func TestP16_1ChildrenWithout0AndItself(t *testing.T) {
	for n := 1; n <= api.MaxChildren; n++ {
		for i := range n {
			for _, o := range going() {
				for _, wrong := range []uint64{0, o.ID} {
					o.Process.Children = others(n)
					o.Process.Children[i] = wrong
					expectNoProcess(t, o)
				}
			}
		}
	}
}

func TestP16_1ChildrenWithNoneTwice(t *testing.T) {
	for n := 2; n <= api.MaxChildren; n++ {
		for i := range n {
			o := going()[i%len(going())]
			for j := range i {
				o.Process.Children = others(n)
				o.Process.Children[i] = o.Process.Children[j]
				if Valid(o) {
					t.Fatalf("Valid(%v) = true", o)
				}
			}
		}
	}
	expectNever(t, func(o *api.Object) { o.Process.Children = []uint64{20, 21, 20} })
	expectNever(t, func(o *api.Object) { o.Process.Children = []uint64{20, 20} })
}

func TestP16_1Program(t *testing.T) {
	for _, p := range rightPrograms() {
		expectAlways(t, func(o *api.Object) { o.Process.Program = p })
	}
	for _, p := range wrongPrograms() {
		expectNever(t, func(o *api.Object) { o.Process.Program = p })
	}
}

// TestP16_1AnyCPU has processors that no program of a few instructions has.
func TestP16_1AnyCPU(t *testing.T) {
	for _, n := range numbers() {
		expectAlways(t, func(o *api.Object) { o.Process.CPU.PC = int(n) })
		for reg := range api.Regs {
			expectAlways(t, func(o *api.Object) { o.Process.CPU.Regs[reg] = n })
		}
	}
}

// privateAndShared are n pages, of which every other one is shared.
func privateAndShared(n int) []api.PageRef {
	var l []api.PageRef
	for i, id := range others(n) {
		l = append(l, api.PageRef{ID: id, Shared: i%2 == 1})
	}
	return l
}

func TestP16_1Pages(t *testing.T) {
	for n := range api.MaxPages + 1 { // whatever the program says
		expectAlways(t, func(o *api.Object) { o.Process.Pages = privateAndShared(n) })
	}
	expectAlways(t, func(o *api.Object) { o.Process.Pages = slices.Repeat([]api.PageRef{{ID: 30, Shared: true}}, 16) })
	expectAlways(t, func(o *api.Object) { o.Process.Pages = []api.PageRef{{ID: 7}, {ID: 5, Shared: true}} })
	for _, wrong := range [][]api.PageRef{
		privateAndShared(17), privateAndShared(300), {{}}, {{ID: 30}, {Shared: true}}, {{ID: 30}, {ID: 30}},
		{{ID: 30}, {ID: 31}, {ID: 30, Shared: true}}, {{ID: 30, Shared: true}, {ID: 30}},
	} {
		expectNever(t, func(o *api.Object) { o.Process.Pages = wrong })
	}
}

func TestP16_1Table(t *testing.T) {
	sem := api.Slot{Kind: api.SlotSem, Target: 40}
	for n := range api.MaxSlots + 1 {
		expectAlways(t, func(o *api.Object) { o.Process.Table = slices.Repeat([]api.Slot{sem}, n) })
	}
	expectAlways(t, func(o *api.Object) { o.Process.Table = []api.Slot{{}, sem, {}, {}, {Kind: api.SlotReader, Target: 7}} })
	for _, wrong := range [][]api.Slot{
		slices.Repeat([]api.Slot{sem}, 17), slices.Repeat([]api.Slot{sem}, 272), {{}}, {sem, {}}, {{Kind: 9, Target: 40}}, {{Kind: -1, Target: 40}},
		{sem, {Kind: api.SlotSem}}, {{Kind: api.SlotSem, Target: 40, End: 1}, sem}, {{Target: 40}, sem}, {{Kind: api.SlotFile, Target: 40}},
	} {
		expectNever(t, func(o *api.Object) { o.Process.Table = wrong })
	}
}

func TestP16_1Pending(t *testing.T) {
	possible := int64(0)
	for bit := range 64 {
		signal := int64(1) << bit
		if bit >= 1 && bit <= 31 && bit != 9 {
			possible |= signal
			expectAlways(t, func(o *api.Object) { o.Process.Pending = signal })
		} else {
			expectNever(t, func(o *api.Object) { o.Process.Pending = signal })
			expectNever(t, func(o *api.Object) { o.Process.Pending = signal | 2 })
		}
	}
	expectAlways(t, func(o *api.Object) { o.Process.Pending = possible })
	expectNever(t, func(o *api.Object) { o.Process.Pending = -1 })
}

func TestP16_1Alarm(t *testing.T) {
	for _, ticks := range []int64{0, 1, 2, 3, 255, 256, 1 << 16, 1<<30 - 1, 1 << 30} {
		expectAlways(t, func(o *api.Object) { o.Process.Alarm = ticks })
	}
	for _, ticks := range []int64{math.MinInt64, math.MinInt64 + 3, -1<<32 + 3, -1 << 30, -256, -2, -1, 1<<30 + 1, 1<<30 + 2, 1<<31 - 1, 1 << 31, 1<<32 + 3, math.MaxInt64} {
		expectNever(t, func(o *api.Object) { o.Process.Alarm = ticks })
	}
}

func TestP16_1Status(t *testing.T) {
	for _, status := range numbers() {
		for _, o := range going() {
			o.Process.Status = status
			if o.Process.State == api.Dying || status == 0 {
				expectProcess(t, o)
			} else {
				expectNoProcess(t, o)
			}
		}
		expectProcess(t, zombie(7, 5, status))
	}
}

func TestP16_1ZombiesHaveAParent(t *testing.T) {
	for _, status := range numbers() {
		expectNoProcess(t, zombie(7, 0, status))
	}
}

func TestP16_1ZombiesHaveNothingElse(t *testing.T) {
	for _, o := range zombiesWithMore(zombie(7, 5, 3)) {
		expectNoProcess(t, o)
	}
	for _, p := range []api.Program{{Code: []api.Instr{{}}}, {Strings: []string{""}}, {Pages: 1}, {Pages: 16}} {
		o := zombie(7, 5, 3)
		o.Process.Program = p
		expectNoProcess(t, o)
	}
	o := alive()
	o.Process.State = api.Zombie
	expectNoProcess(t, o)
	o = dying()
	o.Process.State = api.Zombie
	expectNoProcess(t, o)
}

func TestP16_1OtherFieldsAreZero(t *testing.T) {
	for _, o := range append(going(), zombie(7, 5, 0), zombie(7, 5, 3)) {
		for _, x := range changedElsewhere(o) {
			expectNoProcess(t, x)
		}
	}
}
