package process

import (
	"slices"
	"testing"

	"clusterkernel/api"
)

func TestP16_2New(t *testing.T) {
	for _, id := range append(identifiers(), 30, 31) { // also those of its pages: nothing rules them out
		expectNew(t, id, program(), []uint64{32, 30, 31})
		expectNew(t, id, program(), []uint64{1 << 63, 1, 3})
		expectNew(t, id, api.Program{}, nil)
		expectNew(t, id, api.Program{}, []uint64{})
	}
}

func TestP16_2AllPrograms(t *testing.T) {
	for _, p := range rightPrograms() {
		expectNew(t, 7, p, others(p.Pages))
		expectNew(t, 7, p, others(100)[:p.Pages])
	}
}

// TestP16_2Invalid has pages of all sorts: ErrInvalid comes before ErrRange.
func TestP16_2Invalid(t *testing.T) {
	for _, p := range append(rightPrograms(), wrongPrograms()...) {
		for _, pages := range [][]uint64{nil, {30}, others(p.Pages & 31), {0}, {30, 30}, make([]uint64, p.Pages&31)} {
			expectNewFails(t, 0, p, pages, api.ErrInvalid)
		}
	}
	for _, p := range wrongPrograms() {
		for _, pages := range [][]uint64{nil, {30}, others(p.Pages & 31), {0}, {30, 30}} {
			expectNewFails(t, 7, p, pages, api.ErrInvalid)
		}
	}
}

// TestP16_2Range has pages that are 0 or there twice, too: ErrRange comes before the second ErrInvalid.
func TestP16_2Range(t *testing.T) {
	for n := range api.MaxPages + 1 {
		p := program()
		p.Pages = n
		for m := range 40 {
			if m != n {
				expectNewFails(t, 7, p, others(m), api.ErrRange)
				expectNewFails(t, 7, p, make([]uint64, m), api.ErrRange)
				expectNewFails(t, 7, p, slices.Repeat([]uint64{30}, m), api.ErrRange)
			}
		}
		expectNewFails(t, 7, p, others(n+256), api.ErrRange)
	}
}

func TestP16_2PagesThatAreNotValid(t *testing.T) {
	for n := 1; n <= api.MaxPages; n++ {
		p := program()
		p.Pages = n
		for i := range n {
			pages := others(n)
			pages[i] = 0
			expectNewFails(t, 7, p, pages, api.ErrInvalid)
			for j := range i {
				pages := others(n)
				pages[i] = pages[j]
				expectNewFails(t, 7, p, pages, api.ErrInvalid)
			}
		}
	}
}

func TestP16_3Fork(t *testing.T) {
	o := alive()
	expectFork(t, o, 99, []uint64{32, 33}, []api.PageRef{{ID: 32}, {ID: 40, Shared: true}, {ID: 33}, {ID: 40, Shared: true}})
	expectFork(t, withRoom(o), 99, []uint64{32, 33}, []api.PageRef{{ID: 32}, {ID: 40, Shared: true}, {ID: 33}, {ID: 40, Shared: true}})
	expectFork(t, withoutParent(o), 99, []uint64{31, 30}, []api.PageRef{{ID: 31}, {ID: 40, Shared: true}, {ID: 30}, {ID: 40, Shared: true}})
	expectFork(t, bare(api.Alive), 99, nil, nil)
	expectFork(t, withRoom(bare(api.Alive)), 99, []uint64{}, nil)
}

func TestP16_3AnyIdentifier(t *testing.T) {
	for _, id := range append(identifiers(), 5, 30, 31, 32, 33, 40, 50, 52) { // also those of its parent, of pages and of slots: nothing rules them out
		expectFork(t, alive(), id, []uint64{32, 33}, []api.PageRef{{ID: 32}, {ID: 40, Shared: true}, {ID: 33}, {ID: 40, Shared: true}})
		o := bare(api.Alive)
		o.ID = id
		expectFork(t, o, 99, nil, nil)
	}
}

func TestP16_3AnyPages(t *testing.T) {
	for _, id := range append(identifiers(), 5, 7, 20, 30, 31, 50, 52, 99) { // also those of the processes, and those that were there
		expectFork(t, alive(), 99, []uint64{id, 60}, []api.PageRef{{ID: id}, {ID: 40, Shared: true}, {ID: 60}, {ID: 40, Shared: true}})
		expectFork(t, alive(), 99, []uint64{60, id}, []api.PageRef{{ID: 60}, {ID: 40, Shared: true}, {ID: id}, {ID: 40, Shared: true}})
	}
}

func TestP16_3AllPrograms(t *testing.T) {
	for _, p := range rightPrograms() {
		o := alive()
		o.Process.Program = p
		expectFork(t, o, 99, []uint64{32, 33}, []api.PageRef{{ID: 32}, {ID: 40, Shared: true}, {ID: 33}, {ID: 40, Shared: true}})
	}
}

func TestP16_3AllNumbersOfPages(t *testing.T) {
	for n := range api.MaxPages + 1 {
		o := alive()
		o.Process.Pages = privateAndShared(n)
		pages := privateAndShared(n)
		var ids []uint64
		for i := range pages {
			if !pages[i].Shared {
				pages[i].ID = uint64(1000 - i)
				ids = append(ids, pages[i].ID)
			}
		}
		expectFork(t, o, 99, ids, pages)
	}
}

func TestP16_3AllNumbersOfChildren(t *testing.T) {
	for n := range api.MaxChildren {
		o := bare(api.Alive)
		o.Process.Children = others(n)
		expectFork(t, o, 99, nil, nil)
		o.Process.Children = others(100)[:n]
		expectFork(t, o, 99, nil, nil)
	}
}

// TestP16_3State has other errors, too: ErrState comes first of them.
func TestP16_3State(t *testing.T) {
	for _, o := range append(all(), withChildren(dying(), others(32))) {
		if o.Process.State == api.Alive {
			continue
		}
		for _, id := range []uint64{0, 7, 20, 99} {
			for _, pages := range [][]uint64{nil, {32, 33}, {32, 33, 34}, {0, 32}, {40, 32}} {
				expectForkFails(t, o, id, pages, api.ErrState)
			}
		}
	}
}

func withChildren(o api.Object, children []uint64) api.Object {
	o.Process.Children = children
	return o
}

// TestP16_3Limit has other errors, too: ErrLimit comes before the second ErrInvalid.
func TestP16_3Limit(t *testing.T) {
	children := others(api.MaxChildren)
	for _, o := range []api.Object{withChildren(alive(), children), withRoom(withChildren(alive(), children)), withChildren(bare(api.Alive), children)} {
		for _, id := range []uint64{0, 7, children[0], children[31], 99} {
			for _, pages := range [][]uint64{nil, {32, 33}, {32, 33, 34}, {0, 32}, {40, 32}} {
				expectForkFails(t, o, id, pages, api.ErrLimit)
			}
		}
	}
}

// TestP16_3Invalid has pages of all sorts: the second ErrInvalid comes before ErrRange.
func TestP16_3Invalid(t *testing.T) {
	for n := range api.MaxChildren {
		o := withChildren(alive(), others(n))
		for _, id := range append(others(n), 0, 7) {
			for _, pages := range [][]uint64{nil, {32, 33}, {32, 33, 34}, {0, 32}, {40, 32}} {
				expectForkFails(t, o, id, pages, api.ErrInvalid)
			}
		}
	}
	for _, id := range identifiers() {
		o := alive()
		o.ID = id
		expectForkFails(t, o, id, []uint64{32, 33}, api.ErrInvalid)
	}
}

// TestP16_3Range has pages that are 0, shared or there twice, too: ErrRange comes before the third ErrInvalid.
func TestP16_3Range(t *testing.T) {
	for n := range 40 {
		for _, pages := range [][]uint64{others(n), make([]uint64, n), slices.Repeat([]uint64{40}, n), slices.Repeat([]uint64{32}, n)} {
			if n != 2 {
				expectForkFails(t, alive(), 99, pages, api.ErrRange)
			}
			if n != 0 {
				expectForkFails(t, bare(api.Alive), 99, pages, api.ErrRange)
			}
		}
	}
	expectForkFails(t, alive(), 99, others(258), api.ErrRange)
}

func TestP16_3PagesThatAreNotValid(t *testing.T) {
	for _, pages := range [][]uint64{{0, 32}, {32, 0}, {0, 0}, {32, 32}, {40, 32}, {32, 40}, {40, 40}, {30, 30}} {
		expectForkFails(t, alive(), 99, pages, api.ErrInvalid)
		expectForkFails(t, withRoom(alive()), 99, pages, api.ErrInvalid)
	}
	for n := 2; n <= api.MaxPages; n++ {
		o := alive()
		o.Process.Pages = privatePages(others(n))
		for i := range n {
			for j := range i {
				pages := others(n)
				pages[i] = pages[j]
				expectForkFails(t, o, 99, pages, api.ErrInvalid)
			}
		}
	}
}

func TestP16_4End(t *testing.T) {
	for _, o := range going() {
		for _, status := range numbers() {
			want := api.Object{}
			if o.Process.Parent != 0 {
				want = zombie(7, 5, status)
			}
			expectEnd(t, o, status, want)
			expectEnd(t, withRoom(o), status, want)
		}
	}
}

func TestP16_4AnyIdentifier(t *testing.T) {
	for _, id := range identifiers() {
		for _, o := range []api.Object{alive(), dying()} {
			o.ID = id
			expectEnd(t, o, 3, zombie(id, 5, 3))
			o.ID, o.Process.Parent = 7, id
			expectEnd(t, o, 3, zombie(7, id, 3))
		}
	}
}

func TestP16_4Example(t *testing.T) {
	expectEnd(t, bare(api.Alive), 3, api.Object{})
	o, e := New(7, program(), []uint64{30, 31, 32})
	if e != api.OK {
		t.Fatal(e)
	}
	expectEnd(t, o, 3, api.Object{})
}

func TestP16_4State(t *testing.T) {
	for _, parent := range identifiers() {
		for _, status := range numbers() {
			expectEndFails(t, zombie(7, parent, 3), status, api.ErrState)
			expectEndFails(t, withRoom(zombie(7, parent, status)), status, api.ErrState)
		}
	}
}

func TestP16_5Orphan(t *testing.T) {
	for _, o := range going() {
		for _, parent := range append(identifiers(), 20, 21) {
			o.Process.Parent = parent
			expectOrphan(t, o, withoutParent(o))
			expectOrphan(t, withRoom(o), withoutParent(o))
		}
	}
}

func TestP16_5AllPrograms(t *testing.T) {
	for _, p := range rightPrograms() {
		for _, o := range []api.Object{alive(), dying()} {
			o.Process.Program = p
			expectOrphan(t, o, withoutParent(o))
		}
	}
}

func TestP16_5Zombies(t *testing.T) {
	for _, parent := range identifiers() {
		for _, status := range numbers() {
			expectOrphan(t, zombie(7, parent, status), api.Object{})
			expectOrphan(t, withRoom(zombie(7, parent, status)), api.Object{})
		}
	}
}

func TestP16_5State(t *testing.T) {
	for _, o := range going() {
		expectOrphanFails(t, withoutParent(o), api.ErrState)
		expectOrphanFails(t, withRoom(withoutParent(o)), api.ErrState)
	}
}

func TestP16_6Reap(t *testing.T) {
	for _, o := range []api.Object{alive(), dying(), withRoom(alive()), withoutParent(alive()), withoutParent(dying())} {
		for _, status := range numbers() {
			expectReap(t, o, zombie(20, 7, status), []uint64{1<<63 + 9, 21}, status)
			expectReap(t, o, zombie(1<<63+9, 7, status), []uint64{20, 21}, status)
			expectReap(t, o, zombie(21, 7, status), []uint64{20, 1<<63 + 9}, status)
			expectReap(t, o, withRoom(zombie(21, 7, status)), []uint64{20, 1<<63 + 9}, status)
		}
	}
}

func TestP16_6AllNumbersOfChildren(t *testing.T) {
	for n := 1; n <= api.MaxChildren; n++ {
		for i, id := range others(n) {
			for _, o := range []api.Object{withChildren(alive(), others(n)), withChildren(bare(api.Dying), others(100)[:n])} {
				expectReap(t, o, zombie(id, 7, 3), slices.Delete(others(n), i, i+1), 3)
			}
		}
	}
}

func TestP16_6AnyIdentifier(t *testing.T) {
	for _, id := range identifiers() {
		o := alive()
		o.ID = id
		expectReap(t, o, zombie(20, id, 3), []uint64{1<<63 + 9, 21}, 3)
		expectReap(t, withChildren(bare(api.Alive), []uint64{id}), zombie(id, 7, 3), nil, 3)
	}
}

// TestP16_6Child has children that are no zombies, too: ErrChild comes before ErrWait.
func TestP16_6Child(t *testing.T) {
	for _, o := range all() {
		for _, child := range all() {
			expectReapFails(t, o, child, api.ErrChild) // child.ID is o.ID
			child.Process.Parent = 7
			for _, id := range append(identifiers(), 5, 22, 30, 40) {
				if child.ID = id; !slices.Contains(o.Process.Children, id) {
					expectReapFails(t, o, child, api.ErrChild)
				}
			}
			child.ID, child.Process.Children = 20, nil
			for _, parent := range append(identifiers(), 5, 6, 8, 21) {
				child.Process.Parent = parent
				expectReapFails(t, o, child, api.ErrChild)
			}
			if child.Process.State != api.Zombie {
				expectReapFails(t, o, withoutParent(child), api.ErrChild)
			}
		}
	}
}

func TestP16_6Wait(t *testing.T) {
	for _, o := range []api.Object{alive(), dying(), withRoom(alive())} {
		for _, child := range going() {
			child.Process.Parent, child.Process.Children = 7, nil
			for _, id := range o.Process.Children {
				child.ID = id
				expectReapFails(t, o, child, api.ErrWait)
			}
		}
	}
}
