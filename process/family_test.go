package process

import (
	"maps"
	"math/rand/v2"
	"slices"
	"testing"

	"clusterkernel/api"
	"clusterkernel/signal"
)

// family is some processes, which are used in pairs as the kernel does.
type family struct {
	t       *testing.T
	members map[uint64]api.Object
	last    uint64         // the identifier that was given last
	done    map[string]int // how often things were done
}

// begun is a family of a single process, whose program has a page.
func begun(t *testing.T) *family {
	f := &family{t: t, members: map[uint64]api.Object{}, last: 100, done: map[string]int{}}
	f.start()
	return f
}

func (f *family) start() uint64 {
	o, e := New(f.fresh(), api.Program{Pages: 1}, []uint64{f.fresh()})
	f.expect(e, api.OK)
	f.members[o.ID] = o
	return o.ID
}

func (f *family) fresh() uint64 {
	f.last++
	return f.last
}

func (f *family) expect(e, want api.Errno) {
	f.t.Helper()
	if e != want {
		f.t.Fatalf("the error is %d, want %d", e, want)
	}
}

func (f *family) fork(id uint64) {
	o := f.members[id]
	parent, child, e := Fork(o, f.fresh(), []uint64{f.fresh()})
	switch {
	case o.Process.State != api.Alive:
		f.expect(e, api.ErrState)
	case len(o.Process.Children) == api.MaxChildren:
		f.expect(e, api.ErrLimit)
	default:
		f.expect(e, api.OK)
		f.members[id], f.members[child.ID] = parent, child
		f.done["fork"]++
	}
}

func (f *family) kill(id uint64) {
	o := f.members[id]
	if p, e := signal.Raise(o.Process, api.SigKill); e == api.OK {
		o.Process = p
		f.members[id] = o
		f.done["kill"]++
	}
}

// statusOf is the status with which a process ends.
func statusOf(id uint64) int64 {
	return int64(id)*3 - 500
}

func (f *family) end(id uint64) {
	o := f.members[id]
	left, gone, e := End(o, statusOf(id))
	if o.Process.State == api.Zombie {
		f.expect(e, api.ErrState)
		return
	}
	f.expect(e, api.OK)
	for _, child := range o.Process.Children {
		orphan, gone, e := Orphan(f.members[child])
		f.expect(e, api.OK)
		f.put(child, orphan, gone)
		f.done["orphan"]++
	}
	f.put(id, left, gone)
}

func (f *family) put(id uint64, left api.Object, gone bool) {
	if gone {
		delete(f.members, id)
		f.done["gone"]++
	} else {
		f.members[id] = left
	}
}

// wait reaps all zombies of a process.
func (f *family) wait(id uint64) {
	for _, child := range slices.Clone(f.members[id].Process.Children) {
		left, status, e := Reap(f.members[id], f.members[child])
		if f.members[child].Process.State != api.Zombie {
			f.expect(e, api.ErrWait)
			continue
		}
		f.expect(e, api.OK)
		if status != statusOf(child) {
			f.t.Fatalf("the status of %d is %d", child, status)
		}
		f.members[id] = left
		delete(f.members, child)
		f.done["reap"]++
	}
}

// check expects that every member is valid, and the parent of exactly those that name it as their parent.
func (f *family) check() {
	f.t.Helper()
	for id, o := range f.members {
		if !Valid(o) || o.ID != id {
			f.t.Fatalf("the member %d is %v", id, o)
		}
		if parent := o.Process.Parent; parent != 0 && !slices.Contains(f.members[parent].Process.Children, id) {
			f.t.Fatalf("%d is no child of %d", id, parent)
		}
		for _, child := range o.Process.Children {
			if f.members[child].Process.Parent != id {
				f.t.Fatalf("%d is not the parent of %d", id, child)
			}
		}
	}
}

// TestConsequenceParentsAndChildren lets families grow and shrink, in the same way each time.
func TestConsequenceParentsAndChildren(t *testing.T) {
	for seed := range uint64(20) {
		f := begun(t)
		n := rand.New(rand.NewPCG(seed, 16))
		for range 600 {
			ids := slices.Sorted(maps.Keys(f.members))
			if len(ids) == 0 {
				ids = append(ids, f.start())
			}
			id := ids[n.IntN(len(ids))]
			switch n.IntN(8) {
			case 0, 1, 2:
				f.fork(id)
			case 3, 4:
				f.end(id)
			case 5:
				f.kill(id)
			default:
				f.wait(id)
			}
			f.check()
		}
		for _, what := range []string{"fork", "kill", "orphan", "gone", "reap"} {
			if f.done[what] < 5 {
				t.Errorf("%s was done %d times with the seed %d", what, f.done[what], seed)
			}
		}
	}
}

// TestConsequenceMaxChildren forks until there are MaxChildren children, and once more after one was reaped.
func TestConsequenceMaxChildren(t *testing.T) {
	f := begun(t)
	first := f.last - 1
	for range api.MaxChildren + 2 {
		f.fork(first)
		f.check()
	}
	f.end(f.members[first].Process.Children[3])
	f.fork(first)
	f.check()
	f.wait(first)
	f.fork(first)
	f.check()
	if len(f.members[first].Process.Children) != api.MaxChildren || f.done["fork"] != api.MaxChildren+1 || f.done["reap"] != 1 {
		t.Fatalf("after %v the first process is %v", f.done, f.members[first])
	}
	f.end(first)
	f.check()
	if len(f.members) != api.MaxChildren || f.done["orphan"] != api.MaxChildren {
		t.Fatalf("after %v there are %d processes", f.done, len(f.members))
	}
}
