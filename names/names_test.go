package names

import (
	"fmt"
	"math"
	"reflect"
	"slices"
	"strings"
	"testing"

	"clusterkernel/api"
)

// entry is the entry of a path with identifiers.
func entry(path string, kind int, ids ...uint64) api.Name {
	return api.Name{Path: path, Kind: kind, IDs: ids}
}

// space is the name space with these entries, as they are.
func space(list ...api.Name) api.Object {
	return api.Object{ID: 1, Kind: api.KindNames, Names: list}
}

// some is a name space with an entry of each kind.
func some() api.Object {
	return space(
		entry("/b", api.KindPage, 20, 20, 21), entry("/b-", api.KindSemaphore, 4), entry("/b/a", api.KindFile, 5),
		entry("/b/b", api.KindDevice, 6), entry("/bb", api.KindPort, 5), entry("/d", api.KindFile, math.MaxUint64))
}

// filled is the name space with n files: the one number i has the path /f and three digits and the identifier i + 1.
func filled(n int) api.Object {
	o := space()
	for i := range n {
		o.Names = append(o.Names, entry(numbered(i), api.KindFile, uint64(i)+1))
	}
	return o
}

func numbered(i int) string {
	return fmt.Sprintf("/f%03d", i)
}

// clone returns o with entries of its own, to compare with what it was.
func clone(o api.Object) api.Object {
	o.Names = slices.Clone(o.Names)
	for i, n := range o.Names {
		o.Names[i].IDs = slices.Clone(n.IDs)
	}
	return o
}

// expectSpace compares all fields. The lists that a name space does not use have to be nil: memory of their own would be of no use.
func expectSpace(t *testing.T, got api.Object, e api.Errno, want ...api.Name) {
	t.Helper()
	if e != api.OK || !reflect.DeepEqual(got, space(want...)) {
		t.Fatalf("the name space is %.500v (error %d), want %.500v", got, e, space(want...))
	}
}

func expectFound(t *testing.T, o api.Object, want api.Name) {
	t.Helper()
	if n, ok := Find(o, want.Path); !ok || !reflect.DeepEqual(n, want) {
		t.Fatalf("Find(%.500v, %.200q) = %v, %t, want %v", o, want.Path, n, ok, want)
	}
}

func expectNotFound(t *testing.T, o api.Object, path string) {
	t.Helper()
	if n, ok := Find(o, path); ok || !reflect.DeepEqual(n, api.Name{}) {
		t.Fatalf("Find(%.500v, %.200q) = %v, %t, want none", o, path, n, ok)
	}
}

func expectAdd(t *testing.T, o api.Object, n api.Name, want ...api.Name) {
	t.Helper()
	x, e := Add(o, n)
	expectSpace(t, x, e, want...)
}

func expectAddFails(t *testing.T, o api.Object, n api.Name, want api.Errno) {
	t.Helper()
	if x, e := Add(o, n); !reflect.DeepEqual(x, api.Object{}) || e != want {
		t.Fatalf("Add(%.500v, %.200v) = %.500v, %d, want the error %d", o, n, x, e, want)
	}
}

func expectRename(t *testing.T, o api.Object, from, to string, want ...api.Name) {
	t.Helper()
	x, e := Rename(o, from, to)
	expectSpace(t, x, e, want...)
}

func expectRenameFails(t *testing.T, o api.Object, from, to string, want api.Errno) {
	t.Helper()
	if x, e := Rename(o, from, to); !reflect.DeepEqual(x, api.Object{}) || e != want {
		t.Fatalf("Rename(%.500v, %.200q, %.200q) = %.500v, %d, want the error %d", o, from, to, x, e, want)
	}
}

func expectValid(t *testing.T, o api.Object) {
	t.Helper()
	if !Valid(o) {
		t.Fatalf("Valid(%.500v) = false", o)
	}
	for _, n := range o.Names {
		expectFound(t, o, n)
	}
	expectNotFound(t, o, "/none")
	expectRenameFails(t, o, "/none", "/a", api.ErrMissing)
}

// expectInvalid expects ErrInvalid also where other errors apply too.
func expectInvalid(t *testing.T, o api.Object) {
	t.Helper()
	if Valid(o) {
		t.Fatalf("Valid(%.500v) = true", o)
	}
	paths := []string{"", "/", "/none", "/b", "/d", "/e", "none"}
	if len(o.Names) > 0 {
		paths = append(paths, o.Names[0].Path, o.Names[len(o.Names)-1].Path)
	}
	for _, path := range paths {
		expectNotFound(t, o, path)
		expectAddFails(t, o, entry(path, api.KindFile, 5), api.ErrInvalid)
		expectAddFails(t, o, entry(path, 0), api.ErrInvalid)
		expectRenameFails(t, o, path, "/e", api.ErrInvalid)
		expectRenameFails(t, o, path, path, api.ErrInvalid)
		expectRenameFails(t, o, path, "", api.ErrInvalid)
	}
}

// expectEntry looks at an entry in a name space, and at it as one to be added.
func expectEntry(t *testing.T, n api.Name) {
	t.Helper()
	expectValid(t, space(n))
	expectAdd(t, New(), n, n)
}

func expectNoEntry(t *testing.T, n api.Name) {
	t.Helper()
	expectInvalid(t, space(n))
	expectInvalid(t, space(n, entry("/zz", api.KindFile, 9)))
	expectInvalid(t, space(entry("/-", api.KindFile, 9), n))
	expectAddFails(t, New(), n, api.ErrInvalid)
	expectAddFails(t, some(), n, api.ErrInvalid)
	expectAddFails(t, filled(256), n, api.ErrInvalid)
}

func TestP9_1New(t *testing.T) {
	expectSpace(t, New(), api.OK)
	expectValid(t, New())
}

func TestP9_1Valid(t *testing.T) {
	expectValid(t, some())
	for _, n := range []int{0, 1, 2, 3, 100} {
		expectValid(t, filled(n))
	}
}

func TestP9_1KindsOfEntries(t *testing.T) {
	for kind := -20; kind <= 20; kind++ {
		if slices.Contains([]int{api.KindFile, api.KindPort, api.KindSemaphore, api.KindDevice, api.KindPage}, kind) {
			expectEntry(t, entry("/c", kind, 7))
			continue
		}
		expectNoEntry(t, entry("/c", kind, 7))
		expectNoEntry(t, entry("/c", kind))
		expectNoEntry(t, entry("/c", kind, 7, 8))
	}
	for _, kind := range []int{api.KindFile, api.KindPort, api.KindSemaphore, api.KindDevice, api.KindPage} {
		for _, more := range []int{256, 1 << 16, 1 << 32, -256, -1 << 32, math.MinInt64} {
			expectNoEntry(t, entry("/c", kind+more, 7))
		}
	}
	expectNoEntry(t, entry("/c", math.MinInt64, 7))
	expectNoEntry(t, entry("/c", math.MaxInt64, 7))
}

func TestP9_1NumberOfIdentifiers(t *testing.T) {
	for _, kind := range []int{api.KindFile, api.KindPort, api.KindSemaphore, api.KindDevice, api.KindPage} {
		for _, n := range []int{0, 1, 2, 3, 8, 15, 16, 17, 18, 32, 33, 256, 257, 1 << 16, 1<<16 + 1} {
			ids := slices.Repeat([]uint64{7}, n)
			if n == 1 || n >= 1 && n <= 16 && kind == api.KindPage {
				expectEntry(t, entry("/c", kind, ids...))
			} else {
				expectNoEntry(t, entry("/c", kind, ids...))
			}
		}
		expectNoEntry(t, api.Name{Path: "/c", Kind: kind, IDs: []uint64{}})
		expectNoEntry(t, api.Name{Path: "/c", Kind: kind, IDs: []uint64{7, 8}[:0]})
	}
}

// TestP9_1NumberIsNotThatOfTheMemory has identifiers beyond the length of the list.
func TestP9_1NumberIsNotThatOfTheMemory(t *testing.T) {
	expectEntry(t, entry("/c", api.KindFile, []uint64{7, 8, 0}[:1]...))
	expectEntry(t, entry("/c", api.KindPage, slices.Repeat([]uint64{7}, 40)[:16]...))
	expectNoEntry(t, entry("/c", api.KindPage, []uint64{7, 8}[:0]...))
}

func TestP9_1Identifiers(t *testing.T) {
	for _, id := range []uint64{1, 2, 1<<32 - 1, 1 << 32, 1<<57 + 5, 1 << 63, math.MaxUint64} {
		for _, kind := range []int{api.KindFile, api.KindPort, api.KindSemaphore, api.KindDevice, api.KindPage} {
			expectEntry(t, entry("/c", kind, id))
		}
		expectEntry(t, entry("/c", api.KindPage, id, 1, id))
	}
	for _, kind := range []int{api.KindFile, api.KindPort, api.KindSemaphore, api.KindDevice, api.KindPage} {
		expectNoEntry(t, entry("/c", kind, 0))
	}
	for n := 1; n <= api.MaxPages; n++ {
		for i := range n {
			ids := slices.Repeat([]uint64{7}, n)
			ids[i] = 0
			expectNoEntry(t, entry("/c", api.KindPage, ids...))
		}
	}
}

func TestP9_1PathsOfEntries(t *testing.T) {
	for _, path := range []string{"/a", "/_/0/-", "/" + strings.Repeat("a", 127), strings.Repeat("/a", 64)} {
		expectEntry(t, entry(path, api.KindFile, 7))
	}
	for _, path := range []string{"", "/", "a", "/a/", "//a", "/A", "/a b", "/a\x00", "/" + strings.Repeat("a", 128), strings.Repeat("/a", 65)} {
		expectNoEntry(t, entry(path, api.KindFile, 7))
		expectNoEntry(t, entry(path, api.KindPage, 7, 8))
	}
}

func TestP9_1AtMostMaxEntries(t *testing.T) {
	expectValid(t, filled(254))
	expectValid(t, filled(255))
	expectValid(t, filled(256))
	for _, n := range []int{257, 258, 512, 999} {
		expectInvalid(t, filled(n))
	}
	expectInvalid(t, space(make([]api.Name, 1<<16)...))
}

// TestP9_1NumberOfEntriesIsNotThatOfTheMemory has entries beyond the length of the list.
func TestP9_1NumberOfEntriesIsNotThatOfTheMemory(t *testing.T) {
	o := filled(600)
	o.Names = o.Names[:256]
	expectValid(t, o)
	expectNotFound(t, o, numbered(256))
	o.Names = o.Names[:3]
	expectValid(t, o)
	expectNotFound(t, o, numbered(3))
	expectAdd(t, o, entry("/z", api.KindPort, 9), append(filled(3).Names, entry("/z", api.KindPort, 9))...)
}

func TestP9_1Order(t *testing.T) {
	paths := []string{"/-", "/-/a", "/0", "/9", "/_", "/a", "/a-", "/a-b", "/a/a", "/a0", "/a_", "/aa", "/b", "/z"}
	for _, a := range paths {
		for _, b := range paths {
			o := space(entry(a, api.KindFile, 5), entry(b, api.KindFile, 6))
			if a < b {
				expectValid(t, o)
			} else {
				expectInvalid(t, o)
			}
		}
	}
}

// TestP9_1OrderOfAll exchanges, and doubles, each entry with the one behind it.
func TestP9_1OrderOfAll(t *testing.T) {
	for _, n := range []int{2, 3, 4, 9, 255, 256} {
		for i := range n - 1 {
			o := filled(n)
			o.Names[i], o.Names[i+1] = o.Names[i+1], o.Names[i]
			expectInvalid(t, o)
			o = filled(n)
			o.Names[i].Path = o.Names[i+1].Path
			expectInvalid(t, o)
		}
	}
}

// TestP9_1EveryEntryIsLookedAt has a wrong entry at each place.
func TestP9_1EveryEntryIsLookedAt(t *testing.T) {
	for _, n := range []int{1, 2, 3, 4, 9, 255, 256} {
		for i := range n {
			for _, change := range []func(n *api.Name){
				func(n *api.Name) { n.Path += "." },
				func(n *api.Name) { n.Kind = api.KindPipe },
				func(n *api.Name) { n.IDs = nil },
				func(n *api.Name) { n.IDs = []uint64{0} },
				func(n *api.Name) { n.IDs = []uint64{5, 6} },
			} {
				o := filled(n)
				change(&o.Names[i])
				expectInvalid(t, o)
			}
		}
	}
}

func TestP9_1InvalidIdentifier(t *testing.T) {
	for _, id := range []uint64{0, 2, 3, 255, 257, 1<<32 + 1, 1 << 63, 1<<63 + 1, math.MaxUint64} {
		for _, o := range []api.Object{New(), some()} {
			o.ID = id
			expectInvalid(t, o)
		}
	}
}

func TestP9_1InvalidKind(t *testing.T) {
	for _, o := range []api.Object{New(), some()} {
		for kind := -20; kind <= 20; kind++ {
			if kind != api.KindNames {
				o.Kind = kind
				expectInvalid(t, o)
			}
		}
		for _, kind := range []int{math.MinInt64, -1 << 32, api.KindNames - 256, api.KindNames + 256, api.KindNames + 1<<32, math.MaxInt64} {
			o.Kind = kind
			expectInvalid(t, o)
		}
	}
}

func TestP9_1InvalidOtherFields(t *testing.T) {
	for _, o := range []api.Object{New(), some()} {
		for _, x := range changedElsewhere(o, ".ID", ".Kind", ".Names") {
			expectInvalid(t, x)
		}
	}
}

func TestP9_1InvalidOtherObjects(t *testing.T) {
	expectInvalid(t, api.Object{})
	expectInvalid(t, api.Object{ID: api.Root})
	expectInvalid(t, api.Object{Kind: api.KindNames})
	expectInvalid(t, api.Object{ID: api.Root, Kind: api.KindFile})
	expectInvalid(t, api.Object{Names: some().Names})
}

func TestP9_1EmptyListsAreZero(t *testing.T) {
	expectValid(t, withEmptyLists(some()))
	expectValid(t, withEmptyLists(New()))
	expectInvalid(t, withEmptyLists(api.Object{ID: api.Root}))
	expectAdd(t, withEmptyLists(New()), entry("/c", api.KindFile, 7), entry("/c", api.KindFile, 7))
	expectRename(t, withEmptyLists(filled(1)), "/f000", "/c", entry("/c", api.KindFile, 1))
}

func TestP9_2Find(t *testing.T) {
	for _, n := range some().Names {
		expectFound(t, some(), n)
	}
	for _, n := range []int{1, 2, 3, 255, 256} {
		for i := range n {
			expectFound(t, filled(n), entry(numbered(i), api.KindFile, uint64(i)+1))
		}
	}
}

func TestP9_2FindNothing(t *testing.T) {
	for _, path := range []string{"", "/", "/a", "/b/", "/ba", "/b/aa", "/b/", "/bbb", "/c", "/d/d", "/e", "b", "/B", "/b\x00", "/d ", "//b", "\xff", "/" + strings.Repeat("d", 200)} {
		expectNotFound(t, New(), path)
		expectNotFound(t, some(), path)
		expectNotFound(t, filled(256), path)
	}
	for i := range 256 {
		expectNotFound(t, filled(i), numbered(i))
	}
}

func TestP9_3Add(t *testing.T) {
	b, d := entry("/b", api.KindFile, 5), entry("/d", api.KindPage, 6, 7)
	for _, kind := range []int{api.KindFile, api.KindPort, api.KindSemaphore, api.KindDevice, api.KindPage} {
		a, c, e := entry("/a", kind, 8), entry("/c", kind, 9), entry("/e", kind, 5)
		expectAdd(t, New(), a, a)
		expectAdd(t, space(b, d), a, a, b, d)
		expectAdd(t, space(b, d), c, b, c, d)
		expectAdd(t, space(b, d), e, b, d, e)
	}
	pages := entry("/c", api.KindPage, 1, 2, 3, 4, 5, 6, 7, 8, 9, 10, 11, 12, 13, 14, 15, 16)
	expectAdd(t, space(b, d), pages, b, pages, d)
	expectAdd(t, space(pages), d, pages, d)
}

// TestP9_3AddEverywhere takes each entry out of name spaces of some sizes, and adds it.
func TestP9_3AddEverywhere(t *testing.T) {
	for _, n := range []int{1, 2, 3, 4, 255, 256} {
		for i := range n {
			o := filled(n)
			o.Names = slices.Delete(o.Names, i, i+1)
			expectAdd(t, o, filled(n).Names[i], filled(n).Names...)
		}
	}
}

func TestP9_3AddWhatExists(t *testing.T) {
	for _, o := range []api.Object{some(), filled(1), filled(255), filled(256)} {
		for _, n := range o.Names {
			expectAddFails(t, o, n, api.ErrExists)
			expectAddFails(t, o, entry(n.Path, api.KindPort, 99), api.ErrExists)
			expectAddFails(t, o, entry(n.Path, api.KindPipe, 99), api.ErrInvalid)
		}
	}
}

func TestP9_3AddToAFullOne(t *testing.T) {
	full := filled(256)
	for _, path := range []string{"/a", "/f0", "/f0000", "/f100-", "/f255a", "/z"} {
		expectAddFails(t, full, entry(path, api.KindFile, 5), api.ErrFull)
		x, e := Add(filled(255), entry(path, api.KindFile, 5))
		if e != api.OK || len(x.Names) != api.MaxEntries || !Valid(x) {
			t.Errorf("Add of the last entry %s = %.200v, %d", path, x, e)
		}
	}
	expectAddFails(t, full, entry("/z.", api.KindFile, 5), api.ErrInvalid)
	expectAddFails(t, full, entry("/z", api.KindFile, 0), api.ErrInvalid)
}

func TestP9_3Rename(t *testing.T) {
	b, d, f := entry("/b", api.KindFile, 5), entry("/d", api.KindPage, 6, 7), entry("/f", api.KindDevice, 8)
	o := space(b, d, f)
	as := func(path string, n api.Name) api.Name {
		n.Path = path
		return n
	}
	expectRename(t, o, "/b", "/a", as("/a", b), d, f)
	expectRename(t, o, "/b", "/c", as("/c", b), d, f)
	expectRename(t, o, "/b", "/e", d, as("/e", b), f)
	expectRename(t, o, "/b", "/g", d, f, as("/g", b))
	expectRename(t, o, "/d", "/a", as("/a", d), b, f)
	expectRename(t, o, "/d", "/c", b, as("/c", d), f)
	expectRename(t, o, "/d", "/e", b, as("/e", d), f)
	expectRename(t, o, "/d", "/g", b, f, as("/g", d))
	expectRename(t, o, "/f", "/a", as("/a", f), b, d)
	expectRename(t, o, "/f", "/c", b, as("/c", f), d)
	expectRename(t, o, "/f", "/e", b, d, as("/e", f))
	expectRename(t, o, "/f", "/g", b, d, as("/g", f))
	expectRename(t, space(d), "/d", "/a", as("/a", d))
	expectRename(t, space(d), "/d", "/d/d", as("/d/d", d))
}

// TestP9_3RenameEverywhere gives each entry of full name spaces the place of each other one.
func TestP9_3RenameEverywhere(t *testing.T) {
	for _, n := range []int{1, 2, 3, 9, 256} {
		for from := 0; from < n; from += 1 + n/50 {
			for to := 0; to < n; to += 1 + n/50 {
				o := filled(n)
				moved := entry(numbered(to)+"-", api.KindFile, uint64(from)+1)
				want := slices.Insert(filled(n).Names, to+1, moved)
				if from > to {
					want = slices.Delete(want, from+1, from+2)
				} else {
					want = slices.Delete(want, from, from+1)
				}
				expectRename(t, o, numbered(from), moved.Path, want...)
			}
		}
	}
}

func TestP9_3RenameWhatIsMissing(t *testing.T) {
	for _, from := range []string{"", "/", "/a", "/b/", "/ba", "/c", "/e", "b", "/B", "what"} {
		for _, to := range []string{"/z", "/b", "/d", "", "/", "what", from, "/" + strings.Repeat("a", 128)} {
			expectRenameFails(t, some(), from, to, api.ErrMissing)
			expectRenameFails(t, New(), from, to, api.ErrMissing)
			expectRenameFails(t, filled(256), from, to, api.ErrMissing)
		}
	}
}

func TestP9_3RenameToNoPath(t *testing.T) {
	for _, n := range some().Names {
		for _, to := range []string{"", "/", "a", "/a/", "//a", "/A", "/a b", "/a\x00", n.Path + "/", n.Path[1:], "/" + strings.Repeat("a", 128)} {
			expectRenameFails(t, some(), n.Path, to, api.ErrInvalid)
		}
		x, e := Rename(some(), n.Path, "/"+strings.Repeat("a", 127))
		if e != api.OK || !Valid(x) {
			t.Errorf("Rename to the longest path = %v, %d", x, e)
		}
	}
}

func TestP9_3RenameToWhatExists(t *testing.T) {
	for _, o := range []api.Object{some(), filled(1), filled(20)} {
		for _, from := range o.Names {
			for _, to := range o.Names {
				expectRenameFails(t, o, from.Path, to.Path, api.ErrExists)
			}
		}
	}
	expectRenameFails(t, filled(256), "/f000", "/f255", api.ErrExists)
	expectRenameFails(t, filled(256), "/f255", "/f255", api.ErrExists)
}

func TestP9_3RenameInAFullOne(t *testing.T) {
	want := append(filled(256).Names[1:], entry("/z", api.KindFile, 1))
	expectRename(t, filled(256), "/f000", "/z", want...)
}

// TestConsequenceAfterAdd adds entries in many orders, and looks for all of them each time.
func TestConsequenceAfterAdd(t *testing.T) {
	for step := 1; step < 60; step += 2 {
		o := New()
		held := map[string]api.Name{}
		for i := range 64 {
			n := entry(fmt.Sprintf("/n%d", i*step%64), api.KindPage, uint64(i)+1, 7)
			expectNotFound(t, o, n.Path)
			x, e := Add(o, n)
			if e != api.OK || !Valid(x) {
				t.Fatalf("Add(%v, %v) = %v, %d", o, n, x, e)
			}
			held[n.Path] = n
			if len(x.Names) != len(held) {
				t.Fatalf("there are %d entries, want %d", len(x.Names), len(held))
			}
			o = x
		}
		for _, n := range held {
			expectFound(t, o, n)
		}
	}
}

func TestConsequenceOthersAsBefore(t *testing.T) {
	for _, path := range []string{"/a", "/b--", "/ba", "/c", "/e", "/z/z"} {
		added, e := Add(some(), entry(path, api.KindPort, 77))
		if e != api.OK {
			t.Fatal(path, e)
		}
		expectFound(t, added, entry(path, api.KindPort, 77))
		for _, n := range some().Names {
			expectFound(t, added, n)
		}
	}
}

func TestConsequenceAfterRename(t *testing.T) {
	for _, n := range some().Names {
		for _, to := range []string{"/a", "/b--", "/ba", "/c", "/e", "/z/z"} {
			x, e := Rename(some(), n.Path, to)
			if e != api.OK || !Valid(x) || len(x.Names) != len(some().Names) {
				t.Fatalf("Rename(%q, %q) = %v, %d", n.Path, to, x, e)
			}
			expectNotFound(t, x, n.Path)
			expectFound(t, x, api.Name{Path: to, Kind: n.Kind, IDs: n.IDs})
			for _, other := range some().Names {
				if other.Path != n.Path {
					expectFound(t, x, other)
				}
			}
			expectRename(t, x, to, n.Path, some().Names...)
		}
	}
}

// TestP1NothingIsChanged calls every function with entries, and identifiers, that have others before and behind them.
func TestP1NothingIsChanged(t *testing.T) {
	memory := filled(600)
	ids := make([]uint64, 0, 600)
	for i := range memory.Names {
		ids = append(ids, uint64(i)+1)
		memory.Names[i].IDs = ids[i : i+1]
	}
	before := clone(memory)
	for _, n := range []int{0, 1, 2, 3, 100, 255, 256, 257} {
		o := withEmptyLists(space())
		o.Names = memory.Names[10 : 10+n]
		for _, path := range []string{"", "/a", "/f010", "/f011", "/f012", "/f109", "/f266", "/z"} {
			added := entry(path, api.KindPage, ids[:3]...)
			Path(path)
			Valid(o)
			Find(o, path)
			Add(o, added)
			Add(o, entry(path, api.KindFile, ids[:1]...))
			for _, to := range []string{"", "/a", "/f010", "/f011a", "/f300", "/zz"} {
				Rename(o, path, to)
			}
			if !reflect.DeepEqual(added, entry(path, api.KindPage, 1, 2, 3)) {
				t.Fatalf("the entry is %v", added)
			}
		}
		if want := withEmptyLists(space(before.Names[10 : 10+n]...)); n > 0 && !reflect.DeepEqual(o, want) {
			t.Fatalf("the name space is %.500v, want %.500v", o, want)
		}
	}
	if !reflect.DeepEqual(memory, before) {
		t.Fatal("the memory of the entries is changed")
	}
	for i, id := range ids {
		if id != uint64(i)+1 {
			t.Fatal("the memory of the identifiers is changed")
		}
	}
}

// overwrite changes everything that a list of entries holds, also beyond the lengths.
func overwrite(list []api.Name) {
	for i, n := range list {
		clear(n.IDs[:cap(n.IDs)])
		list[i] = api.Name{}
	}
	clear(list[:cap(list)])
}

// TestP1ResultsShareNoMemory overwrites each result, and expects its arguments and other results as they were. All lists have room beyond their lengths.
func TestP1ResultsShareNoMemory(t *testing.T) {
	for _, n := range []int{1, 2, 40, 255} {
		o, want := filled(400), filled(n)
		for i := range o.Names {
			o.Names[i].IDs = append(make([]uint64, 0, 4), o.Names[i].IDs...)
		}
		memory := clone(o)
		o.Names = o.Names[:n]
		more := entry("/a", api.KindPage, append(make([]uint64, 0, 40), 5, 6, 7)...)
		for range 2 {
			added, e := Add(o, more)
			expectSpace(t, added, e, slices.Insert(filled(n).Names, 0, entry("/a", api.KindPage, 5, 6, 7))...)
			again, _ := Add(o, more)
			renamed, e := Rename(o, "/f000", "/f")
			wantRenamed := filled(n).Names
			wantRenamed[0].Path = "/f"
			expectSpace(t, renamed, e, wantRenamed...)
			found, _ := Find(o, "/f000")
			overwrite(again.Names)
			expectSpace(t, added, api.OK, slices.Insert(filled(n).Names, 0, entry("/a", api.KindPage, 5, 6, 7))...)
			overwrite(added.Names)
			expectSpace(t, renamed, api.OK, wantRenamed...)
			overwrite(renamed.Names)
			clear(found.IDs[:cap(found.IDs)])
			expectSpace(t, o, api.OK, want.Names...)
			if !slices.Equal(more.IDs, []uint64{5, 6, 7}) {
				t.Fatalf("a result shares memory with the entry: %v", more)
			}
		}
		o.Names = o.Names[:400]
		if !reflect.DeepEqual(o, memory) {
			t.Fatal("a result shares memory with its argument")
		}
	}
}

// TestP1EntriesOfAResultAreApart has entries that share their identifiers, which those of a result do not.
func TestP1EntriesOfAResultAreApart(t *testing.T) {
	ids := []uint64{5, 6, 7}
	o := space(entry("/b", api.KindPage, ids...), entry("/c", api.KindPage, ids...), entry("/d", api.KindFile, ids[:1]...))
	for _, call := range []func() (api.Object, api.Errno){
		func() (api.Object, api.Errno) { return Add(o, entry("/a", api.KindPage, ids...)) },
		func() (api.Object, api.Errno) { return Rename(o, "/b", "/e") },
	} {
		want, _ := call()
		want = clone(want)
		for i := range want.Names {
			x, e := call()
			clear(x.Names[i].IDs[:cap(x.Names[i].IDs)])
			x.Names[i].IDs = slices.Clone(want.Names[i].IDs)
			expectSpace(t, x, e, want.Names...)
		}
	}
}

func TestP1NewOnesAreApart(t *testing.T) {
	a, b := New(), New()
	a.Names = append(a.Names[:cap(a.Names)], entry("/a", api.KindFile, 5))
	expectSpace(t, b, api.OK)
	expectSpace(t, New(), api.OK)
}

// TestP1WhatLiesBeyondIsNotLookedAt gives the same entries with other memory behind them.
func TestP1WhatLiesBeyondIsNotLookedAt(t *testing.T) {
	for _, beyond := range []api.Name{{}, entry("/a", api.KindFile, 5), entry("/b", api.KindFile, 0), entry("/z", api.KindPage, 5, 6)} {
		o := withEmptyLists(New())
		o.Names = []api.Name{entry("/b", api.KindFile, append([]uint64{5}, beyond.IDs...)[:1]...), beyond, beyond}[:1]
		o.Words = []int64{1}[:0]
		expectValid(t, o)
		expectNotFound(t, o, "/z")
		expectNotFound(t, o, "/a")
		expectAdd(t, o, entry("/a", api.KindFile, 7), entry("/a", api.KindFile, 7), entry("/b", api.KindFile, 5))
		expectAdd(t, o, entry("/z", api.KindFile, 7), entry("/b", api.KindFile, 5), entry("/z", api.KindFile, 7))
		expectRename(t, o, "/b", "/z", entry("/z", api.KindFile, 5))
		expectRenameFails(t, o, "/z", "/y", api.ErrMissing)
	}
}

func TestP1SameArgumentsSameResults(t *testing.T) {
	o := some()
	for range 3 {
		expectPath(t, "/a", true)
		expectValid(t, o)
		expectSpace(t, New(), api.OK)
		expectFound(t, o, entry("/b/b", api.KindDevice, 6))
		expectNotFound(t, o, "/c")
		expectAdd(t, o, entry("/a", api.KindFile, 5), slices.Insert(some().Names, 0, entry("/a", api.KindFile, 5))...)
		expectAddFails(t, o, entry("/b", api.KindFile, 5), api.ErrExists)
		expectRename(t, o, "/d", "/a", slices.Insert(some().Names[:5], 0, entry("/a", api.KindFile, math.MaxUint64))...)
		expectRenameFails(t, o, "/d", "/d", api.ErrExists)
	}
}
