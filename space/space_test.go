package space

import (
	"math"
	"slices"
	"testing"

	"clusterkernel/api"
)

func own(id uint64) api.PageRef {
	return api.PageRef{ID: id}
}

func shared(id uint64) api.PageRef {
	return api.PageRef{ID: id, Shared: true}
}

func identifiers() []uint64 {
	return []uint64{1, 2, 7, 1<<32 - 1, 1 << 32, 1<<32 + 1, 1<<57 + 5, 1<<63 - 1, 1 << 63, math.MaxUint64}
}

// ascending are n identifiers, each of which differs from the one before.
func ascending(first uint64, n int) []uint64 {
	var ids []uint64
	for i := range uint64(n) {
		ids = append(ids, first+i)
	}
	return ids
}

// owned is n private pages.
func owned(first uint64, n int) []api.PageRef {
	var l []api.PageRef
	for _, id := range ascending(first, n) {
		l = append(l, own(id))
	}
	return l
}

// mixed is n pages, private and shared ones in turn, of which the shared ones are all the same page.
func mixed(n int) []api.PageRef {
	l := owned(101, n)
	for i := range l {
		if i%2 == 1 {
			l[i] = shared(50)
		}
	}
	return l
}

// isValid is the definition of a valid address space, taken word by word.
func isValid(l []api.PageRef) bool {
	private, common := map[uint64]int{}, map[uint64]int{}
	for _, p := range l {
		if p.Shared {
			common[p.ID]++
		} else {
			private[p.ID]++
		}
	}
	for id, times := range private {
		if times > 1 || common[id] > 0 {
			return false
		}
	}
	return len(l) <= 16 && private[0] == 0 && common[0] == 0
}

// spaces calls f with every list of at most n pages with the identifiers 0 to 3.
func spaces(n int, f func(l []api.PageRef)) {
	addPages(nil, n, f)
}

func addPages(l []api.PageRef, n int, f func(l []api.PageRef)) {
	f(slices.Clone(l))
	if n == 0 {
		return
	}
	for id := range uint64(4) {
		addPages(append(slices.Clone(l), own(id)), n-1, f)
		addPages(append(slices.Clone(l), shared(id)), n-1, f)
	}
}

// lists calls f with every list of at most n of the identifiers 0 to 4.
func lists(n int, f func(ids []uint64)) {
	addIDs(nil, n, f)
}

func addIDs(ids []uint64, n int, f func(ids []uint64)) {
	f(slices.Clone(ids))
	if n == 0 {
		return
	}
	for id := range uint64(5) {
		addIDs(append(slices.Clone(ids), id), n-1, f)
	}
}

// addresses are those of all spaces, those next to them, and those that are as far away as can be.
func addresses() []int64 {
	l := []int64{
		math.MinInt64, math.MinInt64 + 1, -1 << 36, -1 << 35, -1<<32 + 1, -1 << 32, -1 << 31, 1 << 31, 1<<31 + 1, 1<<32 - 1, 1 << 32, 1<<32 + 1,
		1 << 35, 1<<35 + 1, 1 << 36, 1<<36 + 17, 1 << 62, math.MaxInt64 - 15, math.MaxInt64 - 1, math.MaxInt64,
	}
	for address := int64(-300); address <= 300; address++ {
		l = append(l, address)
	}
	return l
}

// expectValid and the functions like it end the test with its first failure: some tests look at so many spaces that all failures could not be read.
func expectValid(t *testing.T, l []api.PageRef) {
	t.Helper()
	if !Valid(l) {
		t.Fatalf("Valid(%v) = false", l)
	}
}

// expectInvalid expects ErrInvalid also where other errors apply too.
func expectInvalid(t *testing.T, l []api.PageRef) {
	t.Helper()
	if Valid(l) {
		t.Fatalf("Valid(%.200v) = true", l)
	}
	for _, address := range addresses() {
		expectFindFails(t, l, address, api.ErrInvalid)
	}
	if ids := Private(l); len(ids) != 0 {
		t.Fatalf("Private(%.200v) = %v", l, ids)
	}
	for n := range 20 {
		for _, ids := range [][]uint64{ascending(60, n), make([]uint64, n)} {
			expectAttachFails(t, l, ids, api.ErrInvalid)
			expectReplaceFails(t, l, ids, api.ErrInvalid)
		}
	}
}

func expectFind(t *testing.T, l []api.PageRef, address int64, id uint64, word int) {
	t.Helper()
	if gotID, gotWord, e := Find(l, address); gotID != id || gotWord != word || e != api.OK {
		t.Fatalf("Find(%v, %d) = %d, %d, %d, want %d, %d", l, address, gotID, gotWord, e, id, word)
	}
}

func expectFindFails(t *testing.T, l []api.PageRef, address int64, want api.Errno) {
	t.Helper()
	if id, word, e := Find(l, address); id != 0 || word != 0 || e != want {
		t.Fatalf("Find(%.200v, %d) = %d, %d, %d, want the error %d", l, address, id, word, e, want)
	}
}

func expectAttach(t *testing.T, l []api.PageRef, ids []uint64, want []api.PageRef, address int64) {
	t.Helper()
	if got, at, e := Attach(l, ids); !slices.Equal(got, want) || at != address || e != api.OK {
		t.Fatalf("Attach(%v, %v) = %v, %d, %d, want %v, %d", l, ids, got, at, e, want, address)
	}
}

func expectAttachFails(t *testing.T, l []api.PageRef, ids []uint64, want api.Errno) {
	t.Helper()
	if got, at, e := Attach(l, ids); got != nil || at != 0 || e != want {
		t.Fatalf("Attach(%.200v, %.200v) = %.200v, %d, %d, want the error %d", l, ids, got, at, e, want)
	}
}

func expectPrivate(t *testing.T, l []api.PageRef, want ...uint64) {
	t.Helper()
	if got := Private(l); !slices.Equal(got, want) {
		t.Fatalf("Private(%v) = %v, want %v", l, got, want)
	}
}

func expectReplace(t *testing.T, l []api.PageRef, ids []uint64, want ...api.PageRef) {
	t.Helper()
	if got, e := Replace(l, ids); !slices.Equal(got, want) || e != api.OK {
		t.Fatalf("Replace(%v, %v) = %v, %d, want %v", l, ids, got, e, want)
	}
}

func expectReplaceFails(t *testing.T, l []api.PageRef, ids []uint64, want api.Errno) {
	t.Helper()
	if got, e := Replace(l, ids); got != nil || e != want {
		t.Fatalf("Replace(%.200v, %.200v) = %.200v, %d, want the error %d", l, ids, got, e, want)
	}
}

func TestP7_1Valid(t *testing.T) {
	expectValid(t, nil)
	expectValid(t, []api.PageRef{})
	for _, id := range identifiers() {
		expectValid(t, []api.PageRef{own(id)})
		expectValid(t, []api.PageRef{shared(id)})
	}
	var owns, shares []api.PageRef
	for _, id := range identifiers() {
		owns, shares = append(owns, own(id)), append(shares, shared(id))
	}
	expectValid(t, owns)
	expectValid(t, shares)
}

func TestP7_1SharedPagesSeveralTimes(t *testing.T) {
	for n := range 17 {
		expectValid(t, slices.Repeat([]api.PageRef{shared(6)}, n))
		expectValid(t, mixed(n))
	}
}

func TestP7_1AtMostMaxPages(t *testing.T) {
	for n := range 17 {
		expectValid(t, owned(1, n))
		expectValid(t, owned(1<<63, n))
	}
	for _, n := range []int{17, 18, 31, 32, 256, 1 << 16} {
		expectInvalid(t, owned(1, n))
		expectInvalid(t, slices.Repeat([]api.PageRef{shared(6)}, n))
	}
}

// TestP7_1LengthIsNotThatOfTheMemory has room, and pages, beyond the length of the list.
func TestP7_1LengthIsNotThatOfTheMemory(t *testing.T) {
	expectValid(t, owned(1, 40)[:16])
	expectValid(t, []api.PageRef{own(5), own(5), own(0)}[:1])
	expectValid(t, []api.PageRef{own(0), own(5), shared(5)}[1:2])
}

func TestP7_1InvalidIdentifier(t *testing.T) {
	for n := 1; n <= 16; n++ {
		for i := range n {
			l := mixed(n)
			l[i].ID = 0
			expectInvalid(t, l)
			l = slices.Repeat([]api.PageRef{shared(6)}, n)
			l[i].ID = 0
			expectInvalid(t, l)
		}
	}
	expectInvalid(t, slices.Repeat([]api.PageRef{shared(0)}, 2))
}

// TestP7_1InvalidRepetition has the same page at each two places, and nothing else that is wrong.
func TestP7_1InvalidRepetition(t *testing.T) {
	for a := range 16 {
		for b := range a {
			for _, pair := range [][2]api.PageRef{{own(60), own(60)}, {own(60), shared(60)}, {shared(60), own(60)}} {
				l := mixed(16)
				l[a], l[b] = pair[0], pair[1]
				expectInvalid(t, l)
			}
			l := mixed(16)
			l[a], l[b] = shared(60), shared(60)
			expectValid(t, l)
		}
	}
}

func TestP7_1EveryBitOfAnIdentifierCounts(t *testing.T) {
	for bit := range 64 {
		other := uint64(1)<<bit ^ 1<<40
		if other != 0 {
			expectValid(t, []api.PageRef{own(1 << 40), own(other)})
			expectValid(t, []api.PageRef{own(1 << 40), shared(other)})
			expectInvalid(t, []api.PageRef{own(other), own(1 << 40), shared(other)})
		}
	}
}

func TestP7_1AllSmallSpaces(t *testing.T) {
	spaces(4, func(l []api.PageRef) {
		if got := Valid(l); got != isValid(l) {
			t.Fatalf("Valid(%v) = %t", l, got)
		}
	})
}

func TestP7_2Examples(t *testing.T) {
	l := []api.PageRef{own(5), own(6)}
	expectFind(t, l, 17, 6, 1)
	expectFindFails(t, l, 32, api.ErrFault)
}

func TestP7_2Find(t *testing.T) {
	for n := range 17 {
		for _, l := range [][]api.PageRef{owned(1<<63, n), mixed(n), slices.Repeat([]api.PageRef{shared(6)}, n)} {
			address := int64(0)
			for _, p := range l {
				for word := range 16 {
					expectFind(t, l, address, p.ID, word)
					address++
				}
			}
			expectFindFails(t, l, address, api.ErrFault)
		}
	}
}

func TestP7_2Fault(t *testing.T) {
	for n := range 17 {
		for _, address := range addresses() {
			if address < 0 || address >= 16*int64(n) {
				expectFindFails(t, mixed(n), address, api.ErrFault)
			}
		}
	}
	expectFindFails(t, nil, 0, api.ErrFault)
}

// TestP7_2NoPagesBeyondTheLength has pages in the memory behind the list.
func TestP7_2NoPagesBeyondTheLength(t *testing.T) {
	l := owned(1, 16)[:3]
	expectFind(t, l, 47, 3, 15)
	expectFindFails(t, l, 48, api.ErrFault)
}

func TestP7_2InvalidComesBeforeFault(t *testing.T) {
	for _, address := range []int64{math.MinInt64, -1, 0, 15, 16, 256, math.MaxInt64} {
		expectFindFails(t, []api.PageRef{own(0)}, address, api.ErrInvalid)
		expectFindFails(t, owned(1, 17), address, api.ErrInvalid)
	}
}

func TestP7_3Attach(t *testing.T) {
	l := []api.PageRef{own(5), shared(6)}
	expectAttach(t, l, []uint64{7}, []api.PageRef{own(5), shared(6), shared(7)}, 32)
	expectAttach(t, l, []uint64{9, 8, 7}, []api.PageRef{own(5), shared(6), shared(9), shared(8), shared(7)}, 32)
	expectAttach(t, nil, []uint64{7}, []api.PageRef{shared(7)}, 0)
	expectAttach(t, []api.PageRef{}, []uint64{7, 8}, []api.PageRef{shared(7), shared(8)}, 0)
	for _, id := range identifiers() {
		expectAttach(t, []api.PageRef{own(1000)}, []uint64{id}, []api.PageRef{own(1000), shared(id)}, 16)
	}
}

func TestP7_3PagesThatAreSharedAlready(t *testing.T) {
	l := []api.PageRef{own(5), shared(6)}
	expectAttach(t, l, []uint64{6}, []api.PageRef{own(5), shared(6), shared(6)}, 32)
	expectAttach(t, l, []uint64{7, 6, 7}, []api.PageRef{own(5), shared(6), shared(7), shared(6), shared(7)}, 32)
}

// TestP7_3EveryNumberOfPages goes beyond MaxPages.
func TestP7_3EveryNumberOfPages(t *testing.T) {
	for n := range 17 {
		l := mixed(n)
		expectAttachFails(t, l, nil, api.ErrRange)
		expectAttachFails(t, l, []uint64{}, api.ErrRange)
		for more := 1; more <= 20; more++ {
			ids := ascending(200, more)
			if n+more > 16 {
				expectAttachFails(t, l, ids, api.ErrLimit)
				continue
			}
			want := slices.Clone(l)
			for _, id := range ids {
				want = append(want, shared(id))
			}
			expectAttach(t, l, ids, want, 16*int64(n))
		}
		expectAttachFails(t, l, ascending(200, 1<<16), api.ErrLimit)
	}
}

func TestP7_3InvalidResult(t *testing.T) {
	l := []api.PageRef{own(5), shared(6), own(7)}
	for _, ids := range [][]uint64{{0}, {5}, {7}, {6, 5}, {7, 6}, {9, 0}, {0, 9}, {9, 8, 7}, make([]uint64, 13)} {
		expectAttachFails(t, l, ids, api.ErrInvalid)
	}
	expectAttachFails(t, nil, []uint64{0}, api.ErrInvalid)
}

func TestP7_3LimitComesBeforeInvalidResult(t *testing.T) {
	l := []api.PageRef{own(5), shared(6)}
	expectAttachFails(t, l, slices.Repeat([]uint64{5}, 14), api.ErrInvalid)
	expectAttachFails(t, l, slices.Repeat([]uint64{5}, 15), api.ErrLimit)
	expectAttachFails(t, l, make([]uint64, 15), api.ErrLimit)
	expectAttachFails(t, owned(1, 16), []uint64{0}, api.ErrLimit)
}

func TestP7_3AllSmallSpaces(t *testing.T) {
	spaces(3, func(l []api.PageRef) {
		lists(3, func(ids []uint64) {
			want := slices.Clone(l)
			for _, id := range ids {
				want = append(want, shared(id))
			}
			switch {
			case isValid(l) && len(ids) == 0:
				expectAttachFails(t, l, ids, api.ErrRange)
			case !isValid(l), !isValid(want):
				expectAttachFails(t, l, ids, api.ErrInvalid)
			default:
				expectAttach(t, l, ids, want, 16*int64(len(l)))
			}
		})
	})
}

func TestP7_4Private(t *testing.T) {
	expectPrivate(t, nil)
	expectPrivate(t, []api.PageRef{shared(6), shared(6)})
	expectPrivate(t, []api.PageRef{own(5)}, 5)
	expectPrivate(t, []api.PageRef{own(9), shared(6), own(7), own(8), shared(6)}, 9, 7, 8)
	expectPrivate(t, []api.PageRef{shared(6), own(math.MaxUint64), own(1 << 63)}, math.MaxUint64, 1<<63)
	for n := range 17 {
		expectPrivate(t, owned(1<<32, n), ascending(1<<32, n)...)
	}
}

func TestP7_4PrivateOfAnInvalidSpace(t *testing.T) {
	expectPrivate(t, []api.PageRef{own(5), own(0)})
	expectPrivate(t, []api.PageRef{own(5), own(5)})
	expectPrivate(t, []api.PageRef{own(5), shared(5)})
	expectPrivate(t, owned(1, 17))
}

func TestP7_4Replace(t *testing.T) {
	l := []api.PageRef{own(5), shared(6), own(7), shared(6)}
	expectReplace(t, l, []uint64{8, 9}, own(8), shared(6), own(9), shared(6))
	expectReplace(t, l, []uint64{7, 5}, own(7), shared(6), own(5), shared(6))
	expectReplace(t, l, []uint64{5, 7}, l...)
	expectReplace(t, []api.PageRef{shared(6), shared(8)}, nil, shared(6), shared(8))
	expectReplace(t, []api.PageRef{shared(6)}, []uint64{}, shared(6))
	expectReplace(t, nil, nil)
	expectReplace(t, []api.PageRef{}, []uint64{})
	for _, id := range identifiers() {
		expectReplace(t, []api.PageRef{shared(1000), own(5)}, []uint64{id}, shared(1000), own(id))
	}
}

// TestP7_4ReplaceOfEveryNumberOfPages has too few, enough and too many identifiers.
func TestP7_4ReplaceOfEveryNumberOfPages(t *testing.T) {
	for n := range 17 {
		for given := range 20 {
			ids := ascending(1<<33, given)
			if given == n {
				expectReplace(t, owned(1, n), ids, owned(1<<33, n)...)
			} else {
				expectReplaceFails(t, owned(1, n), ids, api.ErrRange)
			}
		}
	}
	expectReplaceFails(t, owned(1, 16), ascending(100, 1<<16), api.ErrRange)
}

// TestP7_4ReplaceCountsPrivatePagesOnly has other numbers of private pages than of pages.
func TestP7_4ReplaceCountsPrivatePagesOnly(t *testing.T) {
	for given := range 20 {
		if given != 8 {
			expectReplaceFails(t, mixed(16), ascending(200, given), api.ErrRange)
		}
	}
	expectReplaceFails(t, []api.PageRef{shared(6)}, []uint64{7}, api.ErrRange)
	expectReplaceFails(t, nil, []uint64{7}, api.ErrRange)
}

func TestP7_4ReplaceWithAnInvalidResult(t *testing.T) {
	l := []api.PageRef{own(5), shared(6), own(7)}
	for _, ids := range [][]uint64{{8, 8}, {5, 5}, {6, 8}, {8, 6}, {0, 8}, {8, 0}, {0, 0}} {
		expectReplaceFails(t, l, ids, api.ErrInvalid)
	}
}

func TestP7_4RangeComesBeforeInvalidResult(t *testing.T) {
	l := []api.PageRef{own(5), shared(6), own(7)}
	for _, ids := range [][]uint64{{0}, {6}, {0, 0, 0}, {8, 8, 8}, {8, 9, 0}, {8, 9, 6}} {
		expectReplaceFails(t, l, ids, api.ErrRange)
	}
}

func TestP7_4AllSmallSpaces(t *testing.T) {
	spaces(3, func(l []api.PageRef) {
		lists(4, func(ids []uint64) {
			var private []uint64
			want := slices.Clone(l)
			for i, p := range l {
				if !p.Shared && len(private) < len(ids) {
					want[i].ID = ids[len(private)]
				}
				if !p.Shared {
					private = append(private, p.ID)
				}
			}
			switch {
			case !isValid(l):
				expectPrivate(t, l)
				expectReplaceFails(t, l, ids, api.ErrInvalid)
			case len(ids) != len(private):
				expectReplaceFails(t, l, ids, api.ErrRange)
			case !isValid(want):
				expectReplaceFails(t, l, ids, api.ErrInvalid)
			default:
				expectPrivate(t, l, private...)
				expectReplace(t, l, ids, want...)
				expectPrivate(t, want, ids...)
			}
		})
	})
}

func TestConsequenceAttachingChangesNoAddress(t *testing.T) {
	for n := range 16 {
		for _, l := range [][]api.PageRef{owned(1, n), mixed(n)} {
			attached, first, e := Attach(l, slices.Repeat([]uint64{50}, 16-n))
			if e != api.OK {
				t.Fatalf("Attach to %v: the error %d", l, e)
			}
			for address := range int64(256) {
				id, word, e := Find(l, address)
				if address >= first {
					id, word, e = 50, int(address-first)%16, api.OK
				}
				if e != api.OK {
					t.Fatalf("Find(%v, %d): the error %d", l, address, e)
				}
				expectFind(t, attached, address, id, word)
			}
		}
	}
}

// TestConsequenceEveryWordHasOneAddress counts the addresses of each word of each page.
func TestConsequenceEveryWordHasOneAddress(t *testing.T) {
	type word struct {
		id uint64
		n  int
	}
	for n := range 17 {
		l := mixed(n)
		places, found := map[uint64]int{}, map[word]int{}
		for _, p := range l {
			places[p.ID]++
		}
		for _, address := range addresses() {
			if id, n, e := Find(l, address); e == api.OK {
				found[word{id, n}]++
			}
		}
		if len(found) != 16*len(places) {
			t.Fatalf("%v has %d words, want %d", l, len(found), 16*len(places))
		}
		for w, times := range found {
			if times != places[w.id] || w.n < 0 || w.n > 15 {
				t.Fatalf("the word %v of %v has %d addresses, want %d", w, l, times, places[w.id])
			}
		}
	}
}

// TestP1NothingIsChanged calls every function with lists that have items before and behind them.
func TestP1NothingIsChanged(t *testing.T) {
	pages, ids := mixed(30), ascending(200, 30)
	pagesBefore, idsBefore := slices.Clone(pages), slices.Clone(ids)
	for n := range 20 {
		for given := range 20 {
			l, some := pages[5:5+n], ids[5:5+given]
			Valid(l)
			Find(l, int64(given))
			Attach(l, some)
			Private(l)
			Replace(l, some)
		}
	}
	if !slices.Equal(pages, pagesBefore) {
		t.Fatalf("the pages are %v, want %v", pages, pagesBefore)
	}
	if !slices.Equal(ids, idsBefore) {
		t.Fatalf("the identifiers are %v, want %v", ids, idsBefore)
	}
}

// scratch overwrites all the memory of a result.
func scratch[T any](l []T) {
	clear(l[:cap(l)])
}

// TestP1ResultsShareNoMemory overwrites each result, and expects the arguments and other results as they were. All lists have room and items beyond their lengths.
func TestP1ResultsShareNoMemory(t *testing.T) {
	for n := range 16 {
		for _, l := range [][]api.PageRef{owned(1, 30)[:n], slices.Repeat([]api.PageRef{shared(6)}, 30)[:n], mixed(30)[:n]} {
			expectOwnResults(t, l, ascending(200, 30)[:1], ascending(300, 30)[:len(Private(l))])
		}
	}
}

func expectOwnResults(t *testing.T, l []api.PageRef, ids, private []uint64) {
	t.Helper()
	all := func() ([]api.PageRef, []uint64, []uint64) {
		return l[:cap(l)], ids[:cap(ids)], private[:cap(private)]
	}
	results := func() ([]api.PageRef, []api.PageRef, []uint64) {
		attached, _, _ := Attach(l, ids)
		replaced, _ := Replace(l, private)
		return attached, replaced, Private(l)
	}
	pages, added, given := all()
	pages, added, given = slices.Clone(pages), slices.Clone(added), slices.Clone(given)
	first, second, third := results()
	wantFirst, wantSecond, wantThird := slices.Clone(first), slices.Clone(second), slices.Clone(third)
	x, y, z := results()
	scratch(x)
	scratch(y)
	scratch(z)
	if a, b, c := all(); !slices.Equal(a, pages) || !slices.Equal(b, added) || !slices.Equal(c, given) {
		t.Fatalf("the arguments are %v, %v and %v, want %v, %v and %v", a, b, c, pages, added, given)
	}
	if !slices.Equal(first, wantFirst) || !slices.Equal(second, wantSecond) || !slices.Equal(third, wantThird) {
		t.Fatalf("the results are %v, %v and %v, want %v, %v and %v", first, second, third, wantFirst, wantSecond, wantThird)
	}
}

// TestP1WhatLiesBeyondIsNotLookedAt gives the same lists with other memory behind them.
func TestP1WhatLiesBeyondIsNotLookedAt(t *testing.T) {
	for _, beyond := range []api.PageRef{{}, own(5), shared(5), own(8), shared(9)} {
		l := append([]api.PageRef{own(5), shared(6), own(7)}, slices.Repeat([]api.PageRef{beyond}, 20)...)[:3]
		expectValid(t, l)
		expectFind(t, l, 47, 7, 15)
		expectFindFails(t, l, 48, api.ErrFault)
		ids := []uint64{8, 9, beyond.ID, beyond.ID}[:2]
		expectAttach(t, l, ids, []api.PageRef{own(5), shared(6), own(7), shared(8), shared(9)}, 48)
		expectAttachFails(t, l, ids[:0], api.ErrRange)
		expectPrivate(t, l, 5, 7)
		expectReplace(t, l, ids, own(8), shared(6), own(9))
		expectReplaceFails(t, l, ids[:1], api.ErrRange)
	}
}

func TestP1SameArgumentsSameResults(t *testing.T) {
	l := []api.PageRef{own(5), shared(6)}
	for range 3 {
		expectValid(t, l)
		expectFind(t, l, 17, 6, 1)
		expectAttach(t, l, []uint64{7}, []api.PageRef{own(5), shared(6), shared(7)}, 32)
		expectPrivate(t, l, 5)
		expectReplace(t, l, []uint64{8}, own(8), shared(6))
	}
}
