package code

import (
	"math"
	"slices"
	"strings"
	"testing"

	"clusterkernel/api"
)

// sample is a right program that has every operation.
func sample() api.Program {
	return api.Program{
		Code: []api.Instr{
			{Op: 0}, {Op: 1, A: 1, B: -5}, {Op: 2, A: 0, B: 7}, {Op: 3, A: 1, B: 2, C: 3}, {Op: 4, A: 1, B: 2, C: 3}, {Op: 5, A: 3, B: 2, C: 1},
			{Op: 6, A: 1, B: 2, C: 3}, {Op: 7, A: 7, B: 6, C: 5}, {Op: 8, A: 13}, {Op: 9, A: 4, B: 0}, {Op: 10, A: 5, B: 6, C: 256}, {Op: 11, A: 5, B: 6}, {Op: 12, A: 24},
		},
		Strings: []string{"/a", "a b", "", "\"\\\n\r\x00\xff", strings.Repeat("\n", api.MaxPath)},
		Pages:   2,
	}
}

// sampleText is the text of sample.
func sampleText() string {
	return "pages 2\n" +
		"string /a\nstring \"a b\"\nstring \"\"\nstring \"\\\"\\\\\\n\\r\x00\xff\"\nstring \"" + strings.Repeat(`\n`, api.MaxPath) + "\"\n" +
		"nop\nset r1 -5\nmove r0 r7\nadd r1 r2 r3\nsub r1 r2 r3\nmul r3 r2 r1\nless r1 r2 r3\nequal r7 r6 r5\njump 13\nif r4 0\nload r5 r6 256\nstore r5 r6 0\ncall 24\n"
}

func expectCheck(t *testing.T, p api.Program, wantAt int, want api.Errno) {
	t.Helper()
	if at, e := Check(p); at != wantAt || e != want {
		t.Errorf("Check(%.300v) = %d, %d, want %d, %d", p, at, e, wantAt, want)
	}
}

func TestP4_1CheckRightPrograms(t *testing.T) {
	expectCheck(t, api.Program{}, 0, api.OK)
	expectCheck(t, api.Program{Code: []api.Instr{}, Strings: []string{}}, 0, api.OK)
	expectCheck(t, api.Program{Code: []api.Instr{{Op: api.OpSet, A: 1, B: 5}, {Op: api.OpCall, A: 1}}}, 0, api.OK)
	expectCheck(t, sample(), 0, api.OK)
	for pages := 0; pages <= api.MaxPages; pages++ {
		expectCheck(t, api.Program{Pages: pages}, 0, api.OK)
	}
}

func TestP4_1CheckLimits(t *testing.T) {
	full := api.Program{Code: make([]api.Instr, api.MaxCode), Strings: slices.Repeat([]string{strings.Repeat("\xff", api.MaxPath)}, api.MaxStrings), Pages: api.MaxPages}
	expectCheck(t, full, 0, api.OK)
	for _, more := range []int{1, 2, 256, 1 << 16} {
		expectCheck(t, api.Program{Code: make([]api.Instr, api.MaxCode+more)}, 0, api.ErrLimit)
		expectCheck(t, api.Program{Strings: make([]string, api.MaxStrings+more)}, 0, api.ErrLimit)
		expectCheck(t, api.Program{Strings: []string{strings.Repeat("a", api.MaxPath+more)}}, 0, api.ErrLimit)
	}
	for i := range api.MaxStrings {
		l := make([]string, api.MaxStrings)
		l[i] = strings.Repeat("a", api.MaxPath+1)
		expectCheck(t, api.Program{Strings: l}, 0, api.ErrLimit)
	}
	// its bytes count, not its characters
	expectCheck(t, api.Program{Strings: []string{strings.Repeat("é", api.MaxPath/2)}}, 0, api.OK)
	expectCheck(t, api.Program{Strings: []string{strings.Repeat("é", api.MaxPath/2) + "a"}}, 0, api.ErrLimit)
}

func wrongPages() []int {
	return []int{-1, -2, -16, api.MaxPages + 1, api.MaxPages + 2, 32, 256, 1 << 32, 1<<32 + 1, math.MinInt64, math.MaxInt64}
}

func TestP4_1CheckPages(t *testing.T) {
	for _, pages := range wrongPages() {
		expectCheck(t, api.Program{Pages: pages}, 0, api.ErrRange)
		p := sample()
		p.Pages = pages
		expectCheck(t, p, 0, api.ErrRange)
	}
}

func TestP4_1CheckOrder(t *testing.T) {
	wrong := []api.Instr{{}, {Op: 13}}
	long := []string{"a", strings.Repeat("a", api.MaxPath+1)}
	expectCheck(t, api.Program{Code: wrong}, 1, api.ErrInvalid)
	expectCheck(t, api.Program{Code: wrong, Pages: -1}, 0, api.ErrRange)
	expectCheck(t, api.Program{Code: wrong, Pages: api.MaxPages + 1}, 0, api.ErrRange)
	for _, pages := range append(wrongPages(), 0, api.MaxPages) {
		expectCheck(t, api.Program{Code: wrong, Pages: pages, Strings: long}, 0, api.ErrLimit)
		expectCheck(t, api.Program{Code: wrong, Pages: pages, Strings: make([]string, api.MaxStrings+1)}, 0, api.ErrLimit)
		expectCheck(t, api.Program{Code: slices.Repeat(wrong, api.MaxCode), Pages: pages}, 0, api.ErrLimit)
	}
}

// edges are the ends of all ranges of operands of a program with so many instructions, and what lies beyond them.
func edges(instructions int) []int {
	l := []int{math.MinInt64, -1<<53 - 1, -1 << 53, -1, 0, 1, 7, 8, 23, 24, 25, 255, 256, 257, instructions, instructions + 1, 1 << 32, 1<<53 - 1, 1 << 53, 1<<53 + 1, math.MaxInt64}
	slices.Sort(l)
	return slices.Compact(l)
}

// rightly writes down the definition of the chapter, operation by operation.
func rightly(x api.Instr, instructions int) bool {
	isRegister := func(n int) bool { return n == 0 || n == 1 || n == 2 || n == 3 || n == 4 || n == 5 || n == 6 || n == 7 }
	isTarget := func(n int) bool { return n > -1 && n < instructions+1 }
	noMore := func(l ...int) bool { return !slices.ContainsFunc(l, func(n int) bool { return n != 0 }) }
	switch x.Op {
	case api.OpNop:
		return noMore(x.A, x.B, x.C)
	case api.OpSet:
		return isRegister(x.A) && x.B > -9007199254740993 && x.B < 9007199254740993 && noMore(x.C)
	case api.OpMove:
		return isRegister(x.A) && isRegister(x.B) && noMore(x.C)
	case api.OpAdd, api.OpSub, api.OpMul, api.OpLess, api.OpEqual:
		return isRegister(x.A) && isRegister(x.B) && isRegister(x.C)
	case api.OpJump:
		return isTarget(x.A) && noMore(x.B, x.C)
	case api.OpIf:
		return isRegister(x.A) && isTarget(x.B) && noMore(x.C)
	case api.OpLoad, api.OpStore:
		return isRegister(x.A) && isRegister(x.B) && x.C > -1 && x.C < 257
	case api.OpCall:
		return x.A > 0 && x.A < 25 && noMore(x.B, x.C)
	}
	return false
}

func TestP4_1CheckEveryInstruction(t *testing.T) {
	for _, instructions := range []int{1, 2, 9, api.MaxCode} {
		for _, op := range []int{math.MinInt64, -13, -1, 0, 1, 2, 3, 4, 5, 6, 7, 8, 9, 10, 11, 12, 13, 14, 1 << 32, math.MaxInt64} {
			checkOperands(t, op, instructions)
		}
	}
}

func checkOperands(t *testing.T, op, instructions int) {
	t.Helper()
	p := api.Program{Code: make([]api.Instr, instructions)}
	last := &p.Code[instructions-1]
	for _, a := range edges(instructions) {
		for _, b := range edges(instructions) {
			for _, c := range edges(instructions) {
				*last = api.Instr{Op: op, A: a, B: b, C: c}
				if rightly(*last, instructions) {
					expectCheck(t, p, 0, api.OK)
				} else {
					expectCheck(t, p, instructions-1, api.ErrInvalid)
				}
			}
		}
	}
}

func TestP4_1CheckFirstWrongInstruction(t *testing.T) {
	wrong := []api.Instr{{Op: -1}, {Op: 13}, {A: 1}, {B: -1}, {C: 1}, {Op: api.OpSet, A: 8}, {Op: api.OpCall}}
	for i, x := range wrong {
		for at := range 20 {
			p := api.Program{Code: make([]api.Instr, 20)}
			p.Code[at] = x
			expectCheck(t, p, at, api.ErrInvalid)
			for later := at + 1; later < 20; later++ {
				p.Code[later] = wrong[(i+later)%len(wrong)]
			}
			expectCheck(t, p, at, api.ErrInvalid)
		}
	}
}

func TestP4_1CheckTargets(t *testing.T) {
	for _, instructions := range []int{1, 2, 100, api.MaxCode} {
		for at := range instructions {
			p := api.Program{Code: make([]api.Instr, instructions)}
			for _, x := range []api.Instr{{Op: api.OpJump, A: instructions}, {Op: api.OpIf, B: instructions}, {Op: api.OpJump, A: at}, {Op: api.OpIf, A: 7}} {
				p.Code[at] = x
				expectCheck(t, p, 0, api.OK)
			}
			for _, x := range []api.Instr{{Op: api.OpJump, A: instructions + 1}, {Op: api.OpIf, B: instructions + 1}, {Op: api.OpJump, A: -1}, {Op: api.OpIf, B: -1}} {
				p.Code[at] = x
				expectCheck(t, p, at, api.ErrInvalid)
			}
		}
	}
}

func expectSame(t *testing.T, a, b api.Program, want bool) {
	t.Helper()
	if Same(a, b) != want || Same(b, a) != want {
		t.Errorf("Same(%v, %v) is not %v", a, b, want)
	}
}

func TestP4_4Same(t *testing.T) {
	expectSame(t, sample(), sample(), true)
	expectSame(t, api.Program{}, api.Program{}, true)
	expectSame(t, api.Program{}, api.Program{Code: []api.Instr{}, Strings: []string{}}, true)
	expectSame(t, api.Program{Code: []api.Instr{{A: 1}}}, api.Program{Code: []api.Instr{{A: 1}}, Strings: []string{}}, true)
	expectSame(t, sample(), api.Program{}, false)
}

// changes are ways to make another program of one.
func changes() []func(p *api.Program) {
	l := []func(p *api.Program){
		func(p *api.Program) { p.Pages++ },
		func(p *api.Program) { p.Pages = -p.Pages },
		func(p *api.Program) { p.Code = append(p.Code, api.Instr{}) },
		func(p *api.Program) { p.Code = p.Code[:len(p.Code)-1] },
		func(p *api.Program) { p.Code = p.Code[1:] },
		func(p *api.Program) { p.Code = nil },
		func(p *api.Program) { slices.Reverse(p.Code) },
		func(p *api.Program) { p.Strings = append(p.Strings, "") },
		func(p *api.Program) { p.Strings = p.Strings[:len(p.Strings)-1] },
		func(p *api.Program) { p.Strings = p.Strings[1:] },
		func(p *api.Program) { p.Strings = nil },
		func(p *api.Program) { slices.Reverse(p.Strings) },
	}
	for i := range sample().Code {
		l = append(l,
			func(p *api.Program) { p.Code[i].Op++ },
			func(p *api.Program) { p.Code[i].A-- },
			func(p *api.Program) { p.Code[i].B += 1 << 32 },
			func(p *api.Program) { p.Code[i].C = math.MinInt64 },
		)
	}
	for i := range sample().Strings {
		l = append(l,
			func(p *api.Program) { p.Strings[i] += "a" },
			func(p *api.Program) { p.Strings[i] = "x" },
		)
	}
	return l
}

func TestP4_4SameOfChangedPrograms(t *testing.T) {
	for _, change := range changes() {
		p := sample()
		change(&p)
		expectSame(t, sample(), p, false)
		expectSame(t, p, p, true)
	}
}

func TestP4_4SameOfWrongPrograms(t *testing.T) {
	wrong := api.Program{Code: slices.Repeat([]api.Instr{{Op: 99, A: math.MinInt64}}, 1000), Strings: slices.Repeat([]string{strings.Repeat("a", 1000)}, 100), Pages: math.MaxInt64}
	other := api.Program{Code: slices.Clone(wrong.Code), Strings: slices.Clone(wrong.Strings), Pages: math.MaxInt64}
	expectSame(t, wrong, other, true)
	other.Code[999].B = 1
	expectSame(t, wrong, other, false)
}

// withRoom returns p with lists that have room beyond their length, and a function that reports whether all of that is as it was.
func withRoom(p api.Program) (api.Program, func() bool) {
	full := api.Program{
		Code:    append(slices.Clone(p.Code), api.Instr{Op: 77, A: 1, B: 2, C: 3}, api.Instr{Op: -1}),
		Strings: append(slices.Clone(p.Strings), "beyond", strings.Repeat("b", 200)),
		Pages:   p.Pages,
	}
	kept := api.Program{Code: slices.Clone(full.Code), Strings: slices.Clone(full.Strings), Pages: p.Pages}
	unchanged := func() bool { return slices.Equal(full.Code, kept.Code) && slices.Equal(full.Strings, kept.Strings) }
	return api.Program{Code: full.Code[:len(p.Code)], Strings: full.Strings[:len(p.Strings)], Pages: p.Pages}, unchanged
}

func TestP1NoArgumentIsChanged(t *testing.T) {
	wrong := sample()
	wrong.Code[5].A = 8
	for _, p := range []api.Program{sample(), {}, wrong, {Pages: -1}} {
		room, unchanged := withRoom(p)
		_, wantE := Check(p)
		if _, e := Check(room); e != wantE || !unchanged() {
			t.Errorf("Check looks at or changes what lies beyond the lists of %v", p)
		}
		wantS, _ := Format(p)
		if s, e := Format(room); s != wantS || e != wantE || !unchanged() {
			t.Errorf("Format looks at or changes what lies beyond the lists of %v", p)
		}
		if !Same(room, p) || !Same(p, room) || !unchanged() {
			t.Errorf("Same looks at or changes what lies beyond the lists of %v", p)
		}
	}
}
