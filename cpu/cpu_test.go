package cpu

import (
	"math"
	"math/big"
	"math/rand"
	"slices"
	"testing"

	"clusterkernel/api"
)

// at returns a processor at the instruction pc. No register is 0, so that one that is cleared is noticed.
func at(pc int) api.CPU {
	return api.CPU{PC: pc, Regs: [api.Regs]int64{-9, 3, -4, 5_000_000_000, 3, 1, math.MinInt64, math.MaxInt64}}
}

// alone is a program with the instruction x alone.
func alone(x api.Instr) api.Program {
	return api.Program{Code: []api.Instr{x}}
}

func expectNext(t *testing.T, c api.CPU, p api.Program, want api.CPU, wantAction api.Action) {
	t.Helper()
	if got, a := Next(c, p); got != want || a != wantAction {
		t.Errorf("Next(%v, %.200v) = %v, %v, want %v, %v", c, p, got, a, want, wantAction)
	}
}

// expectRegister expects that x changes one register, and goes on.
func expectRegister(t *testing.T, c api.CPU, x api.Instr, reg int, value int64) {
	t.Helper()
	want := c
	want.Regs[reg] = value
	want.PC++
	expectNext(t, c, alone(x), want, api.Action{})
}

// expectTarget expects that x changes PC alone.
func expectTarget(t *testing.T, c api.CPU, x api.Instr, pc int) {
	t.Helper()
	want := c
	want.PC = pc
	expectNext(t, c, alone(x), want, api.Action{})
}

// expectAction expects that x changes nothing.
func expectAction(t *testing.T, c api.CPU, x api.Instr, a api.Action) {
	t.Helper()
	expectNext(t, c, alone(x), c, a)
}

func faulty() api.Action {
	return api.Action{Kind: api.ActFault}
}

// numbers are registers and operands at the ends of their ranges and between.
func numbers() []int64 {
	return []int64{
		math.MinInt64, math.MinInt64 + 1, -1<<53 - 1, -1 << 53, -1 << 32, -1<<31 - 1, -1 << 31, -257, -2, -1, 0, 1, 2, 7, 8, 255, 256,
		1<<31 - 1, 1 << 31, 1<<32 - 1, 1 << 32, 3_037_000_500, 1 << 53, 1<<53 + 1, 1 << 62, math.MaxInt64 - 1, math.MaxInt64,
	}
}

func noRegisters() []int {
	return []int{math.MinInt64, math.MinInt64 + 1, -1 << 32, -8, -2, -1, api.Regs, api.Regs + 1, 9, 16, 255, 256, 1 << 32, 1<<32 + 1, math.MaxInt64}
}

func TestP5_1Example(t *testing.T) {
	c := api.CPU{Regs: [api.Regs]int64{1: 3, 2: 4}}
	expectNext(t, c, alone(api.Instr{Op: api.OpAdd, A: 0, B: 1, C: 2}), api.CPU{PC: 1, Regs: [api.Regs]int64{7, 3, 4}}, api.Action{})
}

func TestP5_1Nop(t *testing.T) {
	expectTarget(t, at(0), api.Instr{}, 1)
	for _, n := range noRegisters() {
		expectTarget(t, at(0), api.Instr{Op: api.OpNop, A: n, B: n, C: n}, 1)
	}
}

func TestP5_1Set(t *testing.T) {
	for reg := range api.Regs {
		for _, n := range numbers() {
			expectRegister(t, at(0), api.Instr{Op: api.OpSet, A: reg, B: int(n)}, reg, n)
			expectRegister(t, at(0), api.Instr{Op: api.OpSet, A: reg, B: 6, C: int(n)}, reg, 6)
		}
	}
}

func TestP5_1Move(t *testing.T) {
	for to := range api.Regs {
		for from := range api.Regs {
			expectRegister(t, at(0), api.Instr{Op: api.OpMove, A: to, B: from}, to, at(0).Regs[from])
			for _, n := range noRegisters() {
				expectRegister(t, at(0), api.Instr{Op: api.OpMove, A: to, B: from, C: n}, to, at(0).Regs[from])
			}
		}
	}
}

// wrapped is n modulo 2^64, as a signed number.
func wrapped(n *big.Int) int64 {
	low := new(big.Int).And(n, new(big.Int).SetUint64(math.MaxUint64))
	return int64(low.Uint64())
}

// computed is what the register A becomes in an operation of three registers, computed without wraparound.
func computed(op int, b, c int64) int64 {
	left, right := big.NewInt(b), big.NewInt(c)
	truth := map[bool]int64{true: 1}
	switch op {
	case api.OpAdd:
		return wrapped(left.Add(left, right))
	case api.OpSub:
		return wrapped(left.Sub(left, right))
	case api.OpMul:
		return wrapped(left.Mul(left, right))
	case api.OpLess:
		return truth[left.Cmp(right) < 0]
	}
	return truth[left.Cmp(right) == 0]
}

func threeRegisters() []int {
	return []int{api.OpAdd, api.OpSub, api.OpMul, api.OpLess, api.OpEqual}
}

func TestP5_1Arithmetic(t *testing.T) {
	for _, op := range threeRegisters() {
		for _, left := range numbers() {
			for _, right := range numbers() {
				c := at(0)
				c.Regs[2], c.Regs[5] = left, right
				expectRegister(t, c, api.Instr{Op: op, A: 7, B: 2, C: 5}, 7, computed(op, left, right))
			}
		}
	}
}

func TestP5_1ArithmeticInEveryRegister(t *testing.T) {
	for _, op := range threeRegisters() {
		for a := range api.Regs {
			for b := range api.Regs {
				for c := range api.Regs {
					expectRegister(t, at(0), api.Instr{Op: op, A: a, B: b, C: c}, a, computed(op, at(0).Regs[b], at(0).Regs[c]))
				}
			}
		}
	}
}

func TestP5_1ArithmeticWraps(t *testing.T) {
	for _, x := range []struct {
		op                int
		left, right, want int64
	}{
		{api.OpAdd, math.MaxInt64, 1, math.MinInt64},
		{api.OpAdd, math.MinInt64, math.MinInt64, 0},
		{api.OpAdd, math.MaxInt64, math.MaxInt64, -2},
		{api.OpSub, math.MinInt64, 1, math.MaxInt64},
		{api.OpSub, 0, math.MinInt64, math.MinInt64},
		{api.OpMul, math.MaxInt64, math.MaxInt64, 1},
		{api.OpMul, math.MinInt64, -1, math.MinInt64},
		{api.OpMul, 1 << 32, 1 << 32, 0},
		{api.OpMul, 1<<32 + 1, 1<<32 + 1, 1<<33 + 1},
		{api.OpLess, math.MinInt64, math.MaxInt64, 1},
		{api.OpLess, math.MaxInt64, math.MinInt64, 0},
		{api.OpLess, -1, 0, 1},
		{api.OpLess, 2, 2, 0},
		{api.OpEqual, math.MinInt64, math.MinInt64, 1},
		{api.OpEqual, 0, 1 << 32, 0},
	} {
		c := api.CPU{Regs: [api.Regs]int64{1: x.left, 2: x.right}}
		expectRegister(t, c, api.Instr{Op: x.op, A: 0, B: 1, C: 2}, 0, x.want)
	}
}

func TestP5_1Jump(t *testing.T) {
	for _, n := range numbers() {
		expectTarget(t, at(0), api.Instr{Op: api.OpJump, A: int(n)}, int(n))
		expectTarget(t, at(0), api.Instr{Op: api.OpJump, A: 5, B: int(n), C: int(n)}, 5)
	}
}

func TestP5_1If(t *testing.T) {
	for reg := range api.Regs {
		for _, value := range numbers() {
			for _, n := range numbers() {
				c := at(0)
				c.Regs[reg] = value
				want := int(n)
				if value == 0 {
					want = 1
				}
				expectTarget(t, c, api.Instr{Op: api.OpIf, A: reg, B: int(n), C: int(value)}, want)
			}
		}
	}
}

func TestP5_1Load(t *testing.T) {
	for a := range api.Regs {
		for b := range api.Regs {
			for _, n := range numbers() {
				address := computed(api.OpAdd, at(0).Regs[b], n)
				expectAction(t, at(0), api.Instr{Op: api.OpLoad, A: a, B: b, C: int(n)}, api.Action{Kind: api.ActLoad, Address: address, Reg: a})
			}
		}
	}
}

func TestP5_1Store(t *testing.T) {
	for a := range api.Regs {
		for b := range api.Regs {
			for _, n := range numbers() {
				address := computed(api.OpAdd, at(0).Regs[b], n)
				expectAction(t, at(0), api.Instr{Op: api.OpStore, A: a, B: b, C: int(n)}, api.Action{Kind: api.ActStore, Address: address, Value: at(0).Regs[a]})
			}
		}
	}
}

func TestP5_1AddressesWrap(t *testing.T) {
	c := api.CPU{Regs: [api.Regs]int64{1: math.MaxInt64, 2: math.MinInt64}}
	expectAction(t, c, api.Instr{Op: api.OpLoad, A: 3, B: 1, C: 1}, api.Action{Kind: api.ActLoad, Address: math.MinInt64, Reg: 3})
	expectAction(t, c, api.Instr{Op: api.OpStore, A: 1, B: 2, C: -1}, api.Action{Kind: api.ActStore, Address: math.MaxInt64, Value: math.MaxInt64})
}

func TestP5_1Call(t *testing.T) {
	for _, n := range numbers() {
		want := api.Action{Kind: api.ActCall, Number: int(n), Args: [3]int64{3, -4, 5_000_000_000}}
		expectAction(t, at(0), api.Instr{Op: api.OpCall, A: int(n)}, want)
		expectAction(t, at(0), api.Instr{Op: api.OpCall, A: int(n), B: 9, C: -1}, want)
	}
}

// TestP5_1EveryPlace carries out the same instruction at every place of a program, among others that differ.
func TestP5_1EveryPlace(t *testing.T) {
	for _, length := range []int{1, 2, 3, api.MaxCode, api.MaxCode + 1, 5000} {
		for pc := range length {
			code := slices.Repeat([]api.Instr{{Op: api.OpSet, A: 1, B: -77}}, length)
			code[pc] = api.Instr{Op: api.OpSet, A: 2, B: pc}
			want := at(pc + 1)
			want.Regs[2] = int64(pc)
			expectNext(t, at(pc), api.Program{Code: code}, want, api.Action{})
			if length > api.MaxCode && pc%500 != 0 && pc != length-1 {
				continue
			}
			code[pc] = api.Instr{Op: api.OpIf, A: 1, B: -1}
			expectNext(t, at(pc), api.Program{Code: code}, at(-1), api.Action{})
			code[pc] = api.Instr{Op: api.OpCall, A: 2}
			expectNext(t, at(pc), api.Program{Code: code}, at(pc), api.Action{Kind: api.ActCall, Number: 2, Args: [3]int64{3, -4, 5_000_000_000}})
		}
	}
}

// TestP5_1OtherPartsOfPrograms: strings and pages of a program do not matter here, even if they are not right.
func TestP5_1OtherPartsOfPrograms(t *testing.T) {
	for _, pages := range []int{math.MinInt64, -1, 0, 17, math.MaxInt64} {
		p := api.Program{Code: []api.Instr{{Op: api.OpSet, A: 1, B: 5}}, Strings: make([]string, 100), Pages: pages}
		want := at(1)
		want.Regs[1] = 5
		expectNext(t, at(0), p, want, api.Action{})
		expectNext(t, at(1), p, at(1), faulty())
	}
}

func TestP5_2WrongPC(t *testing.T) {
	for _, length := range []int{0, 1, 2, api.MaxCode} {
		p := api.Program{Code: make([]api.Instr, length)}
		for _, pc := range []int{math.MinInt64, -1 << 32, -length - 1, -length, -2, -1, length, length + 1, 1 << 32, math.MaxInt64 - 1, math.MaxInt64} {
			if pc < 0 || pc >= length {
				expectNext(t, at(pc), p, at(pc), faulty())
			}
		}
	}
	expectNext(t, api.CPU{}, api.Program{}, api.CPU{}, faulty())
	expectNext(t, api.CPU{}, api.Program{Code: []api.Instr{}}, api.CPU{}, faulty())
}

func TestP5_2WrongOperation(t *testing.T) {
	for _, op := range []int{math.MinInt64, -1 << 32, -13, -12, -2, -1, 13, 14, 16, 28, 255, 256, 268, 1 << 32, 1<<32 + 1, 1<<32 + 12, math.MaxInt64} {
		expectAction(t, at(0), api.Instr{Op: op}, faulty())
		expectAction(t, at(0), api.Instr{Op: op, A: 1, B: 2, C: 3}, faulty())
		expectAction(t, at(0), api.Instr{Op: op, A: -1, B: 8, C: 99}, faulty())
	}
}

// registersNamed says which of A, B and C are registers in each operation.
func registersNamed() map[int][3]bool {
	return map[int][3]bool{
		api.OpNop: {}, api.OpSet: {true}, api.OpMove: {true, true},
		api.OpAdd: {true, true, true}, api.OpSub: {true, true, true}, api.OpMul: {true, true, true}, api.OpLess: {true, true, true}, api.OpEqual: {true, true, true},
		api.OpJump: {}, api.OpIf: {true}, api.OpLoad: {true, true}, api.OpStore: {true, true}, api.OpCall: {},
	}
}

// TestP5_2WrongRegisters puts what is no register into each operand: a fault follows where a register is named there, and none elsewhere.
func TestP5_2WrongRegisters(t *testing.T) {
	for op, named := range registersNamed() {
		for place := range 3 {
			for _, n := range noRegisters() {
				x := api.Instr{Op: op, A: 1, B: 2, C: 3}
				*[]*int{&x.A, &x.B, &x.C}[place] = n
				if named[place] {
					expectAction(t, at(0), x, faulty())
				} else if _, a := Next(at(0), alone(x)); a.Kind == api.ActFault {
					t.Errorf("%v faults", x)
				}
			}
		}
	}
}

func TestP5_2AllRegistersWrong(t *testing.T) {
	for op, named := range registersNamed() {
		for _, n := range noRegisters() {
			for _, m := range noRegisters() {
				_, a := Next(at(0), alone(api.Instr{Op: op, A: n, B: m, C: n}))
				if (a == faulty()) != named[0] {
					t.Errorf("operation %d with the operands %d, %d, %d: %v", op, n, m, n, a)
				}
			}
		}
	}
}

// TestP5_2IfWithoutBranch names a wrong target, but does not go there.
func TestP5_2IfWithoutBranch(t *testing.T) {
	expectTarget(t, api.CPU{}, api.Instr{Op: api.OpIf, A: 0, B: -5}, 1)
	expectTarget(t, api.CPU{}, api.Instr{Op: api.OpIf, A: 7, B: math.MinInt64}, 1)
	expectAction(t, at(0), api.Instr{Op: api.OpIf, A: 8, B: 0}, faulty())
	expectAction(t, at(0), api.Instr{Op: api.OpIf, A: -1, B: 0}, faulty())
}

// TestP5_2JumpAnywhere: the instruction after such a jump faults.
func TestP5_2JumpAnywhere(t *testing.T) {
	for _, target := range []int{math.MinInt64, -1, 2, 3, 1 << 32, math.MaxInt64} {
		p := api.Program{Code: []api.Instr{{Op: api.OpJump, A: target}, {Op: api.OpIf, A: 1, B: target}}}
		for pc := range 2 {
			expectNext(t, at(pc), p, at(target), api.Action{})
			expectNext(t, at(target), p, at(target), faulty())
		}
	}
}

func expectCPU(t *testing.T, name string, got, want api.CPU) {
	t.Helper()
	if got != want {
		t.Errorf("%s: %v, want %v", name, got, want)
	}
}

// counters are values of PC, each with the one that is greater by 1.
func counters() map[int]int {
	return map[int]int{0: 1, 1: 2, 255: 256, -1: 0, -2: -1, 1<<32 - 1: 1 << 32, math.MinInt64: math.MinInt64 + 1, math.MaxInt64 - 1: math.MaxInt64, math.MaxInt64: math.MinInt64}
}

func TestP5_3Loaded(t *testing.T) {
	for pc, next := range counters() {
		for _, value := range numbers() {
			for reg := range api.Regs {
				want := at(next)
				want.Regs[reg] = value
				expectCPU(t, "Loaded", Loaded(at(pc), reg, value), want)
			}
			for _, reg := range noRegisters() {
				expectCPU(t, "Loaded into no register", Loaded(at(pc), reg, value), at(next))
			}
		}
	}
}

func TestP5_3Stored(t *testing.T) {
	for pc, next := range counters() {
		expectCPU(t, "Stored", Stored(at(pc)), at(next))
		expectCPU(t, "Stored", Stored(api.CPU{PC: pc}), api.CPU{PC: next})
	}
}

func TestP5_3Returned(t *testing.T) {
	for pc, next := range counters() {
		for _, r0 := range numbers() {
			want := at(next)
			want.Regs[0] = r0
			expectCPU(t, "Returned", Returned(at(pc), r0), want)
			for _, r1 := range numbers() {
				want.Regs[1] = r1
				expectCPU(t, "Returned2", Returned2(at(pc), r0, r1), want)
			}
		}
	}
}

// TestP5_3AfterAnInstruction puts Next and the answers to its actions together.
func TestP5_3AfterAnInstruction(t *testing.T) {
	p := api.Program{Code: []api.Instr{{Op: api.OpLoad, A: 2, B: 0, C: 5}, {Op: api.OpStore, A: 2, B: 0, C: 6}, {Op: api.OpCall, A: 2}, {Op: api.OpEqual, A: 3, B: 0, C: 2}}}
	c, a := Next(api.CPU{}, p)
	c, a = Next(Loaded(c, a.Reg, 40), p)
	if a != (api.Action{Kind: api.ActStore, Address: 6, Value: 40}) {
		t.Error(c, a)
	}
	c, a = Next(Stored(c), p)
	if a != (api.Action{Kind: api.ActCall, Number: 2, Args: [3]int64{0, 40, 0}}) {
		t.Error(c, a)
	}
	expectNext(t, Returned(c, 40), p, api.CPU{PC: 4, Regs: [api.Regs]int64{40, 0, 40, 1}}, api.Action{})
	expectNext(t, Returned2(c, 41, 1), p, api.CPU{PC: 4, Regs: [api.Regs]int64{41, 1, 40, 0}}, api.Action{})
}

// anyInstruction is one whose parts are often, but not always, right.
func anyInstruction(r *rand.Rand) api.Instr {
	operand := func() int {
		switch r.Intn(8) {
		case 0:
			return noRegisters()[r.Intn(len(noRegisters()))]
		case 1:
			return int(r.Uint64())
		}
		return r.Intn(api.Regs)
	}
	return api.Instr{Op: r.Intn(16) - 1, A: operand(), B: operand(), C: operand()}
}

func anyCPU(r *rand.Rand, length int) api.CPU {
	c := api.CPU{PC: r.Intn(length+2) - 1}
	for i := range c.Regs {
		c.Regs[i] = numbers()[r.Intn(len(numbers()))]
	}
	return c
}

func registersChanged(a, b api.CPU) int {
	changed := 0
	for i := range a.Regs {
		if a.Regs[i] != b.Regs[i] {
			changed++
		}
	}
	return changed
}

func TestConsequenceChanges(t *testing.T) {
	r := rand.New(rand.NewSource(5))
	kinds := map[int]int{}
	for range 200_000 {
		p := api.Program{Code: []api.Instr{anyInstruction(r), anyInstruction(r), anyInstruction(r)}}
		c := anyCPU(r, 3)
		got, a := Next(c, p)
		kinds[a.Kind]++
		if registersChanged(c, got) > 1 {
			t.Fatalf("Next(%v, %v) changes more than one register: %v", c, p, got)
		}
		if a.Kind != api.ActNone && got != c {
			t.Fatalf("Next(%v, %v) changes the processor together with %v: %v", c, p, a, got)
		}
		if again, b := Next(c, p); again != got || b != a {
			t.Fatalf("Next(%v, %v) = %v, %v, and then %v, %v", c, p, got, a, again, b)
		}
	}
	for kind := api.ActNone; kind <= api.ActFault; kind++ {
		if kinds[kind] < 1000 {
			t.Errorf("only %d actions of the kind %d", kinds[kind], kind)
		}
	}
}

// TestP1NoArgumentIsChanged: neither the program, nor what lies beyond the lengths of its lists, is changed or looked at.
func TestP1NoArgumentIsChanged(t *testing.T) {
	for op := -1; op <= 13; op++ {
		for _, b := range []int{2, 8} {
			full := []api.Instr{{Op: op, A: 1, B: b, C: 3}, {Op: api.OpSet, A: 1, B: 77}, {Op: api.OpCall, A: 1}}
			beyond := []string{"a", "b", "c"}
			kept, keptBeyond := slices.Clone(full), slices.Clone(beyond)
			p := api.Program{Code: full[:1], Strings: beyond[:1], Pages: 3}
			wantCPU, wantAction := Next(at(0), alone(full[0]))
			expectNext(t, at(0), p, wantCPU, wantAction)
			expectNext(t, at(1), p, at(1), faulty())
			expectNext(t, at(2), p, at(2), faulty())
			if !slices.Equal(full, kept) || !slices.Equal(beyond, keptBeyond) || len(p.Code) != 1 || len(p.Strings) != 1 {
				t.Errorf("Next changes its program: %v, %v", full, beyond)
			}
		}
	}
}

// TestP1AnyArguments: whatever the arguments are, the functions end, and what they say fits together.
func TestP1AnyArguments(t *testing.T) {
	operands := []int{math.MinInt64, -1, 0, 1, 7, 8, 1 << 32, math.MaxInt64}
	for op := -2; op <= 14; op++ {
		for _, a := range operands {
			for _, b := range operands {
				for _, c := range operands {
					checkAction(t, api.Instr{Op: op, A: a, B: b, C: c})
				}
			}
		}
	}
}

// checkAction checks the kind of the action of x against the definition, and that only the fields of this kind have values.
func checkAction(t *testing.T, x api.Instr) {
	t.Helper()
	named, exists := registersNamed()[x.Op]
	faults := !exists
	for i, n := range []int{x.A, x.B, x.C} {
		faults = faults || named[i] && (n < 0 || n > 7)
	}
	want := map[int]int{api.OpLoad: api.ActLoad, api.OpStore: api.ActStore, api.OpCall: api.ActCall}[x.Op]
	if faults {
		want = api.ActFault
	}
	_, a := Next(at(0), alone(x))
	only := map[int]api.Action{
		api.ActLoad:  {Kind: a.Kind, Address: a.Address, Reg: a.Reg},
		api.ActStore: {Kind: a.Kind, Address: a.Address, Value: a.Value},
		api.ActCall:  {Kind: a.Kind, Number: a.Number, Args: a.Args},
		api.ActFault: {Kind: a.Kind},
		api.ActNone:  {},
	}[want]
	if a.Kind != want || a != only {
		t.Errorf("%v: %v, want an action of the kind %d", x, a, want)
	}
}
