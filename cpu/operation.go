package cpu

import (
	"slices"

	"clusterkernel/api"
)

// operation carries out the instruction x on the processor c.
type operation func(c api.CPU, x api.Instr) (api.CPU, api.Action)

func operations() map[int]operation {
	return map[int]operation{
		api.OpNop:   naming(0, func(c api.CPU, x api.Instr) (api.CPU, api.Action) { return done(goneOn(c)) }),
		api.OpSet:   naming(1, func(c api.CPU, x api.Instr) (api.CPU, api.Action) { return done(Loaded(c, x.A, int64(x.B))) }),
		api.OpMove:  naming(2, func(c api.CPU, x api.Instr) (api.CPU, api.Action) { return done(Loaded(c, x.A, c.Regs[x.B])) }),
		api.OpAdd:   computing(func(b, c int64) int64 { return b + c }),
		api.OpSub:   computing(func(b, c int64) int64 { return b - c }),
		api.OpMul:   computing(func(b, c int64) int64 { return b * c }),
		api.OpLess:  computing(func(b, c int64) int64 { return truth(b < c) }),
		api.OpEqual: computing(func(b, c int64) int64 { return truth(b == c) }),
		api.OpJump:  naming(0, func(c api.CPU, x api.Instr) (api.CPU, api.Action) { return done(goneTo(c, x.A)) }),
		api.OpIf:    naming(1, branch),
		api.OpLoad:  naming(2, load),
		api.OpStore: naming(2, store),
		api.OpCall:  naming(0, call),
	}
}

// naming makes an operation of one that needs its first operands, so many, to be registers.
func naming(registers int, carryOut operation) operation {
	return func(c api.CPU, x api.Instr) (api.CPU, api.Action) {
		operands := []int{x.A, x.B, x.C}
		if slices.ContainsFunc(operands[:registers], isNoRegister) {
			return fault(c)
		}
		return carryOut(c, x)
	}
}

// computing makes the operation whose register A becomes what compute makes of the registers B and C.
func computing(compute func(b, c int64) int64) operation {
	return naming(3, func(c api.CPU, x api.Instr) (api.CPU, api.Action) {
		return done(Loaded(c, x.A, compute(c.Regs[x.B], c.Regs[x.C])))
	})
}

func branch(c api.CPU, x api.Instr) (api.CPU, api.Action) {
	if c.Regs[x.A] == 0 {
		return done(goneOn(c))
	}
	return done(goneTo(c, x.B))
}

func load(c api.CPU, x api.Instr) (api.CPU, api.Action) {
	return c, api.Action{Kind: api.ActLoad, Address: address(c, x), Reg: x.A}
}

func store(c api.CPU, x api.Instr) (api.CPU, api.Action) {
	return c, api.Action{Kind: api.ActStore, Address: address(c, x), Value: c.Regs[x.A]}
}

func call(c api.CPU, x api.Instr) (api.CPU, api.Action) {
	return c, api.Action{Kind: api.ActCall, Number: x.A, Args: [3]int64{c.Regs[1], c.Regs[2], c.Regs[3]}}
}

func fault(c api.CPU) (api.CPU, api.Action) {
	return c, api.Action{Kind: api.ActFault}
}

func done(c api.CPU) (api.CPU, api.Action) {
	return c, api.Action{Kind: api.ActNone}
}

// goneTo takes any target: if there is no instruction, the next one faults.
func goneTo(c api.CPU, target int) api.CPU {
	c.PC = target
	return c
}

func address(c api.CPU, x api.Instr) int64 {
	return c.Regs[x.B] + int64(x.C)
}

func isNoRegister(n int) bool {
	return !isRegister(n)
}

func truth(b bool) int64 {
	if b {
		return 1
	}
	return 0
}
