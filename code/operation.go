package code

import "clusterkernel/api"

// maxNumber is the greatest number that a program can set a register to, and the least one without its sign.
const maxNumber = 1 << 53

// Letters of operands.
const (
	register = 'r'
	target   = 't' // an instruction to go on at
	number   = 'n'
)

// operation is the name of an operation with the letters of its operands.
type operation struct {
	name, operands string
	least, most    int // what its number may be, if it has one
}

// operations are all operations, each at the index that is its Op.
var operations = [...]operation{
	api.OpNop:   {name: "nop"},
	api.OpSet:   {name: "set", operands: "rn", least: -maxNumber, most: maxNumber},
	api.OpMove:  {name: "move", operands: "rr"},
	api.OpAdd:   {name: "add", operands: "rrr"},
	api.OpSub:   {name: "sub", operands: "rrr"},
	api.OpMul:   {name: "mul", operands: "rrr"},
	api.OpLess:  {name: "less", operands: "rrr"},
	api.OpEqual: {name: "equal", operands: "rrr"},
	api.OpJump:  {name: "jump", operands: "t"},
	api.OpIf:    {name: "if", operands: "rt"},
	api.OpLoad:  {name: "load", operands: "rrn", least: 0, most: api.MaxPages * api.PageWords},
	api.OpStore: {name: "store", operands: "rrn", least: 0, most: api.MaxPages * api.PageWords},
	api.OpCall:  {name: "call", operands: "n", least: api.CallExit, most: api.CallRename},
}

// findOperation returns the Op of the operation with a name, and whether there is one.
func findOperation(name string) (int, bool) {
	for op, o := range operations {
		if o.name == name {
			return op, true
		}
	}
	return 0, false
}

// bounds returns the least and the greatest value of the operand i of an operation, in a program with so many instructions.
func (o operation) bounds(i, instructions int) (int, int) {
	if i >= len(o.operands) {
		return 0, 0
	}
	switch o.operands[i] {
	case register:
		return 0, api.Regs - 1
	case target:
		return 0, instructions
	default:
		return o.least, o.most
	}
}

// values are the operands of an instruction: A, B and C.
type values [3]int

func valuesOf(x api.Instr) values {
	return values{x.A, x.B, x.C}
}

func makeInstr(op int, v values) api.Instr {
	return api.Instr{Op: op, A: v[0], B: v[1], C: v[2]}
}

// isRight reports whether x is right in a program with so many instructions.
func isRight(x api.Instr, instructions int) bool {
	if x.Op < 0 || x.Op >= len(operations) {
		return false
	}
	for i, value := range valuesOf(x) {
		least, most := operations[x.Op].bounds(i, instructions)
		if value < least || value > most {
			return false
		}
	}
	return true
}
