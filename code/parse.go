package code

import (
	"strings"

	"clusterkernel/api"
	"clusterkernel/words"
)

// part is how far the text of a program has been read.
type part int

const (
	atStart   part = iota
	inStrings      // after the line with pages, or a string
	inCode
)

// reader makes a program of the lines of its text.
type reader struct {
	program api.Program
	part    part
}

// Parse returns the program with the text s, or the number of a line with an error.
func Parse(s string) (api.Program, int, api.Errno) {
	if len(s) > api.MaxText {
		return api.Program{}, 0, api.ErrLimit
	}
	var r reader
	for i, line := range words.Lines(s) {
		if e := r.readLine(line); e != api.OK {
			return api.Program{}, i + 1, e
		}
	}
	if _, e := Check(r.program); e != api.OK {
		return api.Program{}, 0, e
	}
	return r.program, 0, api.OK
}

func (r *reader) readLine(line string) api.Errno {
	if line == "" || strings.HasPrefix(line, comment) {
		return api.OK
	}
	l, e := words.Split(line)
	if e != api.OK {
		return e
	}
	if !r.read(l[0], l[1:]) {
		return api.ErrSyntax
	}
	return api.OK
}

// read takes a line that begins with the word first, and reports whether it is one of a program.
func (r *reader) read(first string, rest []string) bool {
	switch first {
	case pagesWord:
		return r.readPages(rest)
	case stringWord:
		return r.readString(rest)
	default:
		return r.readInstruction(first, rest)
	}
}

func (r *reader) readPages(rest []string) bool {
	if r.part != atStart || len(rest) != 1 {
		return false
	}
	pages, ok := readOperand(number, rest[0])
	r.part, r.program.Pages = inStrings, pages
	return ok
}

func (r *reader) readString(rest []string) bool {
	if r.part == inCode || len(rest) != 1 {
		return false
	}
	r.part, r.program.Strings = inStrings, append(r.program.Strings, rest[0])
	return true
}

func (r *reader) readInstruction(name string, rest []string) bool {
	op, ok := findOperation(name)
	if !ok || len(rest) != len(operations[op].operands) {
		return false
	}
	var v values
	for i, word := range rest {
		if v[i], ok = readOperand(operations[op].operands[i], word); !ok {
			return false
		}
	}
	r.part, r.program.Code = inCode, append(r.program.Code, makeInstr(op, v))
	return true
}

// readOperand returns the value of a word that stands for an operand with a letter. Whether a program may have it is not asked here.
func readOperand(letter byte, word string) (int, bool) {
	if letter == register {
		return readRegister(word)
	}
	n, e := words.Number(word)
	return int(n), e == api.OK
}

func readRegister(word string) (int, bool) {
	if len(word) != 2 || word[0] != register || word[1] < '0' || word[1] > '9' {
		return 0, false
	}
	return int(word[1] - '0'), true
}
