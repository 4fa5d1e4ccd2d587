package code

import (
	"strings"

	"clusterkernel/api"
	"clusterkernel/words"
)

const (
	pagesWord  = "pages"
	stringWord = "string"
	comment    = "#"
	lineFeed   = "\n"
)

// Format returns the text of p.
func Format(p api.Program) (string, api.Errno) {
	if _, e := Check(p); e != api.OK {
		return "", e
	}
	var text strings.Builder
	writeLine(&text, pagesWord, words.Format(int64(p.Pages)))
	for _, s := range p.Strings {
		writeLine(&text, stringWord, s)
	}
	for _, x := range p.Code {
		writeLine(&text, instructionWords(x)...)
	}
	return text.String(), api.OK
}

// writeLine takes no error from Join: no line of a right program has too many words or bytes.
func writeLine(text *strings.Builder, l ...string) {
	line, _ := words.Join(l)
	text.WriteString(line)
	text.WriteString(lineFeed)
}

func instructionWords(x api.Instr) []string {
	o, v := operations[x.Op], valuesOf(x)
	l := []string{o.name}
	for i := range len(o.operands) {
		l = append(l, operandWord(o.operands[i], v[i]))
	}
	return l
}

func operandWord(letter byte, value int) string {
	if letter == register {
		return string(register) + words.Format(int64(value))
	}
	return words.Format(int64(value))
}
