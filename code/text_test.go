package code

import (
	"fmt"
	"math"
	"regexp"
	"slices"
	"strings"
	"testing"
	"unsafe"

	"clusterkernel/api"
)

func expectFormat(t *testing.T, p api.Program, want string) {
	t.Helper()
	if s, e := Format(p); s != want || e != api.OK {
		t.Errorf("Format(%v) = %q, %d, want %q", p, s, e, want)
	}
}

func TestP4_2Format(t *testing.T) {
	expectFormat(t, sample(), sampleText())
	expectFormat(t, api.Program{}, "pages 0\n")
	expectFormat(t, api.Program{Pages: 16, Strings: []string{}, Code: []api.Instr{}}, "pages 16\n")
	expectFormat(t, api.Program{Code: []api.Instr{{Op: api.OpSet, A: 1, B: 5}, {Op: api.OpCall, A: 1}}}, "pages 0\nset r1 5\ncall 1\n")
	expectFormat(t, api.Program{Pages: 1, Strings: []string{"b", "a", "b"}}, "pages 1\nstring b\nstring a\nstring b\n")
	expectFormat(t, api.Program{Strings: []string{"#", "pages", "nop", "string a", " ", "é"}}, "pages 0\nstring #\nstring pages\nstring nop\nstring \"string a\"\nstring \" \"\nstring \"é\"\n")
}

func TestP4_2FormatOperands(t *testing.T) {
	for want, x := range map[string]api.Instr{
		"nop": {}, "set r0 0": {Op: 1}, "set r7 9007199254740992": {Op: 1, A: 7, B: 1 << 53}, "set r7 -9007199254740992": {Op: 1, A: 7, B: -1 << 53},
		"move r7 r0": {Op: 2, A: 7}, "add r0 r0 r1": {Op: 3, C: 1}, "sub r0 r1 r0": {Op: 4, B: 1}, "mul r1 r0 r0": {Op: 5, A: 1}, "less r7 r7 r7": {Op: 6, A: 7, B: 7, C: 7}, "equal r2 r4 r6": {Op: 7, A: 2, B: 4, C: 6},
		"jump 0": {Op: 8}, "jump 1": {Op: 8, A: 1}, "if r0 1": {Op: 9, B: 1}, "if r6 0": {Op: 9, A: 6}, "load r0 r1 0": {Op: 10, B: 1}, "load r2 r3 10": {Op: 10, A: 2, B: 3, C: 10}, "store r3 r2 256": {Op: 11, A: 3, B: 2, C: 256},
		"call 1": {Op: 12, A: 1}, "call 24": {Op: 12, A: 24},
	} {
		expectFormat(t, api.Program{Code: []api.Instr{x}}, "pages 0\n"+want+"\n")
	}
	most := api.Program{Code: slices.Repeat([]api.Instr{{Op: api.OpIf, A: 7, B: 256}}, 256), Pages: 9}
	expectFormat(t, most, "pages 9\n"+strings.Repeat("if r7 256\n", 256))
}

func TestP4_2FormatErrors(t *testing.T) {
	programs := []api.Program{
		{Code: make([]api.Instr, api.MaxCode+1)}, {Strings: make([]string, api.MaxStrings+1)}, {Strings: []string{strings.Repeat("a", api.MaxPath+1)}},
		{Strings: []string{strings.Repeat("\n", api.MaxLine)}}, {Strings: []string{strings.Repeat("a", 1<<20)}, Pages: -1},
		{Code: []api.Instr{{Op: 13}}}, {Code: []api.Instr{{}, {Op: -1}}}, {Code: []api.Instr{{C: 1}}}, {Code: []api.Instr{{Op: math.MinInt64}}, Pages: 17},
	}
	for _, pages := range wrongPages() {
		programs = append(programs, api.Program{Pages: pages})
	}
	for i := range sample().Code {
		p := sample()
		p.Code[i].A = -1
		programs = append(programs, p)
	}
	for _, p := range programs {
		_, want := Check(p)
		if s, e := Format(p); s != "" || e != want || e == api.OK {
			t.Errorf("Format(%.300v) = %q, %d, want the error %d", p, s, e, want)
		}
	}
}

func equalPrograms(a, b api.Program) bool {
	return a.Pages == b.Pages && slices.Equal(a.Code, b.Code) && slices.Equal(a.Strings, b.Strings)
}

func expectParse(t *testing.T, s string, want api.Program) {
	t.Helper()
	if p, at, e := Parse(s); !equalPrograms(p, want) || at != 0 || e != api.OK {
		t.Errorf("Parse(%.300q) = %v, %d, %d, want %v", s, p, at, e, want)
	}
}

func expectParseFails(t *testing.T, s string, wantAt int, want api.Errno) {
	t.Helper()
	if p, at, e := Parse(s); !equalPrograms(p, api.Program{}) || at != wantAt || e != want {
		t.Errorf("Parse(%.300q) = %v, %d, %d, want the error %d at %d", s, p, at, e, want, wantAt)
	}
}

func TestP4_3Parse(t *testing.T) {
	nop := []api.Instr{{}}
	expectParse(t, "", api.Program{})
	expectParse(t, "\n", api.Program{})
	expectParse(t, sampleText(), sample())
	expectParse(t, strings.TrimSuffix(sampleText(), "\n"), sample())
	expectParse(t, "set r1 5\ncall 1", api.Program{Code: []api.Instr{{Op: api.OpSet, A: 1, B: 5}, {Op: api.OpCall, A: 1}}})
	expectParse(t, "pages 0", api.Program{})
	expectParse(t, "pages 16\nnop", api.Program{Pages: 16, Code: nop})
	expectParse(t, "string a\nnop", api.Program{Strings: []string{"a"}, Code: nop})
	expectParse(t, "string b\nstring a\nstring b\n", api.Program{Strings: []string{"b", "a", "b"}})
	expectParse(t, "string pages\nstring string\nstring nop\nstring #\nstring \"# a\"", api.Program{Strings: []string{"pages", "string", "nop", "#", "# a"}})
	expectParse(t, `"pages" "3"`+"\n"+`"string" "a"`+"\n"+`"set" "r1" "-5"`, api.Program{Pages: 3, Strings: []string{"a"}, Code: []api.Instr{{Op: api.OpSet, A: 1, B: -5}}})
}

func TestP4_3ParsePassesOverLines(t *testing.T) {
	want := api.Program{Pages: 2, Strings: []string{"a", "b"}, Code: []api.Instr{{}, {Op: api.OpJump, A: 2}}}
	for _, over := range []string{"", "#", "##", "# pages 3", "#nop", "# a  b ", "#\"", "#\\", "#\r\t\x00\xff", "#" + strings.Repeat("a", api.MaxLine), "#" + strings.Repeat(" a", api.MaxWords+1)} {
		lines := []string{"pages 2", "string a", "string b", "nop", "jump 2"}
		for at := range len(lines) + 1 {
			expectParse(t, strings.Join(slices.Insert(slices.Clone(lines), at, over), "\n"), want)
			expectParse(t, strings.Join(slices.Insert(slices.Clone(lines), at, over, over), "\n")+"\n", want)
			if at < len(lines) {
				expectParseFails(t, strings.Join(slices.Insert(slices.Clone(lines), at, over, over, "x"), "\n"), at+3, api.ErrSyntax)
			}
		}
	}
	for _, not := range []string{" ", " #", " # a", "\t", "\r", `""`, `"#"`, `"#" a`, "a#", ";", "//", "nop #", "nop # a", "nop#", "pages 2 #", "string a # b", "string#", "set r1 1 #"} {
		expectParseFails(t, not, 1, api.ErrSyntax)
		expectParseFails(t, "\n#\nnop\n"+not+"\nnop", 4, api.ErrSyntax)
	}
}

func TestP4_3ParseLongTexts(t *testing.T) {
	for _, c := range []string{"#", "\n"} {
		expectParse(t, strings.Repeat(c, api.MaxText), api.Program{})
		expectParse(t, "nop\n"+strings.Repeat(c, api.MaxText-4), api.Program{Code: []api.Instr{{}}})
	}
	expectParseFails(t, strings.Repeat("a", api.MaxText), 1, api.ErrLimit)
	expectParseFails(t, strings.Repeat(" \n", api.MaxText/2), 1, api.ErrSyntax)
	for _, c := range []string{"#", "\n", "a", " ", "x\n", "nop\n", "\xff", "pages 1\n"} {
		for _, length := range []int{api.MaxText + 1, api.MaxText + 2, 1 << 20} {
			expectParseFails(t, strings.Repeat(c, length)[:length], 0, api.ErrLimit)
		}
	}
}

func TestP4_3ParseSplitErrors(t *testing.T) {
	for line, want := range map[string]api.Errno{
		"set  r1 1": api.ErrSyntax, " nop": api.ErrSyntax, "nop ": api.ErrSyntax, "nop\r": api.ErrSyntax, `string "a`: api.ErrSyntax, `string a"b"`: api.ErrSyntax, "string é": api.ErrSyntax,
		strings.Repeat("a", api.MaxLine+1):                                          api.ErrLimit,
		strings.Repeat(" ", api.MaxLine+1):                                          api.ErrLimit,
		"string " + strings.Repeat("a", api.MaxLine):                                api.ErrLimit,
		strings.Repeat("a ", api.MaxWords) + "a":                                    api.ErrLimit,
		strings.Repeat("a ", api.MaxWords-1) + "a":                                  api.ErrSyntax,
		strings.Repeat("a", api.MaxLine):                                            api.ErrSyntax,
		"set r1 1" + strings.Repeat(" 1", api.MaxWords):                             api.ErrLimit,
		"nop" + strings.Repeat(" ", api.MaxWords):                                   api.ErrSyntax,
		"string " + strings.Repeat("a ", api.MaxWords) + strings.Repeat(" ", 1<<12): api.ErrLimit,
	} {
		expectParseFails(t, line, 1, want)
		expectParseFails(t, "pages 1\n\n# a\n"+line+"\n", 4, want)
		expectParseFails(t, "nop\nnop\n"+line+"\nx\n"+strings.Repeat("a", api.MaxLine+1), 3, want)
		expectParseFails(t, "nop\nx\n"+line, 2, api.ErrSyntax)
	}
	expectParseFails(t, "nop\n"+strings.Repeat("a", api.MaxLine+1)+"\nx", 2, api.ErrLimit)
}

// TestP4_3ParseParts goes through all short lists of lines: the letters of their kinds say what is of the form.
func TestP4_3ParseParts(t *testing.T) {
	lines := map[rune]string{'P': "pages 1", 'S': "string a", 'N': "nop", 'O': "# pages 1", 'E': ""}
	form := regexp.MustCompile(`^[OE]*(P[OE]*)?(S[OE]*)*(N[OE]*)*$`)
	var extend func(letters, text string)
	extend = func(letters, text string) {
		if !form.MatchString(letters) {
			expectParseFails(t, text, len(letters), api.ErrSyntax)
			expectParseFails(t, text+"nop\nx", len(letters), api.ErrSyntax)
			return
		}
		expectParse(t, text, api.Program{
			Pages: strings.Count(letters, "P"), Strings: slices.Repeat([]string{"a"}, strings.Count(letters, "S")), Code: make([]api.Instr, strings.Count(letters, "N")),
		})
		for letter, line := range lines {
			if len(letters) < 6 {
				extend(letters+string(letter), text+line+"\n")
			}
		}
	}
	extend("", "")
}

func TestP4_3ParsePagesAndStrings(t *testing.T) {
	for _, line := range []string{
		"pages", "pages x", "pages 1 2", "pages 01", "pages +1", "pages -0", "pages 1x", "pages 0x1", "pages r1", `pages ""`, "pages 9223372036854775808", "pages -9223372036854775809", "Pages 1", "page 1", "pages1",
		"string", "string a b", `string "a" ""`, "String a", "strings a", "stringa", "string:a", "string a b c d",
	} {
		expectParseFails(t, line, 1, api.ErrSyntax)
		expectParseFails(t, "\n#\n"+line+"\nnop", 3, api.ErrSyntax)
	}
	for _, line := range []string{"pages x", "pages", "pages 17", "pages 9223372036854775807"} {
		expectParseFails(t, "pages 1\n"+line, 2, api.ErrSyntax)
		expectParseFails(t, "string a\n"+line, 2, api.ErrSyntax)
		expectParseFails(t, "nop\n"+line, 2, api.ErrSyntax)
	}
	expectParseFails(t, "pages 17\npages 1", 2, api.ErrSyntax)
	expectParseFails(t, "pages 0\npages 0", 2, api.ErrSyntax)
}

// words of which the lines of TestP4_3ParseEveryForm are made, with their values as registers and as numbers.
func registerWords() map[string]int {
	return map[string]int{"r0": 0, "r1": 1, "r7": 7, "r8": 8, "r9": 9}
}

func numberWords() map[string]int {
	return map[string]int{"0": 0, "2": 2, "-1": -1, "24": 24, "257": 257, "9007199254740993": 1<<53 + 1, "9223372036854775807": math.MaxInt64, "-9223372036854775808": math.MinInt64}
}

func otherWords() []string {
	return []string{
		"r", "r10", "r-1", "r00", "R1", "rx", "r ", "rr", "r/", "r:", "1r", "x1", " r1", "", "-", "+1", "01", "-0", "1.5", "r1,", "1 ",
		"9223372036854775808", "-9223372036854775809", "99999999999999999999", "\x00", "r\x00", "r\xb1", "١", "r１",
	}
}

// forms are the operands of each operation: r for a register, n for any number.
func forms() map[string]string {
	return map[string]string{
		"nop": "", "set": "rn", "move": "rr", "add": "rrr", "sub": "rrr", "mul": "rrr", "less": "rrr", "equal": "rrr", "jump": "n", "if": "rn", "load": "rrn", "store": "rrn", "call": "n",
	}
}

// names are the names of the operations in the order of their numbers, and some other names.
func names() []string {
	return []string{
		"nop", "set", "move", "add", "sub", "mul", "less", "equal", "jump", "if", "load", "store", "call",
		"", "Nop", "no", "nopp", "SET", "halt", "r1", "0", "addd", " add", "div",
	}
}

// quoted writes a word as one of a line.
func quoted(word string) string {
	return `"` + word + `"`
}

// expectLine expects of a text of one line with a name and other words what the chapter says.
func expectLine(t *testing.T, op int, rest ...string) {
	t.Helper()
	line := quoted(names()[op])
	for _, word := range rest {
		line += " " + quoted(word)
	}
	form, ok := forms()[names()[op]]
	if ok && len(form) == len(rest) {
		if x, ok := instruction(op, form, rest); !ok {
			expectParseFails(t, "\n"+line, 2, api.ErrSyntax)
		} else if rightly(x, 1) {
			expectParse(t, "\n"+line, api.Program{Code: []api.Instr{x}})
		} else {
			expectParseFails(t, "\n"+line, 0, api.ErrInvalid)
		}
		return
	}
	expectParseFails(t, "\n"+line, 2, api.ErrSyntax)
}

func instruction(op int, form string, rest []string) (api.Instr, bool) {
	var operands [3]int
	for i, word := range rest {
		known := numberWords()
		if form[i] == 'r' {
			known = registerWords()
		}
		n, ok := known[word]
		if !ok {
			return api.Instr{}, false
		}
		operands[i] = n
	}
	return api.Instr{Op: op, A: operands[0], B: operands[1], C: operands[2]}, true
}

func TestP4_3ParseEveryForm(t *testing.T) {
	all := otherWords()
	for word := range registerWords() {
		all = append(all, word)
	}
	for word := range numberWords() {
		all = append(all, word)
	}
	few := []string{"r0", "r8", "r10", "0", "2", "257", "x"}
	for op := range names() {
		expectLine(t, op)
		for _, first := range all {
			expectLine(t, op, first)
			for _, second := range all {
				expectLine(t, op, first, second)
			}
		}
		for _, first := range few {
			for _, second := range few {
				for _, third := range all {
					expectLine(t, op, first, second, third)
					expectLine(t, op, first, third, second)
					expectLine(t, op, third, first, second)
					expectLine(t, op, first, second, third, "0")
					expectLine(t, op, first, second, third, "r0")
				}
			}
		}
	}
}

func TestP4_3ParseRegistersOfOneDigit(t *testing.T) {
	for c := range 256 {
		word := "r" + string([]byte{byte(c)})
		switch {
		case c >= '0' && c <= '7':
			expectParse(t, "set "+word+" 1", api.Program{Code: []api.Instr{{Op: api.OpSet, A: c - '0', B: 1}}})
		case c == '8' || c == '9':
			expectParseFails(t, "set "+word+" 1", 0, api.ErrInvalid)
		default:
			expectParseFails(t, "set "+word+" 1", 1, api.ErrSyntax)
		}
		if c != 'r' {
			expectParseFails(t, "set "+string([]byte{byte(c)})+"1 1", 1, api.ErrSyntax)
		}
	}
}

func TestP4_3ParseCheckErrors(t *testing.T) {
	for text, want := range map[string]api.Errno{
		"pages 17": api.ErrRange, "pages -1": api.ErrRange, "pages 9223372036854775807": api.ErrRange, "pages -9223372036854775808": api.ErrRange, "pages 4294967296": api.ErrRange,
		"nop\njump 3": api.ErrInvalid, "if r0 -1": api.ErrInvalid, "call 0": api.ErrInvalid, "call 25": api.ErrInvalid, "load r0 r0 -1": api.ErrInvalid, "store r0 r0 257": api.ErrInvalid,
		"set r1 9007199254740993": api.ErrInvalid, "set r1 -9007199254740993": api.ErrInvalid, "set r8 1": api.ErrInvalid, "add r0 r0 r9": api.ErrInvalid,
		"pages 17\nset r8 1":                                                     api.ErrRange,
		strings.Repeat("nop\n", api.MaxCode+1):                                   api.ErrLimit,
		"pages 17\n" + strings.Repeat("set r8 1\n", api.MaxCode+1):               api.ErrLimit,
		strings.Repeat("string a\n", api.MaxStrings+1):                           api.ErrLimit,
		"pages 17\n" + strings.Repeat("string a\n", api.MaxStrings+1):            api.ErrLimit,
		"string " + strings.Repeat("a", api.MaxPath+1):                           api.ErrLimit,
		"string \"" + strings.Repeat(`\n`, api.MaxPath+1) + `"`:                  api.ErrLimit,
		"pages 17\nstring a\nstring " + strings.Repeat("a", 4000) + "\nset r8 1": api.ErrLimit,
		"pages -1\n" + strings.Repeat("nop\n", api.MaxCode) + "call 99":          api.ErrLimit,
	} {
		expectParseFails(t, text, 0, want)
		lines := strings.Count(text, "\n") + 1
		if !strings.HasSuffix(text, "\n") {
			expectParseFails(t, text+"\nx", lines+1, api.ErrSyntax)
			expectParseFails(t, text+"\n"+strings.Repeat("x", api.MaxLine+1), lines+1, api.ErrLimit)
		}
		expectParseFails(t, "set r1\n"+text, 1, api.ErrSyntax)
	}
	expectParse(t, strings.Repeat("nop\n", api.MaxCode), api.Program{Code: make([]api.Instr, api.MaxCode)})
	expectParse(t, strings.Repeat("string a\n", api.MaxStrings), api.Program{Strings: slices.Repeat([]string{"a"}, api.MaxStrings)})
	expectParse(t, "string "+strings.Repeat("a", api.MaxPath), api.Program{Strings: []string{strings.Repeat("a", api.MaxPath)}})
	expectParse(t, "string \""+strings.Repeat(`\n`, api.MaxPath)+`"`, api.Program{Strings: []string{strings.Repeat("\n", api.MaxPath)}})
}

// TestP4_3ParseTargetsOfLaterLines jumps to instructions that are read after the jump.
func TestP4_3ParseTargetsOfLaterLines(t *testing.T) {
	expectParse(t, "jump 3\nif r1 3\nnop", api.Program{Code: []api.Instr{{Op: api.OpJump, A: 3}, {Op: api.OpIf, A: 1, B: 3}, {}}})
	expectParseFails(t, "jump 4\nif r1 3\nnop", 0, api.ErrInvalid)
	expectParseFails(t, "jump 3\nif r1 4\nnop", 0, api.ErrInvalid)
}

func TestP1ParseSharesNoMemory(t *testing.T) {
	text := sampleText()
	first, _, _ := Parse(text)
	second, _, _ := Parse(text)
	start := uintptr(unsafe.Pointer(unsafe.StringData(text)))
	for _, s := range first.Strings {
		if at := uintptr(unsafe.Pointer(unsafe.StringData(s))); s != "" && at >= start && at < start+uintptr(len(text)) {
			t.Errorf("the string %q is a part of the text", s)
		}
	}
	for i := range first.Code[:cap(first.Code)] {
		first.Code[:cap(first.Code)][i] = api.Instr{Op: -1}
	}
	for i := range first.Strings[:cap(first.Strings)] {
		first.Strings[:cap(first.Strings)][i] = "changed"
	}
	if !equalPrograms(second, sample()) || text != sampleText() {
		t.Errorf("two results of Parse share memory: %v", second)
	}
	expectParse(t, text, sample())
}

// TestP1AnyTexts gives Parse what is left of a text when bytes of it are changed or cut off.
func TestP1AnyTexts(t *testing.T) {
	text := "pages 2\nstring \"a b\"\nset r1 -5\njump 2\n"
	for i := range len(text) {
		for c := range 256 {
			checkAnyText(t, text[:i]+string([]byte{byte(c)})+text[i+1:])
			checkAnyText(t, text[:i]+string([]byte{byte(c)}))
		}
	}
}

// checkAnyText checks what holds for the result of Parse, whatever its text is.
func checkAnyText(t *testing.T, s string) {
	t.Helper()
	p, at, e := Parse(s)
	if e == api.OK {
		text, formatE := Format(p)
		if again, _, parseE := Parse(text); at != 0 || formatE != api.OK || parseE != api.OK || !equalPrograms(again, p) {
			t.Errorf("Parse(%q) = %v, %d, with the text %q, %d", s, p, at, text, formatE)
		}
		return
	}
	if !equalPrograms(p, api.Program{}) || (e == api.ErrSyntax) != (at > 0) || at > strings.Count(s, "\n")+1 {
		t.Errorf("Parse(%q) = %v, %d, %d", s, p, at, e)
	}
}

// rightPrograms are programs with every right instruction that has operands at the ends of their ranges.
func rightPrograms() []api.Program {
	l := []api.Program{{}, {Pages: 16}, sample()}
	for op := range 13 {
		for _, a := range edges(2) {
			for _, b := range edges(2) {
				for _, c := range edges(2) {
					if x := (api.Instr{Op: op, A: a, B: b, C: c}); rightly(x, 2) {
						l = append(l, api.Program{Code: []api.Instr{{}, x}, Pages: (a + b + c) & 15, Strings: []string{fmt.Sprint(x)}})
					}
				}
			}
		}
	}
	for c := range 256 {
		one := string([]byte{byte(c)})
		l = append(l, api.Program{Strings: []string{one, "", one + "a" + one, "a" + one + "a", strings.Repeat(one, api.MaxPath)}})
	}
	longest := slices.Repeat([]api.Instr{{Op: api.OpSet, A: 7, B: -1 << 53}}, api.MaxCode)
	return append(l, api.Program{Code: longest, Strings: slices.Repeat([]string{strings.Repeat("\n", api.MaxPath)}, api.MaxStrings), Pages: 16})
}

func TestConsequenceParseOfFormat(t *testing.T) {
	for _, p := range rightPrograms() {
		expectCheck(t, p, 0, api.OK)
		s, e := Format(p)
		if e != api.OK {
			t.Errorf("Format(%v): %d", p, e)
		}
		expectParse(t, s, p)
		if again, _, _ := Parse(s); !Same(again, p) {
			t.Errorf("Same does not find %v in its text", p)
		}
	}
}
