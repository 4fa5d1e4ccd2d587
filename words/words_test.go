package words

import (
	"math"
	"math/big"
	"regexp"
	"slices"
	"strings"
	"testing"
	"unsafe"

	"clusterkernel/api"
)

// eachText calls look with each text of at most length bytes of the alphabet.
func eachText(alphabet string, length int, look func(text string)) {
	var extend func(text string)
	extend = func(text string) {
		look(text)
		for i := 0; len(text) < length && i < len(alphabet); i++ {
			extend(text + alphabet[i:i+1])
		}
	}
	extend("")
}

// eachByte calls look with each byte, as a text of one byte.
func eachByte(look func(c byte, text string)) {
	for c := range 256 {
		look(byte(c), string([]byte{byte(c)}))
	}
}

// plainBytes lists the bytes of plain words one by one.
const plainBytes = "!#$%&'()*+,-./0123456789:;<=>?@ABCDEFGHIJKLMNOPQRSTUVWXYZ[]^_`abcdefghijklmnopqrstuvwxyz{|}~"

// pairs is what stands in a quoted word for the bytes that cannot.
func pairs() map[byte]string {
	return map[byte]string{'"': `\"`, '\\': `\\`, '\n': `\n`, '\r': `\r`}
}

func checkSplit(t *testing.T, s string, want ...string) {
	t.Helper()
	if l, e := Split(s); e != api.OK || !slices.Equal(l, want) {
		t.Errorf("Split(%q) = %q, %d, want %q", s, l, e, want)
	}
}

func checkSplitFails(t *testing.T, s string, want api.Errno) {
	t.Helper()
	if l, e := Split(s); e != want || len(l) != 0 {
		t.Errorf("Split(%q) = %q, %d, want the error %d", s, l, e, want)
	}
}

func TestP2_1SplitWords(t *testing.T) {
	checkSplit(t, "")
	checkSplit(t, "a", "a")
	checkSplit(t, "run", "run")
	checkSplit(t, "run a b", "run", "a", "b")
	checkSplit(t, `run "a b" 3`, "run", "a b", "3")
	checkSplit(t, "a a a", "a", "a", "a")
	checkSplit(t, "!~ #'`", "!~", "#'`")
	checkSplit(t, plainBytes, plainBytes)
	checkSplit(t, plainBytes+" "+plainBytes, plainBytes, plainBytes)
}

func TestP2_1SplitQuotedWords(t *testing.T) {
	checkSplit(t, `""`, "")
	checkSplit(t, `"" ""`, "", "")
	checkSplit(t, `a "" b`, "a", "", "b")
	checkSplit(t, `"a"`, "a")
	checkSplit(t, `" "`, " ")
	checkSplit(t, `"  " "a  b " c`, "  ", "a  b ", "c")
	checkSplit(t, `"\"\\\n\r"`, "\"\\\n\r")
	checkSplit(t, `"\\n" "\\\n" "\\"`, `\n`, "\\\n", `\`)
	checkSplit(t, `"\"a\"" "n\nr\r"`, `"a"`, "n\nr\r")
	checkSplit(t, "\"\x00\t\x7f\x80\xff\"", "\x00\t\x7f\x80\xff")
	checkSplit(t, "\"é\"", "é")
}

func TestP2_1SplitEveryByte(t *testing.T) {
	eachByte(func(c byte, text string) {
		if strings.IndexByte(plainBytes, c) >= 0 {
			checkSplit(t, text, text)
			checkSplit(t, "a"+text+"b", "a"+text+"b")
			checkSplit(t, "x "+text, "x", text)
		} else if c != ' ' {
			checkSplitFails(t, text, api.ErrSyntax)
			checkSplitFails(t, "a"+text+"b", api.ErrSyntax)
			checkSplitFails(t, "x "+text, api.ErrSyntax)
		}
		if pairs()[c] == "" {
			checkSplit(t, `"`+text+`"`, text)
			checkSplit(t, `"a`+text+`b"`, "a"+text+"b")
		} else {
			checkSplit(t, `"`+pairs()[c]+`"`, text)
			checkSplit(t, `"a`+pairs()[c]+`b"`, "a"+text+"b")
			checkSplitFails(t, `"a`+text+`b"`, api.ErrSyntax)
		}
		if strings.IndexByte(`"\nr`, c) < 0 {
			checkSplitFails(t, `"\`+text+`"`, api.ErrSyntax)
			checkSplitFails(t, `"a\`+text+`b"`, api.ErrSyntax)
		}
		if c == ' ' {
			checkSplit(t, `"a" b`, "a", "b")
		} else {
			checkSplitFails(t, `"a"`+text+"b", api.ErrSyntax)
		}
		checkSplitFails(t, `"a"`+text, api.ErrSyntax)
	})
}

func TestP2_1SplitSyntax(t *testing.T) {
	for _, s := range []string{
		" ", "  ", "a ", " a", "a  b", "a b ", `"a" `, ` "a"`, `"a"  "b"`,
		"a\tb", "a\nb", "a\n", "\n", "a\r", "\x7f", "a\x7f", "é", "\x00", "a\xff",
		`"`, `a "`, `"a`, `"a b`, `""" `, `"a" "`, `"\`, `"\"`, `"a\`, `"\\`, `"\n`,
		`"\x"`, `"\t"`, `"\0"`, `"\N"`, `"\ "`, "\"\\\n\"", "\"\\\r\"",
		`a"`, `a"b`, `a"b"`, `"a"b`, `"a""b"`, `"""`, `""""`, `\`, `\n`, `a\`, `a\n`, `\"a\"`, `"a"\`,
		"\"\n\"", "\"a\rb\"",
	} {
		checkSplitFails(t, s, api.ErrSyntax)
		checkSplitFails(t, "x "+s, api.ErrSyntax)
		checkSplitFails(t, `"" `+s, api.ErrSyntax)
	}
}

func TestP2_1SplitLongLines(t *testing.T) {
	full := strings.Repeat("x", api.MaxLine)
	checkSplit(t, full, full)
	checkSplit(t, "a "+full[2:], "a", full[2:])
	checkSplit(t, `"`+full[2:]+`"`, full[2:])
	checkSplit(t, `"`+strings.Repeat(`\n`, api.MaxLine/2-1)+`"`, strings.Repeat("\n", api.MaxLine/2-1))
	for _, c := range []string{"x", " ", "\n", `"`, "\xff"} {
		checkSplitFails(t, strings.Repeat(c, api.MaxLine+1), api.ErrLimit)
		checkSplitFails(t, strings.Repeat(c, 1<<20), api.ErrLimit)
	}
	for _, c := range []string{" ", "\n", "\xff"} {
		checkSplitFails(t, strings.Repeat(c, api.MaxLine), api.ErrSyntax)
	}
	checkSplitFails(t, full[1:]+" ", api.ErrSyntax)
	checkSplitFails(t, full[1:]+`"`, api.ErrSyntax)
	checkSplitFails(t, `"`+full[1:], api.ErrSyntax)
}

func TestP2_1SplitManyWords(t *testing.T) {
	for _, c := range []struct{ written, word string }{{"a", "a"}, {`""`, ""}, {`"b c"`, "b c"}} {
		line := strings.TrimSuffix(strings.Repeat(c.written+" ", api.MaxWords), " ")
		checkSplit(t, line, slices.Repeat([]string{c.word}, api.MaxWords)...)
		checkSplitFails(t, line+" a", api.ErrLimit)
		checkSplitFails(t, line+` ""`, api.ErrLimit)
		checkSplitFails(t, line+" "+line, api.ErrLimit)
		for _, end := range []string{" ", `"`, "\n", " a ", " a  b", ` "a`, ` a\`, ` "a"b`} {
			checkSplitFails(t, line+end, api.ErrSyntax)
		}
		checkSplitFails(t, " "+line+" a", api.ErrSyntax)
	}
	most := strings.TrimSuffix(strings.Repeat("a ", api.MaxLine/2), " ")
	checkSplitFails(t, most, api.ErrLimit)
	checkSplitFails(t, most+" ", api.ErrSyntax)
	checkSplitFails(t, most+"  ", api.ErrLimit)
}

// latin writes each byte as the character of its number, as patterns are about characters.
func latin(s string) string {
	var b strings.Builder
	for i := range len(s) {
		b.WriteRune(rune(s[i]))
	}
	return b.String()
}

// TestP2_1SplitAllTexts compares with the definition of a line, written down as patterns.
func TestP2_1SplitAllTexts(t *testing.T) {
	word := `(?:[!#-\[\]-~]+|"(?:[^"\\\n\r]|\\["\\nr])*")`
	line := regexp.MustCompile(`\A(?:` + word + `(?: ` + word + `)*)?\z`)
	words := regexp.MustCompile(word)
	meaning := strings.NewReplacer(`\"`, `"`, `\\`, `\`, `\n`, "\n", `\r`, "\r")
	eachText("an \"\\\n\xe9", 6, func(text string) {
		if !line.MatchString(latin(text)) {
			checkSplitFails(t, text, api.ErrSyntax)
			return
		}
		l, e := Split(text)
		want := words.FindAllString(latin(text), -1)
		for i, w := range want {
			if w[0] == '"' {
				want[i] = meaning.Replace(w[1 : len(w)-1])
			}
		}
		for i := range l {
			l[i] = latin(l[i])
		}
		if e != api.OK || !slices.Equal(l, want) {
			t.Errorf("Split(%q) = %q, %d, want %q", text, l, e, want)
		}
	})
}

func checkJoin(t *testing.T, want string, l ...string) {
	t.Helper()
	if s, e := Join(l); e != api.OK || s != want {
		t.Errorf("Join(%q) = %q, %d, want %q", l, s, e, want)
	}
}

func checkJoinFails(t *testing.T, l ...string) {
	t.Helper()
	if s, e := Join(l); e != api.ErrLimit || s != "" {
		t.Errorf("Join of %d words = %q, %d, want the error %d", len(l), s, e, api.ErrLimit)
	}
}

func TestP2_2JoinWords(t *testing.T) {
	checkJoin(t, "")
	checkJoin(t, "", []string{}...)
	checkJoin(t, "a", "a")
	checkJoin(t, `""`, "")
	checkJoin(t, `a ""`, "a", "")
	checkJoin(t, `"" a`, "", "a")
	checkJoin(t, `"" ""`, "", "")
	checkJoin(t, `run "a b" 3`, "run", "a b", "3")
	checkJoin(t, `" " "a " " b"`, " ", "a ", " b")
	checkJoin(t, `"\"a\"" "\\" "\\n" "\n" "\r\n"`, `"a"`, `\`, `\n`, "\n", "\r\n")
	checkJoin(t, "\"\x00\" \"\t\" \"\x7f\" \"\xff\" \"é\"", "\x00", "\t", "\x7f", "\xff", "é")
	checkJoin(t, plainBytes+" "+plainBytes, plainBytes, plainBytes)
}

func TestP2_2JoinEveryByte(t *testing.T) {
	eachByte(func(c byte, text string) {
		written := text
		if p := pairs()[c]; p != "" {
			written = p
		}
		quotes := `"`
		if strings.IndexByte(plainBytes, c) >= 0 {
			quotes = ""
		}
		checkJoin(t, quotes+written+quotes, text)
		checkJoin(t, quotes+"a"+written+quotes, "a"+text)
		checkJoin(t, quotes+written+"a"+quotes, text+"a")
		checkJoin(t, "x "+quotes+written+written+quotes+` ""`, "x", text+text, "")
	})
}

func TestP2_2JoinManyWords(t *testing.T) {
	for _, c := range []struct{ word, written string }{{"a", "a"}, {"", `""`}, {"b c", `"b c"`}} {
		l := slices.Repeat([]string{c.word}, api.MaxWords)
		checkJoin(t, strings.TrimSuffix(strings.Repeat(c.written+" ", api.MaxWords), " "), l...)
		checkJoinFails(t, append(l, "a")...)
		checkJoinFails(t, append(l, "")...)
		checkJoinFails(t, append(l, l...)...)
	}
}

func TestP2_2JoinLongLines(t *testing.T) {
	full := strings.Repeat("x", api.MaxLine)
	checkJoin(t, full, full)
	checkJoinFails(t, full+"x")
	checkJoinFails(t, full, "")
	checkJoinFails(t, "", full)
	checkJoin(t, "a "+full[2:], "a", full[2:])
	checkJoinFails(t, "a", full[1:])
	checkJoin(t, full[3:]+` ""`, full[3:], "")
	checkJoinFails(t, full[2:], "")

	spaces := strings.Repeat(" ", api.MaxLine-2)
	checkJoin(t, `"`+spaces+`"`, spaces)
	checkJoinFails(t, spaces+" ")
	checkJoinFails(t, full[1:]+" ")
	feeds := strings.Repeat("\n", api.MaxLine/2-1)
	checkJoin(t, `"`+strings.Repeat(`\n`, api.MaxLine/2-1)+`"`, feeds)
	checkJoinFails(t, feeds+"x")

	sixtyThree := strings.Repeat("y", 63)
	l := slices.Repeat([]string{sixtyThree}, api.MaxWords)
	checkJoin(t, strings.TrimSuffix(strings.Repeat(sixtyThree+" ", api.MaxWords), " "), l...)
	l[0] += "y"
	checkJoin(t, "y"+strings.TrimSuffix(strings.Repeat(sixtyThree+" ", api.MaxWords), " "), l...)
	l[63] += "y"
	checkJoinFails(t, l...)
	checkJoinFails(t, slices.Repeat([]string{strings.Repeat("\n", 1<<20)}, api.MaxWords)...)
}

func TestP2_2JoinChangesNoArgument(t *testing.T) {
	for _, length := range []int{0, 1, 3, api.MaxWords, api.MaxWords + 1} {
		all := slices.Repeat([]string{"a", "", "b\n"}, 30)
		kept := slices.Clone(all)
		first, _ := Join(all[:length])
		second, _ := Join(slices.Clone(all[:length]))
		if first != second {
			t.Errorf("Join looks beyond the length: %q and %q", first, second)
		}
		if !slices.Equal(all, kept) {
			t.Errorf("Join of %d words changed its argument", length)
		}
	}
}

func checkNumber(t *testing.T, s string, n int64, e api.Errno) {
	t.Helper()
	if got, gotE := Number(s); got != n || gotE != e {
		t.Errorf("Number(%q) = %d, %d, want %d, %d", s, got, gotE, n, e)
	}
}

func TestP2_3Number(t *testing.T) {
	for s, n := range map[string]int64{
		"0": 0, "1": 1, "-1": -1, "9": 9, "10": 10, "-10": -10, "100": 100, "-17": -17, "1234567890": 1234567890, "-987654321": -987654321,
		"2147483648": 1 << 31, "-4294967297": -1<<32 - 1,
		"9223372036854775807": math.MaxInt64, "9223372036854775806": math.MaxInt64 - 1, "1000000000000000000": 1000000000000000000,
		"-9223372036854775808": math.MinInt64, "-9223372036854775807": math.MinInt64 + 1,
	} {
		checkNumber(t, s, n, api.OK)
	}
}

func TestP2_3NumberRange(t *testing.T) {
	for _, s := range []string{
		"9223372036854775808", "9223372036854775809", "9223372036854775810", "9300000000000000000", "9999999999999999999", "10000000000000000000",
		"18446744073709551615", "18446744073709551616", "18446744073709551617", "36893488147419103232", "100000000000000000000000",
		"1" + strings.Repeat("0", 1<<16),
	} {
		checkNumber(t, s, 0, api.ErrRange)
		if s != "9223372036854775808" {
			checkNumber(t, "-"+s, 0, api.ErrRange)
		}
	}
}

func TestP2_3NumberSyntax(t *testing.T) {
	for _, s := range []string{
		"", "-", "--", "--1", "1-", "1-1", "-0", "--0", "00", "-00", "01", "-01", "-07", "007", "0-", "0 ",
		"+", "+0", "+1", "+-1", "-+1", " ", " 1", "1 ", "- 1", "1\n", "\n1", "1a", "a", "a1", "-a", "1_0", "1.0", "1.", ".1", "1,000", "1e3", "0x1", "0b1", "0o7", "0_1",
		"1\x00", "\x001", "\xff", "\xb1", "\xb2", "٣", "１", "∞", "inf", "nan", "−1", "/", ":", "1/", "1:", "-/", "-:",
		"99999999999999999999a", "-99999999999999999999-", "a99999999999999999999", "099999999999999999999", "-00000000000000000000000", "00000000000000000000001",
		"99999999999999999999 ", "9999999999999999999_9", strings.Repeat("9", 1<<16) + "x",
	} {
		checkNumber(t, s, 0, api.ErrSyntax)
	}
	eachByte(func(c byte, text string) {
		if c < '0' || c > '9' {
			checkNumber(t, "1"+text, 0, api.ErrSyntax)
			checkNumber(t, "1"+text+"2", 0, api.ErrSyntax)
			checkNumber(t, "-"+text+"2", 0, api.ErrSyntax)
			checkNumber(t, text, 0, api.ErrSyntax)
		}
		if c != '-' && (c < '1' || c > '9') {
			checkNumber(t, text+"2", 0, api.ErrSyntax)
		}
	})
}

// TestP2_3AllTexts compares with exact numbers: a text is a number if it is what the number is written as.
func TestP2_3AllTexts(t *testing.T) {
	look := func(text string) {
		exact, ok := new(big.Int).SetString(text, 10)
		switch {
		case !ok || exact.String() != text:
			checkNumber(t, text, 0, api.ErrSyntax)
		case !exact.IsInt64():
			checkNumber(t, text, 0, api.ErrRange)
		default:
			checkNumber(t, text, exact.Int64(), api.OK)
		}
	}
	eachText("-+_ 0189a", 5, look)
	eachText("0125789", 3, func(end string) {
		for _, begin := range []string{"9223372036854775", "92233720368547758", "922337203685477580", "18446744073709551", "0", ""} {
			look(begin + end)
			look("-" + begin + end)
		}
	})
}

// numbers lies around all powers of two and of ten.
func numbers() []int64 {
	list := []int64{0, math.MaxInt64, math.MinInt64}
	for bits := range 63 {
		edge := int64(1) << bits
		list = append(list, edge-1, edge, edge+1, -edge-1, -edge, -edge+1)
	}
	for edge := int64(1); edge < math.MaxInt64/10; edge *= 10 {
		list = append(list, edge-1, edge, edge*9, -edge+1, -edge, -edge*9)
	}
	return list
}

func TestP2_3Format(t *testing.T) {
	for want, n := range map[string]int64{
		"0": 0, "7": 7, "-7": -7, "10": 10, "-10": -10, "1000000": 1000000,
		"9223372036854775807": math.MaxInt64, "-9223372036854775808": math.MinInt64,
	} {
		if got := Format(n); got != want {
			t.Errorf("Format(%d) = %q, want %q", n, got, want)
		}
	}
	for _, n := range numbers() {
		if got := Format(n); got != big.NewInt(n).String() {
			t.Errorf("Format(%d) = %q", n, got)
		}
	}
}

func checkLines(t *testing.T, s string, want ...string) {
	t.Helper()
	if l := Lines(s); !slices.Equal(l, want) {
		t.Errorf("Lines(%q) = %q, want %q", s, l, want)
	}
}

func TestP2_4Lines(t *testing.T) {
	checkLines(t, "")
	checkLines(t, "a", "a")
	checkLines(t, "a\n", "a")
	checkLines(t, "\n", "")
	checkLines(t, "\n\n", "", "")
	checkLines(t, "a\nb", "a", "b")
	checkLines(t, "a\nb\n", "a", "b")
	checkLines(t, "\na", "", "a")
	checkLines(t, "a\n\n", "a", "")
	checkLines(t, "a\n\nb", "a", "", "b")
	checkLines(t, "a \n b", "a ", " b")
	checkLines(t, " ", " ")
	checkLines(t, "a\r\n\n", "a\r", "")
	checkLines(t, "a\rb\n\r", "a\rb", "\r")
	checkLines(t, "a\\nb\v\f\u0085\u2028c", "a\\nb\v\f\u0085\u2028c")
	checkLines(t, "run \"a b\"\nend", `run "a b"`, "end")
	checkLines(t, "\x00\n\xff\n", "\x00", "\xff")
	eachByte(func(c byte, text string) {
		if c != '\n' {
			checkLines(t, text, text)
			checkLines(t, text+"\n"+text, text, text)
		}
	})
}

func TestP2_4LinesOfAnyLength(t *testing.T) {
	long := strings.Repeat("x", 3*api.MaxLine)
	checkLines(t, long+"\n"+long, long, long)
	checkLines(t, strings.Repeat("\n", 2*api.MaxText), make([]string, 2*api.MaxText)...)
	checkLines(t, strings.Repeat("a\n", 2*api.MaxWords), slices.Repeat([]string{"a"}, 2*api.MaxWords)...)
}

func TestP2_4AllTexts(t *testing.T) {
	eachText("a\n\r ", 7, func(text string) {
		var want []string
		begun := ""
		for i := range len(text) {
			if text[i] == '\n' {
				want = append(want, begun)
				begun = ""
			} else {
				begun += text[i : i+1]
			}
		}
		if begun != "" {
			want = append(want, begun)
		}
		checkLines(t, text, want...)
	})
}

// within reports whether part lies in the memory of whole.
func within(part, whole string) bool {
	if part == "" || whole == "" {
		return false
	}
	at, start := uintptr(unsafe.Pointer(unsafe.StringData(part))), uintptr(unsafe.Pointer(unsafe.StringData(whole)))
	return at >= start && at < start+uintptr(len(whole))
}

func TestP1ResultsAreNewMemory(t *testing.T) {
	text := strings.Repeat("word", 3) + " \"quoted word\"\nline\nend"
	for _, line := range Lines(text) {
		if within(line, text) {
			t.Errorf("the line %q is a part of the text", line)
		}
	}
	line := Lines(text)[0]
	l, _ := Split(line)
	for _, word := range l {
		if within(word, line) {
			t.Errorf("the word %q is a part of the line", word)
		}
	}
	if joined, _ := Join(l[:1]); within(joined, l[0]) || joined != l[0] {
		t.Errorf("the line %q is the word itself", joined)
	}
	l[0] = "other"
	checkSplit(t, line, "wordwordword", "quoted word")
}

func checkRound(t *testing.T, l ...string) {
	t.Helper()
	line, e := Join(l)
	if e != api.OK {
		t.Fatalf("Join(%q): %d", l, e)
	}
	if again, e := Split(line); e != api.OK || !slices.Equal(again, l) {
		t.Errorf("Split(%q) = %q, %d, want %q", line, again, e, l)
	}
}

func TestConsequenceSplitOfJoin(t *testing.T) {
	checkRound(t)
	eachText("a \"\\nr\n\r\xff", 4, func(text string) {
		checkRound(t, text)
		checkRound(t, "a", text, "", text)
	})
	var all []byte
	eachByte(func(c byte, text string) {
		all = append(all, c)
		checkRound(t, text, text+text, "")
	})
	checkRound(t, string(all), string(all))
	checkRound(t, slices.Repeat([]string{"a \n"}, api.MaxWords)...)
	checkRound(t, make([]string, api.MaxWords)...)
	checkRound(t, strings.Repeat("x", api.MaxLine))
	checkRound(t, strings.Repeat("\\", api.MaxLine/2-1))
}

func TestConsequenceNumberOfFormat(t *testing.T) {
	for _, n := range numbers() {
		checkNumber(t, Format(n), n, api.OK)
	}
	for n := int64(-2000); n <= 2000; n++ {
		checkNumber(t, Format(n), n, api.OK)
		checkNumber(t, Format(n*n*n*1000001), n*n*n*1000001, api.OK)
	}
}
