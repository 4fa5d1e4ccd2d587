package pack

import (
	"bytes"
	"hash/fnv"
	"math"
	"math/big"
	"strings"
	"testing"

	"clusterkernel/api"
)

// numbers lies on both sides of every place where a form gets longer, and at the ends of the range.
func numbers() []int64 {
	list := []int64{0, 1, -1, 2, -2, 300, -300, 123456789, -987654321, math.MaxInt64, math.MinInt64, math.MaxInt64 - 1, math.MinInt64 + 1}
	for bits := 6; bits < 63; bits += 7 {
		edge := int64(1) << bits
		list = append(list, edge-1, edge, -edge, -edge-1)
	}
	return list
}

// formOf writes the definition down with exact numbers.
func formOf(n int64) []byte {
	u := new(big.Int).Mul(big.NewInt(2), big.NewInt(n))
	if n < 0 {
		u.Neg(u).Sub(u, big.NewInt(1))
	}
	var form []byte
	for {
		group := new(big.Int)
		u.DivMod(u, big.NewInt(128), group)
		if u.Sign() == 0 {
			return append(form, byte(group.Int64()))
		}
		form = append(form, byte(group.Int64())+128)
	}
}

// spared returns the text as bytes with a tail beyond their length, and a look at all of it.
func spared(text, tail string) (b, all []byte) {
	all = []byte(text + tail)
	return all[:len(text)], all
}

func TestP1_1PutIntShortestForm(t *testing.T) {
	for _, c := range []struct {
		n    int64
		form string
	}{
		{0, "\x00"}, {-1, "\x01"}, {1, "\x02"}, {-2, "\x03"}, {63, "\x7e"}, {-64, "\x7f"},
		{64, "\x80\x01"}, {-65, "\x81\x01"}, {8191, "\xfe\x7f"}, {-8192, "\xff\x7f"}, {8192, "\x80\x80\x01"},
		{1 << 62, "\x80\x80\x80\x80\x80\x80\x80\x80\x80\x01"},
		{1<<62 - 1, "\xfe\xff\xff\xff\xff\xff\xff\xff\x7f"},
		{math.MaxInt64, "\xfe\xff\xff\xff\xff\xff\xff\xff\xff\x01"},
		{math.MinInt64, "\xff\xff\xff\xff\xff\xff\xff\xff\xff\x01"},
	} {
		if got := PutInt(nil, c.n); string(got) != c.form {
			t.Errorf("PutInt(nil, %d) = %x, want %x", c.n, got, c.form)
		}
	}
	for _, n := range numbers() {
		for _, before := range []string{"", "a", "\x80", "before"} {
			want := before + string(formOf(n))
			if got := PutInt([]byte(before), n); string(got) != want {
				t.Errorf("PutInt(%q, %d) = %x, want %x", before, n, got, want)
			}
		}
	}
}

func TestP1_1PutBytes(t *testing.T) {
	for _, c := range []struct{ before, data, want string }{
		{"", "", "\x00"},
		{"x", "", "x\x00"},
		{"", "a", "\x02a"},
		{"x", "hey", "x\x06hey"},
		{"\xff", "\x00\xff\x80", "\xff\x06\x00\xff\x80"},
		{"", strings.Repeat("z", 63), "\x7e" + strings.Repeat("z", 63)},
		{"", strings.Repeat("z", 64), "\x80\x01" + strings.Repeat("z", 64)},
		{"ab", strings.Repeat("z", 8192), "ab\x80\x80\x01" + strings.Repeat("z", 8192)},
	} {
		if got := PutBytes([]byte(c.before), []byte(c.data)); string(got) != c.want {
			t.Errorf("PutBytes(%q, %d bytes) = %q", c.before, len(c.data), got)
		}
	}
	if got := PutBytes(nil, nil); string(got) != "\x00" {
		t.Errorf("PutBytes(nil, nil) = %x", got)
	}
}

func TestP1_1PutChangesNoArgument(t *testing.T) {
	tail := strings.Repeat("T", 40)
	for _, n := range numbers() {
		b, all := spared("ab", tail)
		one, other := PutInt(b, n), PutInt(b, 7)
		if string(all) != "ab"+tail {
			t.Fatalf("PutInt(b, %d) wrote to b: %q", n, all)
		}
		if string(one) != "ab"+string(formOf(n)) || string(other) != "ab\x0e" {
			t.Errorf("the results of PutInt with %d share memory: %x, %x", n, one, other)
		}
	}
	b, all := spared("ab", tail)
	data, allData := spared("hey", tail)
	one, other := PutBytes(b, data), PutBytes(b, []byte("you"))
	if string(all) != "ab"+tail || string(allData) != "hey"+tail {
		t.Errorf("PutBytes wrote to its arguments: %q, %q", all, allData)
	}
	if string(one) != "ab\x06hey" || string(other) != "ab\x06you" {
		t.Errorf("the results of PutBytes share memory: %q, %q", one, other)
	}
}

func TestP1_1PutBytesOfOneMemory(t *testing.T) {
	all := []byte("abcdef")
	if got := PutBytes(all[:1], all[1:4]); string(got) != "a\x06bcd" || string(all) != "abcdef" {
		t.Errorf("neighbours: %q, and the memory is %q", got, all)
	}
	if got := PutBytes(all, all); string(got) != "abcdef\x0cabcdef" || string(all) != "abcdef" {
		t.Errorf("the same: %q, and the memory is %q", got, all)
	}
}

func TestP1_1PutResultIsNewMemory(t *testing.T) {
	b, data := []byte("ab"), []byte("hey")
	for _, got := range [][]byte{PutInt(b, 5), PutBytes(b, data), PutBytes(b, nil)} {
		clear(got[:cap(got)])
	}
	if string(b) != "ab" || string(data) != "hey" {
		t.Errorf("a result shares memory with an argument: %q, %q", b, data)
	}
}

func TestP1_2GetInt(t *testing.T) {
	for _, n := range numbers() {
		form := string(formOf(n))
		for _, before := range []string{"", "a", "\x80\x80"} {
			for _, after := range []string{"", "\x00", "\x01", "\xff\xff", "\x80"} {
				b := []byte(before + form + after)
				got, next, e := GetInt(b, len(before))
				if got != n || next != len(before)+len(form) || e != api.OK {
					t.Errorf("GetInt(%x, %d) = %d, %d, %d, want %d", b, len(before), got, next, e, n)
				}
			}
		}
	}
}

// wrongForm is a text at whose offset no number begins.
type wrongForm struct {
	b  string
	at int
	e  api.Errno
}

func wrongForms() []wrongForm {
	nine := strings.Repeat("\x80", 9)
	full := strings.Repeat("\xff", 9)
	return []wrongForm{
		{"", -1, api.ErrRange}, {"", 1, api.ErrRange}, {"a", -1, api.ErrRange}, {"a", 2, api.ErrRange},
		{"\x80\x00", -1, api.ErrRange}, {"\x80", 2, api.ErrRange},
		{"a", math.MinInt, api.ErrRange}, {"a", math.MaxInt, api.ErrRange},

		{"", 0, api.ErrShort}, {"a", 1, api.ErrShort}, {"\x80", 0, api.ErrShort}, {"\x80\x80", 1, api.ErrShort},
		{"\xff\x80", 0, api.ErrShort}, {nine, 0, api.ErrShort}, {full, 0, api.ErrShort}, {nine + "\x80", 1, api.ErrShort},

		{"\x80\x00", 0, api.ErrSyntax}, {"\xff\x00", 0, api.ErrSyntax}, {"\x80\x80\x00", 0, api.ErrSyntax},
		{"\x81\x80\x00\x01", 0, api.ErrSyntax}, {nine + "\x00", 0, api.ErrSyntax}, {full + "\x00", 0, api.ErrSyntax},
		{nine + "\x02", 0, api.ErrSyntax}, {nine + "\x03", 0, api.ErrSyntax}, {full + "\x7f", 0, api.ErrSyntax},
		{nine + "\x40", 0, api.ErrSyntax}, {"x" + full + "\x02\x00", 1, api.ErrSyntax},

		{nine + "\x80", 0, api.ErrSyntax}, {nine + "\x81", 0, api.ErrSyntax}, {full + "\xff", 0, api.ErrSyntax},
		{nine + "\x80\x01", 0, api.ErrSyntax}, {nine + "\x81\x00", 0, api.ErrSyntax}, {nine + nine, 0, api.ErrSyntax},
		{"x" + nine + "\x80", 1, api.ErrSyntax},
	}
}

func TestP1_2GetIntErrors(t *testing.T) {
	for _, c := range wrongForms() {
		n, next, e := GetInt([]byte(c.b), c.at)
		if n != 0 || next != 0 || e != c.e {
			t.Errorf("GetInt(%x, %d) = %d, %d, %d, want the error %d", c.b, c.at, n, next, e, c.e)
		}
	}
	if n, next, e := GetInt(nil, 0); n != 0 || next != 0 || e != api.ErrShort {
		t.Errorf("GetInt(nil, 0) = %d, %d, %d", n, next, e)
	}
}

func TestP1_2GetIntLooksAtNothingBeyondTheLength(t *testing.T) {
	b, all := spared("\x80", "\x01\x01")
	if n, next, e := GetInt(b, 0); n != 0 || next != 0 || e != api.ErrShort {
		t.Errorf("GetInt = %d, %d, %d", n, next, e)
	}
	if n, next, e := GetInt(b, 1); n != 0 || next != 0 || e != api.ErrShort {
		t.Errorf("GetInt at the end = %d, %d, %d", n, next, e)
	}
	if _, _, e := GetInt(b, 2); e != api.ErrRange {
		t.Errorf("GetInt beyond the end: %d", e)
	}
	if string(all) != "\x80\x01\x01" {
		t.Errorf("GetInt changed its argument: %x", all)
	}
}

func TestP1_3GetBytes(t *testing.T) {
	for _, c := range []struct {
		b    string
		at   int
		data string
		next int
	}{
		{"\x00", 0, "", 1},
		{"ab\x00", 2, "", 3},
		{"\x06hey", 0, "hey", 4},
		{"x\x06hey", 1, "hey", 5},
		{"x\x06hey\xff", 1, "hey", 5},
		{"\x06\x00\xff\x80\x00", 0, "\x00\xff\x80", 4},
		{"\x80\x01" + strings.Repeat("z", 64), 0, strings.Repeat("z", 64), 66},
		{"\x7e" + strings.Repeat("z", 64), 0, strings.Repeat("z", 63), 64},
	} {
		data, next, e := GetBytes([]byte(c.b), c.at)
		if string(data) != c.data || next != c.next || e != api.OK {
			t.Errorf("GetBytes(%q, %d) = %q, %d, %d", c.b, c.at, data, next, e)
		}
	}
}

func TestP1_3GetBytesErrors(t *testing.T) {
	cases := append(wrongForms(), []wrongForm{
		{"\x01", 0, api.ErrSyntax}, {"\x01abc", 0, api.ErrSyntax}, {"\x03", 0, api.ErrSyntax}, {"x\x7fabc", 1, api.ErrSyntax},
		{string(formOf(math.MinInt64)), 0, api.ErrSyntax}, {string(formOf(-65)) + "abc", 0, api.ErrSyntax},

		{"\x02", 0, api.ErrShort}, {"\x04a", 0, api.ErrShort}, {"\x08hey", 0, api.ErrShort}, {"xyz\x04a", 3, api.ErrShort},
		{string(formOf(math.MaxInt64)), 0, api.ErrShort}, {"x" + string(formOf(math.MaxInt64)) + "abc", 1, api.ErrShort},
		{string(formOf(1<<32)) + "abc", 0, api.ErrShort}, {"\x80\x01" + strings.Repeat("z", 63), 0, api.ErrShort},
	}...)
	for _, c := range cases {
		data, next, e := GetBytes([]byte(c.b), c.at)
		if len(data) != 0 || next != 0 || e != c.e {
			t.Errorf("GetBytes(%x, %d) = %q, %d, %d, want the error %d", c.b, c.at, data, next, e, c.e)
		}
	}
	if data, next, e := GetBytes(nil, 0); len(data) != 0 || next != 0 || e != api.ErrShort {
		t.Errorf("GetBytes(nil, 0) = %q, %d, %d", data, next, e)
	}
}

func TestP1_3GetBytesLooksAtNothingBeyondTheLength(t *testing.T) {
	b, all := spared("\x06he", "y")
	if data, next, e := GetBytes(b, 0); len(data) != 0 || next != 0 || e != api.ErrShort {
		t.Errorf("GetBytes = %q, %d, %d", data, next, e)
	}
	if string(all) != "\x06hey" {
		t.Errorf("GetBytes changed its argument: %x", all)
	}
}

func TestP1_3GetBytesIsNewMemory(t *testing.T) {
	b := []byte("\x06heyTAIL")
	data, _, _ := GetBytes(b, 0)
	b[1] = 'H'
	if string(data) != "hey" {
		t.Errorf("the result follows the argument: %q", data)
	}
	clear(data[:cap(data)])
	if string(b) != "\x06HeyTAIL" {
		t.Errorf("the argument follows the result: %q", b)
	}
	b, all := spared("\x00", "TAIL")
	empty, _, _ := GetBytes(b, 0)
	clear(empty[:cap(empty)])
	if string(all) != "\x00TAIL" {
		t.Errorf("an empty result reaches beyond the length of the argument: %q", all)
	}
}

func TestP1_4Hash(t *testing.T) {
	for _, c := range []struct {
		b    string
		want uint64
	}{
		{"", 14695981039346656037}, {"a", 0xaf63dc4c8601ec8c}, {"b", 0xaf63df4c8601f1a5}, {"foobar", 0x85944171f73967e8},
	} {
		if got := Hash([]byte(c.b)); got != c.want {
			t.Errorf("Hash(%q) = %x, want %x", c.b, got, c.want)
		}
	}
	if Hash(nil) != Hash([]byte{}) {
		t.Error("nil and empty bytes have different hashes")
	}
	for c := range 256 {
		for _, before := range []string{"", "ab", "\x00\x00", strings.Repeat("\xff", 100)} {
			b, all := spared(before+string([]byte{byte(c)}), "TAIL")
			kept := string(all)
			h := fnv.New64a()
			h.Write(b)
			if got := Hash(b); got != h.Sum64() || string(all) != kept {
				t.Errorf("Hash(%x) = %x, want %x", b, got, h.Sum64())
			}
		}
	}
}

func TestConsequenceWhatWasPutIsGotAgain(t *testing.T) {
	var b []byte
	var starts []int
	list := numbers()
	for _, n := range list {
		starts = append(starts, len(b))
		b = PutInt(b, n)
		b = PutBytes(b, b[starts[len(starts)-1]:])
	}
	for i, n := range list {
		got, at, e := GetInt(b, starts[i])
		if got != n || e != api.OK {
			t.Errorf("got %d (error %d), want %d", got, e, n)
		}
		data, next, e := GetBytes(b, at)
		if !bytes.Equal(data, formOf(n)) || e != api.OK {
			t.Errorf("after %d: got %x (error %d)", n, data, e)
		}
		if i+1 < len(list) && next != starts[i+1] || i+1 == len(list) && next != len(b) {
			t.Errorf("after %d: the next offset is %d", n, next)
		}
	}
}

func TestConsequenceNoFormBeginsAnother(t *testing.T) {
	list := numbers()
	for n := int64(-300); n <= 300; n++ {
		list = append(list, n*n*n, n*1001)
	}
	for _, n := range list {
		for _, m := range list {
			if n != m && bytes.HasPrefix(PutInt(nil, m), PutInt(nil, n)) {
				t.Errorf("the form of %d begins that of %d", n, m)
			}
		}
	}
}

// expected finds the number at an offset that is in range by the definition: it reads all bytes up to the last one of the number as an exact number, and compares with the shortest form.
func expected(b []byte, at int) (int64, int, api.Errno) {
	rest := b[at:]
	last := 0
	for last < len(rest) && rest[last] >= 128 {
		last++
	}
	if last >= 10 {
		return 0, 0, api.ErrSyntax
	}
	if last == len(rest) {
		return 0, 0, api.ErrShort
	}
	u := new(big.Int)
	for i := last; i >= 0; i-- {
		u.Mul(u, big.NewInt(128)).Add(u, big.NewInt(int64(rest[i]&127)))
	}
	n := new(big.Int).Rsh(u, 1)
	if u.Bit(0) == 1 {
		n.Neg(n).Sub(n, big.NewInt(1))
	}
	if !n.IsInt64() || !bytes.Equal(formOf(n.Int64()), rest[:last+1]) {
		return 0, 0, api.ErrSyntax
	}
	return n.Int64(), at + last + 1, api.OK
}

// eachText calls look with each text of at most length bytes of the alphabet.
func eachText(alphabet string, length int, look func(text string)) {
	var extend func(text string)
	extend = func(text string) {
		look(text)
		for i := 0; len(text) < length && i < len(alphabet); i++ {
			extend(text + alphabet[i:i+1])
		}
	}
	extend("")
}

func TestP1AllTextsAndOffsets(t *testing.T) {
	look := func(text string) {
		b := []byte(text)
		for at := -2; at <= len(b)+2; at++ {
			n, next, e := GetInt(b, at)
			data, end, eBytes := GetBytes(b, at)
			if at < 0 || at > len(b) {
				if n != 0 || next != 0 || e != api.ErrRange || len(data) != 0 || end != 0 || eBytes != api.ErrRange {
					t.Errorf("%x at %d: errors %d and %d", b, at, e, eBytes)
				}
				continue
			}
			wantN, wantNext, want := expected(b, at)
			if n != wantN || next != wantNext || e != want {
				t.Errorf("GetInt(%x, %d) = %d, %d, %d, want %d, %d, %d", b, at, n, next, e, wantN, wantNext, want)
			}
			wantData, wantEnd := []byte(nil), 0
			switch {
			case want != api.OK:
			case wantN < 0:
				want = api.ErrSyntax
			case wantN > int64(len(b)-wantNext):
				want = api.ErrShort
			default:
				wantEnd = wantNext + int(wantN)
				wantData = b[wantNext:wantEnd]
			}
			if !bytes.Equal(data, wantData) || end != wantEnd || eBytes != want {
				t.Errorf("GetBytes(%x, %d) = %x, %d, %d, want %x, %d, %d", b, at, data, end, eBytes, wantData, wantEnd, want)
			}
		}
		if string(b) != text {
			t.Errorf("the argument %x became %x", text, b)
		}
	}
	alphabet := "\x00\x01\x02\x04\x7f\x80\xff"
	eachText(alphabet, 4, look)
	eachText(alphabet, 3, func(end string) {
		for groups := 6; groups <= 10; groups++ {
			look(strings.Repeat("\x80", groups) + end)
			look(strings.Repeat("\xff", groups) + end)
		}
	})
}
