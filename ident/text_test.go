package ident

import (
	"fmt"
	"math/big"
	"regexp"
	"strings"
	"testing"

	"clusterkernel/api"
)

func TestP3_2Format(t *testing.T) {
	for want, id := range map[string]uint64{
		"0.0.0": 0, "0.0.1": api.Root, "2.3.4": 144118486610739204, "0.0.10": 10, "10.0.0": 10 << 56, "0.10.0": 10 << 40, "0.1.0": 1 << 40,
		"127.65535.1099511627775": 1<<63 - 1, "128.0.0": 1 << 63, "255.65535.1099511627775": 1<<64 - 1,
	} {
		if got := Format(id); got != want {
			t.Errorf("Format(%d) = %q, want %q", id, got, want)
		}
	}
	for _, id := range anyIDs() {
		want := fmt.Sprintf("%d.%d.%d", id>>56, id>>40%65536, id%(1<<40))
		if got := Format(id); got != want {
			t.Errorf("Format(%d) = %q, want %q", id, got, want)
		}
	}
}

func checkParse(t *testing.T, s string, want uint64, wantE api.Errno) {
	t.Helper()
	if id, e := Parse(s); id != want || e != wantE {
		t.Errorf("Parse(%q) = %d, %d, want %d, %d", s, id, e, want, wantE)
	}
}

func TestP3_2Parse(t *testing.T) {
	checkParse(t, "0.0.1", api.Root, api.OK)
	checkParse(t, "2.3.4", 144118486610739204, api.OK)
	checkParse(t, "0.0.10", 10, api.OK)
	checkParse(t, "0.0.1099511627775", 1<<40-1, api.OK)
	checkParse(t, "0.65535.1", 65535<<40+1, api.OK)
	checkParse(t, "127.0.1", 127<<56+1, api.OK)
	checkParse(t, "127.65535.1099511627775", 1<<63-1, api.OK)
	for _, id := range anyIDs() {
		if Valid(id) {
			checkParse(t, Format(id), id, api.OK)
		} else {
			checkParse(t, Format(id), 0, api.ErrRange)
		}
	}
}

// pastWords are numbers that do not fit into 64 bits, though the low bits of some of them would do.
func pastWords() []string {
	return []string{
		"9223372036854775808", "9223372036854775809", "18446744073709551615", "18446744073709551616", "18446744073709551617", "36893488147419103233",
		"99999999999999999999", "1" + strings.Repeat("0", 1000),
	}
}

// pastRanges are numbers that fit into 64 bits, but are too great for any number of an identifier.
func pastRanges() []string {
	return []string{"1099511627776", "1099511627777", "4503599627370497", "72057594037927936", "72057594037927937", "4611686018427387905", "9223372036854775807"}
}

func TestP3_2ParseRange(t *testing.T) {
	for _, s := range []string{
		"128.0.1", "129.0.1", "255.0.1", "256.0.1", "257.0.1", "4294967296.0.1", "4294967297.0.1",
		"0.65536.1", "0.65537.1", "0.131072.1", "0.4294967296.1", "0.4294967297.1",
		"0.0.0", "1.2.0", "127.65535.0", "0.0.1099511627776", "128.65536.0", "128.65536.1099511627776",
	} {
		checkParse(t, s, 0, api.ErrRange)
	}
	for _, n := range append(pastWords(), pastRanges()...) {
		checkParse(t, n+".0.1", 0, api.ErrRange)
		checkParse(t, "0."+n+".1", 0, api.ErrRange)
		checkParse(t, "0.0."+n, 0, api.ErrRange)
		checkParse(t, n+"."+n+"."+n, 0, api.ErrRange)
		checkParse(t, "128."+n+".0", 0, api.ErrRange)
	}
}

// notNumbers are no decimal numbers, at least not without signs and leading zeros.
func notNumbers() []string {
	return []string{
		"", "-", "-0", "-1", "-128", "--1", "+", "+0", "+1", "00", "01", "-01", "007", "1-", "1+", " ", " 1", "1 ", "1\n", "\t1", "a", "1a", "a1",
		"0x1", "1_0", "1e2", "1,0", "1:", "/1", "\x00", "1\x00", "\xff", "\xb1", "٣", "１", "−1",
		"-9223372036854775808", "-9223372036854775809", "-99999999999999999999", "+99999999999999999999", "099999999999999999999", "99999999999999999999x",
	}
}

func TestP3_2ParseSyntax(t *testing.T) {
	for _, s := range []string{
		"", ".", "..", "...", "0", "1", "0.1", "1.2", "1.2.", "1..2", ".1.2", "1.2..", "..1", "1...2", ".1.2.3", "1.2.3.", "1.2.3.4", "1.2..3", "1..2.3", "0.0.1.",
		" 1.2.3", "1.2.3 ", "1. 2.3", "1.2.3\n", "1,2,3", "1:2:3", "1-2-3", "1.2,3", "1 2 3", "1.2\x003", "1。2。3",
		"128.0", "128.65536", "99999999999999999999", "99999999999999999999.1", "128.0.1.0", "0.0.0.0", "99999999999999999999.99999999999999999999.99999999999999999999.",
		strings.Repeat(".", 1<<16), strings.Repeat("1.", 1<<16), strings.Repeat("1", 1<<16),
	} {
		checkParse(t, s, 0, api.ErrSyntax)
	}
	for _, n := range notNumbers() {
		for _, other := range []string{"1", "0", "70000", "99999999999999999999", "x"} {
			checkParse(t, n+"."+other+"."+other, 0, api.ErrSyntax)
			checkParse(t, other+"."+n+"."+other, 0, api.ErrSyntax)
			checkParse(t, other+"."+other+"."+n, 0, api.ErrSyntax)
		}
	}
	for c := range 256 {
		text := string([]byte{byte(c)})
		if c >= '0' && c <= '9' {
			continue
		}
		for _, before := range []string{"1", "1.2", "1.2.3", "9999.9999999", "1.2.99999999999999999999"} {
			checkParse(t, before+text, 0, api.ErrSyntax)
			checkParse(t, text+before, 0, api.ErrSyntax)
		}
		if c != '.' {
			checkParse(t, "1"+text+"2.3", 0, api.ErrSyntax)
			checkParse(t, "1.2"+text+"3", 0, api.ErrSyntax)
			checkParse(t, "1."+text+"2.3", 0, api.ErrSyntax)
			checkParse(t, "1.2."+text+"3", 0, api.ErrSyntax)
		}
	}
}

var form = regexp.MustCompile(`\A(0|[1-9][0-9]*)\.(0|[1-9][0-9]*)\.(0|[1-9][0-9]*)\z`)

// exactly writes P3.2 down with a pattern and with exact numbers.
func exactly(s string) (uint64, api.Errno) {
	parts := form.FindStringSubmatch(s)
	if parts == nil {
		return 0, api.ErrSyntax
	}
	id := new(big.Int)
	for i, most := range []int64{api.MaxNode, api.MaxBoot, api.MaxSerial} {
		n, _ := new(big.Int).SetString(parts[i+1], 10)
		if n.Cmp(big.NewInt(most)) > 0 || i == 2 && n.Sign() == 0 {
			return 0, api.ErrRange
		}
		id.Mul(id, big.NewInt(most+1)).Add(id, n)
	}
	return id.Uint64(), api.OK
}

func TestP3_2ParseAllTexts(t *testing.T) {
	var extend func(text string)
	extend = func(text string) {
		id, e := exactly(text)
		checkParse(t, text, id, e)
		for i := 0; len(text) < 7 && i < len("01.-"); i++ {
			extend(text + "01.-"[i:i+1])
		}
	}
	extend("")
}

func TestP3_2ParseAllTriples(t *testing.T) {
	parts := append([]string{
		"0", "1", "9", "10", "126", "127", "128", "65535", "65536", "1099511627774", "1099511627775", "1099511627776",
		"", "-1", "01", "x", "1.1",
	}, pastWords()...)
	for _, node := range parts {
		for _, boot := range parts {
			for _, serial := range parts {
				s := node + "." + boot + "." + serial
				id, e := exactly(s)
				checkParse(t, s, id, e)
			}
		}
	}
}
