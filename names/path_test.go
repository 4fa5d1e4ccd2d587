package names

import (
	"regexp"
	"strings"
	"testing"

	"clusterkernel/api"
)

func expectPath(t *testing.T, s string, want bool) {
	t.Helper()
	if Path(s) != want {
		t.Errorf("Path(%.200q) = %t", s, !want)
	}
}

func TestP9_1Path(t *testing.T) {
	for _, s := range []string{"/a", "/z", "/0", "/9", "/-", "/_", "/abc", "/a/b", "/a/b/c/d/e", "/a-b_c/0-9", "/-/_", "/usr/lib/x86_64", "/0/00/000"} {
		expectPath(t, s, true)
	}
}

func TestP9_1PathExample(t *testing.T) {
	expectPath(t, "/a/b-1", true)
	expectPath(t, "/", false)
	expectPath(t, "a", false)
	expectPath(t, "/a/", false)
	expectPath(t, "/A", false)
}

func TestP9_1NoPath(t *testing.T) {
	for _, s := range []string{"", "/", "//", "a", "a/b", "ab", "/a/", "/a//", "//a", "/a//b", "///", "/a/b/", "/A", "/aB", "/a/B", " /a", "/a ", "/a b", "/a.b", "/..", "/.", "/a\x00", "\x00/a", "/\x00", "/a\n", "/é", "/aé", "\\a", "/a\\b", "/a:b", "/a,b", "/a+b", "é/a", "-/a", "_a", "/\xff", "/a\xff", "/ａ", "/١", "/K"} {
		expectPath(t, s, false)
	}
}

// TestP9_1PathBytes has each byte at each place of a path.
func TestP9_1PathBytes(t *testing.T) {
	for i := range 256 {
		c := string([]byte{byte(i)})
		letter := strings.Contains("abcdefghijklmnopqrstuvwxyz0123456789-_", c)
		expectPath(t, "/"+c, letter)
		expectPath(t, "/"+c+"a", letter)
		expectPath(t, "/a"+c, letter)
		expectPath(t, "/a"+c+"a", letter || c == "/")
		expectPath(t, "/a/"+c, letter)
		expectPath(t, "/a/"+c+"a/b", letter)
		expectPath(t, c+"a", c == "/")
		expectPath(t, c+"/a", false)
	}
}

func TestP9_1PathLength(t *testing.T) {
	for _, n := range []int{2, 3, 4, 63, 64, 65, 126, 127, 128} {
		expectPath(t, "/"+strings.Repeat("a", n-1), true)
	}
	for _, n := range []int{0, 1} {
		expectPath(t, "/"[:n], false)
	}
	for _, n := range []int{129, 130, 191, 192, 255, 256, 257, 384, 1 << 16, 1<<16 + 5, 1 << 22} {
		expectPath(t, "/"+strings.Repeat("a", n-1), false)
	}
	expectPath(t, strings.Repeat("/a", 64), true)
	expectPath(t, strings.Repeat("/a", 65), false)
	expectPath(t, strings.Repeat("/a", 63)+"/b", true)
	expectPath(t, strings.Repeat("/a", 63)+"b/", false)
	expectPath(t, strings.Repeat("/a", 63)+"bc", true)
	expectPath(t, strings.Repeat("/", 128), false)
	expectPath(t, strings.Repeat("a", 128), false)
}

// TestP9_1PathDefinition compares Path with the definition for all short strings of some bytes.
func TestP9_1PathDefinition(t *testing.T) {
	definition := regexp.MustCompile(`^(/[-_0-9a-z]+)+$`)
	list := []string{""}
	for range 6 {
		var longer []string
		for _, s := range list {
			expectPath(t, s, len(s) >= 2 && len(s) <= api.MaxPath && definition.MatchString(s))
			for _, c := range []string{"/", "a", "-", "A", "."} {
				longer = append(longer, s+c)
			}
		}
		list = longer
	}
}
