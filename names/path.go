package names

import (
	"strings"

	"clusterkernel/api"
)

// Path tells whether s is a path.
func Path(s string) bool {
	if len(s) > api.MaxPath || !strings.HasPrefix(s, "/") {
		return false
	}
	for _, part := range strings.Split(s[1:], "/") {
		if !isPart(part) {
			return false
		}
	}
	return true
}

// isPart tells whether s may stand behind a slash.
func isPart(s string) bool {
	for i := range len(s) {
		if !isLetter(s[i]) {
			return false
		}
	}
	return s != ""
}

func isLetter(c byte) bool {
	return c >= 'a' && c <= 'z' || c >= '0' && c <= '9' || c == '-' || c == '_'
}
