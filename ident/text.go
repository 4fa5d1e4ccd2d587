package ident

import (
	"strings"

	"clusterkernel/api"
	"clusterkernel/words"
)

const (
	point = "."
	minus = "-"
)

// Format returns the text of id, node.boot.serial in decimal.
func Format(id uint64) string {
	node, boot, serial := Split(id)
	return words.Format(int64(node)) + point + words.Format(int64(boot)) + point + words.Format(serial)
}

// Parse returns the identifier that s is the text of.
func Parse(s string) (uint64, api.Errno) {
	node, rest, _ := strings.Cut(s, point) // without a point the rest is empty, and so not a number
	boot, serial, _ := strings.Cut(rest, point)
	numbers, e := readNumbers([3]string{node, boot, serial})
	if e != api.OK {
		return 0, e
	}
	return build(numbers[0], numbers[1], numbers[2])
}

// readNumbers reads all three numbers before it says that one is too great, because a wrong form of any of them comes first.
func readNumbers(parts [3]string) ([3]int64, api.Errno) {
	var numbers [3]int64
	found := api.OK
	for i, part := range parts {
		n, e := readNumber(part)
		if e == api.ErrSyntax {
			return [3]int64{}, e
		}
		if e != api.OK {
			found = e
		}
		numbers[i] = n
	}
	return numbers, found
}

func readNumber(s string) (int64, api.Errno) {
	if strings.HasPrefix(s, minus) {
		return 0, api.ErrSyntax
	}
	return words.Number(s)
}
