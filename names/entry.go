package names

import (
	"slices"
	"strings"

	"clusterkernel/api"
)

// areEntries tells whether a list has only valid entries, in strictly ascending order of their paths.
func areEntries(list []api.Name) bool {
	for i, n := range list {
		if !isEntry(n) || i > 0 && list[i-1].Path >= n.Path {
			return false
		}
	}
	return true
}

func isEntry(n api.Name) bool {
	return Path(n.Path) && len(n.IDs) >= 1 && len(n.IDs) <= mostIDs(n.Kind) && !slices.Contains(n.IDs, 0)
}

// mostIDs returns how many identifiers an entry of a kind has at most: 0 if there are no such entries.
func mostIDs(kind int) int {
	switch kind {
	case api.KindFile, api.KindPort, api.KindSemaphore, api.KindDevice:
		return 1
	case api.KindPage:
		return api.MaxPages
	}
	return 0
}

// position returns where in a list in order the entry of a path is, or would be, and whether there is one.
func position(list []api.Name, path string) (int, bool) {
	return slices.BinarySearchFunc(list, path, func(n api.Name, path string) int { return strings.Compare(n.Path, path) })
}

func copied(n api.Name) api.Name {
	n.IDs = slices.Clone(n.IDs)
	return n
}

func allCopied(list []api.Name) []api.Name {
	var copies []api.Name
	for _, n := range list {
		copies = append(copies, copied(n))
	}
	return copies
}
