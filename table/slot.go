package table

import "clusterkernel/api"

func isNone(s api.Slot) bool {
	return s.Kind == api.SlotNone
}

func isSlot(s api.Slot) bool {
	if isNone(s) {
		return s == api.Slot{}
	}
	return s.Kind > api.SlotNone && s.Kind <= api.SlotDevice &&
		s.Target != 0 && (s.Description != 0) == (s.Kind == api.SlotFile) && hasEnd(s)
}

func hasEnd(s api.Slot) bool {
	return s.End == 0 || s.End == 1 && s.Kind == api.SlotChannel
}

// holder returns the identifier and the kind of the object that counts s: zeros if there is none.
func holder(s api.Slot) (id uint64, kind int) {
	if !isSlot(s) {
		return 0, 0
	}
	switch s.Kind {
	case api.SlotFile:
		return s.Description, api.KindDescription
	case api.SlotReader, api.SlotWriter:
		return s.Target, api.KindPipe
	case api.SlotChannel:
		return s.Target, api.KindChannel
	case api.SlotPort:
		return s.Target, api.KindPort
	}
	return 0, 0
}
