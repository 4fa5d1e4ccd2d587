package store

import (
	"clusterkernel/api"
	"clusterkernel/channel"
	"clusterkernel/device"
	"clusterkernel/file"
	"clusterkernel/names"
	"clusterkernel/page"
	"clusterkernel/pipe"
	"clusterkernel/process"
	"clusterkernel/semaphore"
)

// kind is what the objects of a kind have in common: which of them are valid, and what comes after their Kind and ID in their bytes.
type kind struct {
	valid func(o api.Object) bool
	write func(w *writer, o api.Object)
	read  func(r *reader) api.Object
}

func kinds() map[int]kind {
	return map[int]kind{
		api.KindProcess:     {process.Valid, (*writer).process, (*reader).process},
		api.KindPage:        {page.Valid, (*writer).page, (*reader).page},
		api.KindFile:        {file.Valid, (*writer).file, (*reader).file},
		api.KindDescription: {file.ValidOpen, (*writer).description, (*reader).description},
		api.KindPipe:        {pipe.Valid, (*writer).pipe, (*reader).pipe},
		api.KindPort:        {channel.ValidPort, (*writer).port, (*reader).port},
		api.KindChannel:     {channel.Valid, (*writer).channel, (*reader).channel},
		api.KindSemaphore:   {semaphore.Valid, (*writer).counter, (*reader).counter},
		api.KindDevice:      {device.Valid, (*writer).counter, (*reader).counter},
		api.KindNames:       {names.Valid, (*writer).names, (*reader).names},
	}
}

// ValidObject tells whether o is valid as its Kind says.
func ValidObject(o api.Object) bool {
	k, known := kinds()[o.Kind]
	return known && k.valid(o)
}

// Encode returns the bytes of o.
func Encode(o api.Object) ([]byte, api.Errno) {
	k, known := kinds()[o.Kind]
	if !known || !k.valid(o) {
		return nil, api.ErrInvalid
	}
	w := &writer{}
	w.integer(o.Kind)
	w.id(o.ID)
	k.write(w, o)
	return w.bytes, api.OK
}

// Decode returns the object of which Encode returns b.
func Decode(b []byte) (api.Object, api.Errno) {
	r := &reader{rest: b}
	number, id := r.integer(), r.id()
	k, known := kinds()[number]
	if !known {
		return api.Object{}, api.ErrSyntax
	}
	o := k.read(r)
	o.Kind, o.ID = number, id
	if r.failed || len(r.rest) > 0 || !k.valid(o) {
		return api.Object{}, api.ErrSyntax
	}
	return o, api.OK
}
