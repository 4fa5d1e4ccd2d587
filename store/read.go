package store

import (
	"clusterkernel/api"
	"clusterkernel/pack"
)

// longest is the greatest length of a list in a valid object.
const longest = max(api.MaxCode, api.MaxEntries)

// reader reads the parts of an object, one after the other, as writer writes them: the calls in a literal are made from left to right. What comes after the first part that cannot be read is zero.
type reader struct {
	rest   []byte
	failed bool
}

func (r *reader) fail() {
	r.rest, r.failed = nil, true
}

// goOn goes on at the index next, unless the part before it could not be read.
func (r *reader) goOn(next int, e api.Errno) {
	if e == api.OK {
		r.rest = r.rest[next:]
	} else {
		r.fail()
	}
}

func (r *reader) number() int64 {
	n, next, e := pack.GetInt(r.rest, 0)
	r.goOn(next, e)
	return n
}

func (r *reader) integer() int {
	return int(r.number())
}

func (r *reader) id() uint64 {
	return uint64(r.number())
}

func (r *reader) flag() bool {
	n := r.number()
	if n != 0 && n != 1 {
		r.fail()
	}
	return n == 1
}

func (r *reader) data() []byte {
	b, next, e := pack.GetBytes(r.rest, 0)
	r.goOn(next, e)
	return b
}

func (r *reader) text() string {
	return string(r.data())
}

// length takes no number that is too great for a valid object, so that a few bytes cannot ask for much memory.
func (r *reader) length() int {
	n := r.number()
	if n < 0 || n > longest {
		r.fail()
		return 0
	}
	return int(n)
}

func readList[T any](r *reader, read func(*reader) T) []T {
	var l []T
	for range r.length() {
		l = append(l, read(r))
	}
	return l
}

func (r *reader) page() api.Object {
	var o api.Object
	for range api.PageWords {
		o.Words = append(o.Words, r.number())
	}
	return o
}

func (r *reader) file() api.Object {
	return api.Object{Data: r.data()}
}

func (r *reader) description() api.Object {
	return api.Object{Target: r.id(), Refs: r.integer(), Offset: r.integer()}
}

func (r *reader) pipe() api.Object {
	return api.Object{Readers: r.integer(), Writers: r.integer(), Data: r.data()}
}

func (r *reader) port() api.Object {
	return api.Object{Refs: r.integer(), Backlog: readList(r, (*reader).id)}
}

func (r *reader) channel() api.Object {
	return api.Object{Ends: [2]int{r.integer(), r.integer()}, Queues: [2][]byte{r.data(), r.data()}}
}

// counter reads a semaphore or a device.
func (r *reader) counter() api.Object {
	return api.Object{Count: r.number()}
}

func (r *reader) names() api.Object {
	return api.Object{Names: readList(r, (*reader).name)}
}

func (r *reader) name() api.Name {
	return api.Name{Path: r.text(), Kind: r.integer(), IDs: readList(r, (*reader).id)}
}

func (r *reader) process() api.Object {
	return api.Object{Process: api.Process{
		State:    r.integer(),
		Parent:   r.id(),
		Status:   r.number(),
		Alarm:    r.number(),
		Pending:  r.number(),
		CPU:      r.cpu(),
		Children: readList(r, (*reader).id),
		Pages:    readList(r, (*reader).pageRef),
		Table:    readList(r, (*reader).slot),
		Program:  r.program(),
	}}
}

func (r *reader) cpu() api.CPU {
	c := api.CPU{PC: r.integer()}
	for i := range c.Regs {
		c.Regs[i] = r.number()
	}
	return c
}

func (r *reader) pageRef() api.PageRef {
	return api.PageRef{ID: r.id(), Shared: r.flag()}
}

func (r *reader) slot() api.Slot {
	return api.Slot{Kind: r.integer(), Description: r.id(), Target: r.id(), End: r.integer()}
}

func (r *reader) program() api.Program {
	return api.Program{Pages: r.integer(), Strings: readList(r, (*reader).text), Code: readList(r, (*reader).instr)}
}

func (r *reader) instr() api.Instr {
	return api.Instr{Op: r.integer(), A: r.integer(), B: r.integer(), C: r.integer()}
}
