package store

import (
	"clusterkernel/api"
	"clusterkernel/pack"
)

// writer writes the parts of an object, one after the other. Each method is the counterpart of one of reader.
type writer struct{ bytes []byte }

// number lets pack begin anew each time, as pack copies all that it puts something behind.
func (w *writer) number(n int64) {
	w.bytes = append(w.bytes, pack.PutInt(nil, n)...)
}

func (w *writer) integer(n int) {
	w.number(int64(n))
}

func (w *writer) id(id uint64) {
	w.number(int64(id))
}

func (w *writer) flag(b bool) {
	if b {
		w.number(1)
	} else {
		w.number(0)
	}
}

func (w *writer) data(b []byte) {
	w.bytes = append(w.bytes, pack.PutBytes(nil, b)...)
}

func (w *writer) text(s string) {
	w.data([]byte(s))
}

// writeList writes how many elements l has, and each of them.
func writeList[T any](w *writer, l []T, write func(*writer, T)) {
	w.integer(len(l))
	for _, x := range l {
		write(w, x)
	}
}

func (w *writer) page(o api.Object) {
	for _, word := range o.Words {
		w.number(word)
	}
}

func (w *writer) file(o api.Object) {
	w.data(o.Data)
}

func (w *writer) description(o api.Object) {
	w.id(o.Target)
	w.integer(o.Refs)
	w.integer(o.Offset)
}

func (w *writer) pipe(o api.Object) {
	w.integer(o.Readers)
	w.integer(o.Writers)
	w.data(o.Data)
}

func (w *writer) port(o api.Object) {
	w.integer(o.Refs)
	writeList(w, o.Backlog, (*writer).id)
}

func (w *writer) channel(o api.Object) {
	w.integer(o.Ends[0])
	w.integer(o.Ends[1])
	w.data(o.Queues[0])
	w.data(o.Queues[1])
}

// counter writes a semaphore or a device.
func (w *writer) counter(o api.Object) {
	w.number(o.Count)
}

func (w *writer) names(o api.Object) {
	writeList(w, o.Names, (*writer).name)
}

func (w *writer) name(n api.Name) {
	w.text(n.Path)
	w.integer(n.Kind)
	writeList(w, n.IDs, (*writer).id)
}

func (w *writer) process(o api.Object) {
	p := o.Process
	w.integer(p.State)
	w.id(p.Parent)
	w.number(p.Status)
	w.number(p.Alarm)
	w.number(p.Pending)
	w.cpu(p.CPU)
	writeList(w, p.Children, (*writer).id)
	writeList(w, p.Pages, (*writer).pageRef)
	writeList(w, p.Table, (*writer).slot)
	w.program(p.Program)
}

func (w *writer) cpu(c api.CPU) {
	w.integer(c.PC)
	for _, n := range c.Regs {
		w.number(n)
	}
}

func (w *writer) pageRef(p api.PageRef) {
	w.id(p.ID)
	w.flag(p.Shared)
}

func (w *writer) slot(s api.Slot) {
	w.integer(s.Kind)
	w.id(s.Description)
	w.id(s.Target)
	w.integer(s.End)
}

func (w *writer) program(p api.Program) {
	w.integer(p.Pages)
	writeList(w, p.Strings, (*writer).text)
	writeList(w, p.Code, (*writer).instr)
}

func (w *writer) instr(x api.Instr) {
	w.integer(x.Op)
	w.integer(x.A)
	w.integer(x.B)
	w.integer(x.C)
}
