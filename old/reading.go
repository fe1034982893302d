package old

import (
	"slices"

	"vaultkeel/api"
	"vaultkeel/num"
)

// fault ends a reading. It is a type of its own, so that no other panic is taken for one.
type fault struct{ api.Errno }

// reading of an image of old, from the left.
type reading struct {
	rest    []byte // what is not read yet
	at      int    // where the next object is to stand in the image of now
	objects []object
	roots   []api.Root
}

// read gives the objects, with the places that they are to have, and the roots of an image of old; or its first fault. The bytes of objects are those of b, no copy.
func read(b []byte) (objects []object, roots []api.Root, err error) {
	defer func() {
		switch f := recover().(type) {
		case nil:
		case fault:
			objects, roots, err = nil, nil, f.Errno
		default:
			panic(f) // a mistake of the program is not told as one of what it reads
		}
	}()
	r := reading{rest: b, at: api.Head}
	r.all()
	return r.objects, r.roots, nil
}

// need ends the reading if it is not so.
func need(isSo bool, e api.Errno) {
	if !isSo {
		panic(fault{e})
	}
}

func (r *reading) all() {
	need(string(r.take(len(beginning))) == beginning, api.ErrSyntax)
	for range r.count(api.MaxHandles) {
		r.object()
	}
	for range r.count(api.MaxRoots) {
		r.root()
	}
	need(len(r.rest) == 0, api.ErrSyntax)
}

func (r *reading) object() {
	handle := r.handle()
	need(!r.has(handle), api.ErrClash)
	tag := r.number(1)
	need(tag <= api.MaxTag, api.ErrRange)
	size := r.number(lenSize)
	need(1 <= size && size <= api.MaxObject, api.ErrRange)
	body := r.take(size) // ahead of asking for room: bytes that lack are told first
	need(size <= api.MaxImage-r.at, api.ErrFull)
	place := api.Extent{At: r.at, Len: size}
	r.objects = append(r.objects, object{Entry: api.Entry{Handle: handle, Extent: place, Tag: tag}, body: body})
	r.at += size
}

func (r *reading) root() {
	name, err := num.GetName(r.take(api.MaxName))
	need(err == nil, api.ErrSyntax)
	need(!r.leads(name), api.ErrClash)
	handle := r.handle()
	need(r.has(handle), api.ErrNone)
	r.roots = append(r.roots, api.Root{Name: name, Handle: handle})
}

func (r *reading) handle() int {
	handle := r.number(1)
	need(1 <= handle && handle <= api.MaxHandles, api.ErrRange)
	return handle
}

// count reads how many come, at most so many.
func (r *reading) count(most int) int {
	n := r.number(1)
	need(n <= most, api.ErrSyntax)
	return n
}

func (r *reading) number(size int) int {
	n, _ := num.Get(r.take(size), 0, size) // no error is left: all its bytes are there
	return n
}

// take reads n bytes.
func (r *reading) take(n int) []byte {
	need(n <= len(r.rest), api.ErrSyntax)
	b := r.rest[:n]
	r.rest = r.rest[n:]
	return b
}

// has tells whether an object of that handle was read.
func (r *reading) has(handle int) bool {
	return slices.ContainsFunc(r.objects, func(o object) bool { return o.Handle == handle })
}

// leads tells whether a root of that name was read.
func (r *reading) leads(name string) bool {
	return slices.ContainsFunc(r.roots, func(o api.Root) bool { return o.Name == name })
}
