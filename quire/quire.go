// Package quire: a document that several write at: see DOC.md.
package quire

import (
	"slices"

	"quire/api"
	"quire/doc"
)

// Room is copies of a document, and the links between them.
type Room struct {
	copies []*replica
	links  map[ends]*link
}

// New gives a room (P3).
func New(copies int, spacing int) (*Room, api.Errno) {
	if copies < 1 || copies > api.MaxCopies || spacing < 1 || spacing > api.MaxSpacing {
		return nil, api.ErrSize
	}
	r := &Room{links: newLinks(copies)}
	for number := range copies {
		r.copies = append(r.copies, newReplica(number, copies, spacing))
	}
	return r, api.OK
}

// Put gives a key of a map a number (P4).
func (r *Room) Put(c int, object api.Id, key string, n int) api.Errno {
	w, place, e := r.atKey(c, object, key)
	if e != api.OK {
		return e
	}
	return w.setNumber(place, n)
}

// Nest gives a key of a map a new object (P4).
func (r *Room) Nest(c int, object api.Id, key string, list bool) (api.Id, api.Errno) {
	w, place, e := r.atKey(c, object, key)
	switch {
	case e != api.OK:
		return api.Id{}, e
	case !w.mayMake(2):
		return api.Id{}, api.ErrFull
	}
	made := w.makeObject(list)
	w.give(place, api.Value{Object: made})
	return made, api.OK
}

// Cut takes a key of a map away (P4).
func (r *Room) Cut(c int, object api.Id, key string) api.Errno {
	w, place, e := r.atKey(c, object, key)
	switch {
	case e != api.OK:
		return e
	case len(w.document().Values(place)) == 0:
		return api.ErrNone
	}
	return w.cut(place)
}

// Insert lays a number into a list (P5).
func (r *Room) Insert(c int, list api.Id, index int, n int) (api.Id, api.Errno) {
	w, e := r.atGap(c, list, index)
	switch {
	case e != api.OK:
		return api.Id{}, e
	case !w.mayMake(2):
		return api.Id{}, api.ErrFull
	}
	element := w.layAt(list, index)
	w.give(doc.ElementOf(list, element), api.Value{Number: n})
	return element, api.OK
}

// NestAt lays a new object into a list (P5).
func (r *Room) NestAt(c int, list api.Id, index int, asList bool) (api.Id, api.Errno) {
	w, e := r.atGap(c, list, index)
	switch {
	case e != api.OK:
		return api.Id{}, e
	case !w.mayMake(3):
		return api.Id{}, api.ErrFull
	}
	made := w.makeObject(asList)
	element := w.layAt(list, index)
	w.give(doc.ElementOf(list, element), api.Value{Object: made})
	return made, api.OK
}

// SetAt gives an element of a list another number (P5).
func (r *Room) SetAt(c int, list api.Id, index int, n int) api.Errno {
	w, place, e := r.atElement(c, list, index)
	if e != api.OK {
		return e
	}
	return w.setNumber(place, n)
}

// CutAt takes an element out of a list (P5).
func (r *Room) CutAt(c int, list api.Id, index int) api.Errno {
	w, place, e := r.atElement(c, list, index)
	if e != api.OK {
		return e
	}
	return w.cut(place)
}

// Show tells a copy as text (P6).
func (r *Room) Show(c int) (string, api.Errno) {
	w, e := r.inCopy(c)
	if e != api.OK {
		return "", e
	}
	return w.document().Text(), api.OK
}

// Elements tells the elements of a list that can be seen (P6).
func (r *Room) Elements(c int, list api.Id) ([]api.Id, api.Errno) {
	w, e := r.inObject(c, list, true)
	if e != api.OK {
		return nil, e
	}
	return w.document().Elements(list), api.OK
}

// Values tells the values of a key (P6).
func (r *Room) Values(c int, object api.Id, key string) ([]api.Value, api.Errno) {
	w, place, e := r.atKey(c, object, key)
	if e != api.OK {
		return nil, e
	}
	return w.document().Values(place), api.OK
}

// Heard tells how many operations of each copy a copy has (P7).
func (r *Room) Heard(c int) ([]int, api.Errno) {
	w, e := r.inCopy(c)
	if e != api.OK {
		return nil, e
	}
	return slices.Clone(w.heard), api.OK
}

// Ask sends a question (P8).
func (r *Room) Ask(from int, to int) api.Errno {
	l, e := r.onLink(from, to)
	if e == api.OK {
		e = l.refusal()
	}
	if e != api.OK {
		return e
	}
	l.send(r.copies[from].question())
	return api.OK
}

// Deliver lets the first message of a link arrive (P9).
func (r *Room) Deliver(from int, to int) api.Errno {
	l, e := r.onUsedLink(from, to)
	if e != api.OK {
		return e
	}
	r.arrive(l.receive(), from, to)
	return api.OK
}

// arrive lets a message that came over a link in; the answer goes over the link back.
func (r *Room) arrive(m message, from, to int) {
	answer := m.arrive(r.copies[to], from)
	r.links[ends{to, from}].send(answer...)
}

// Waiting tells how many messages wait on a link (P8).
func (r *Room) Waiting(from int, to int) (int, api.Errno) {
	l, e := r.onLink(from, to)
	if e != api.OK {
		return 0, e
	}
	return l.waiting(), api.OK
}

// Lose drops the first message of a link (P10).
func (r *Room) Lose(from int, to int) api.Errno {
	l, e := r.onUsedLink(from, to)
	if e != api.OK {
		return e
	}
	l.receive()
	return api.OK
}

// Again puts the first message of a link behind the others once more (P10).
func (r *Room) Again(from int, to int) api.Errno {
	l, e := r.onUsedLink(from, to)
	if e == api.OK {
		e = l.refusal()
	}
	if e != api.OK {
		return e
	}
	l.again()
	return api.OK
}

// Later puts the first message of a link behind the others (P10).
func (r *Room) Later(from int, to int) api.Errno {
	l, e := r.onUsedLink(from, to)
	switch {
	case e != api.OK:
		return e
	case l.shut:
		return api.ErrShut
	}
	l.later()
	return api.OK
}

// Shut shuts a link (P11).
func (r *Room) Shut(from int, to int) api.Errno {
	l, e := r.onLink(from, to)
	switch {
	case e != api.OK:
		return e
	case l.shut:
		return api.ErrShut
	}
	l.close()
	return api.OK
}

// Drain lets all messages of a link that is shut arrive (P11).
func (r *Room) Drain(from int, to int) (int, api.Errno) {
	l, e := r.onLink(from, to)
	switch {
	case e != api.OK:
		return 0, e
	case !l.shut:
		return 0, api.ErrOpen
	}
	arrived := 0
	for m := range l.messages {
		r.arrive(m, from, to)
		arrived++
	}
	return arrived, api.OK
}

// Trim lets a copy forget operations that all have (P12).
func (r *Room) Trim(c int) (int, api.Errno) {
	w, e := r.inCopy(c)
	if e != api.OK {
		return 0, e
	}
	return w.trim(), api.OK
}

// Kept tells how many operations a copy remembers (P12).
func (r *Room) Kept(c int) (int, api.Errno) {
	w, e := r.inCopy(c)
	if e != api.OK {
		return 0, e
	}
	return w.history.Kept(), api.OK
}
