package quire

import (
	"quire/api"
	"quire/doc"
)

// inCopy finds a copy. A nil room, as New answers beside an error, has none.
func (r *Room) inCopy(c int) (*replica, api.Errno) {
	if r == nil || c < 0 || c >= len(r.copies) {
		return nil, api.ErrCopy
	}
	return r.copies[c], api.OK
}

// onLink finds a link. A nil room has none.
func (r *Room) onLink(from, to int) (*link, api.Errno) {
	if r == nil {
		return nil, api.ErrLink
	}
	l, there := r.links[ends{from, to}]
	if !there {
		return nil, api.ErrLink
	}
	return l, api.OK
}

// onUsedLink finds a link on which something waits.
func (r *Room) onUsedLink(from, to int) (*link, api.Errno) {
	l, e := r.onLink(from, to)
	switch {
	case e != api.OK:
		return nil, e
	case l.waiting() == 0:
		return nil, api.ErrEmpty
	}
	return l, api.OK
}

// inObject finds a copy that has such an object, a list or a map as is asked for.
func (r *Room) inObject(c int, object api.Id, list bool) (*replica, api.Errno) {
	w, e := r.inCopy(c)
	switch {
	case e != api.OK:
		return nil, e
	case !w.document().Has(object):
		return nil, api.ErrObject
	case w.document().IsList(object) != list:
		return nil, api.ErrKind
	}
	return w, api.OK
}

// atKey finds a copy, and the place of a key in it.
func (r *Room) atKey(c int, object api.Id, key string) (*replica, doc.Place, api.Errno) {
	w, e := r.inObject(c, object, false)
	switch {
	case e != api.OK:
		return nil, doc.Place{}, e
	case !isKey(key):
		return nil, doc.Place{}, api.ErrKey
	}
	return w, doc.KeyOf(object, key), api.OK
}

// atGap finds a copy in which something may be laid into the list at this index.
func (r *Room) atGap(c int, list api.Id, index int) (*replica, api.Errno) {
	w, e := r.inObject(c, list, true)
	switch {
	case e != api.OK:
		return nil, e
	case index < 0 || index > len(w.document().Elements(list)):
		return nil, api.ErrIndex
	}
	return w, api.OK
}

// atElement finds a copy, and the place of the element with this index in it.
func (r *Room) atElement(c int, list api.Id, index int) (*replica, doc.Place, api.Errno) {
	w, e := r.inObject(c, list, true)
	if e != api.OK {
		return nil, doc.Place{}, e
	}
	elements := w.document().Elements(list)
	if index < 0 || index >= len(elements) {
		return nil, doc.Place{}, api.ErrIndex
	}
	return w, doc.ElementOf(list, elements[index]), api.OK
}

func isKey(text string) bool {
	if len(text) < 1 || len(text) > api.MaxKey {
		return false
	}
	for i := range len(text) {
		if text[i] < 'a' || text[i] > 'z' {
			return false
		}
	}
	return true
}
