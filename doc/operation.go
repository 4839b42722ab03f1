// Package doc: operations, and the document of maps and lists that they make.
package doc

import (
	"cmp"

	"quire/api"
)

// Operation is one change of a document, under an Id that no other operation has; it is the Nth (from 1 on) of the copy that made it.
type Operation struct {
	Id     api.Id
	Nth    int
	Change Change
}

// Change is what an operation does: a Make, Lay, Give or Take.
type Change interface {
	do(d *Document, id api.Id)
}

// Make makes an object, a list or a map; nothing refers to it yet.
type Make struct {
	List bool
}

// Lay lays an element into a list, directly behind another one; behind the zero Id is the beginning.
type Lay struct {
	List, Behind api.Id
}

// Give gives a place a value, instead of those that the named operations gave.
type Give struct {
	Place   Place
	Value   api.Value
	Instead []api.Id
}

// Take takes from a place the values that the named operations gave.
type Take struct {
	Place Place
	Gone  []api.Id
}

// Place is where values are: a key of a map, or, as no key is empty, with an empty one an element of a list.
type Place struct {
	Object  api.Id
	Key     string
	Element api.Id
}

// KeyOf is the place of a key.
func KeyOf(object api.Id, key string) Place {
	return Place{Object: object, Key: key}
}

// ElementOf is the place of an element.
func ElementOf(list, element api.Id) Place {
	return Place{Object: list, Element: element}
}

// Compare tells the order of two Ids: below 0, 0 or above 0.
func Compare(a, b api.Id) int {
	return cmp.Or(cmp.Compare(a.Counter, b.Counter), cmp.Compare(a.Copy, b.Copy))
}
