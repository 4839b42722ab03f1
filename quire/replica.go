package quire

import (
	"quire/api"
	"quire/doc"
)

// replica is one copy of the document.
type replica struct {
	number   int
	made     int // how many operations it has made
	greatest int // the greatest counter of all operations that it has
	document *doc.Document
}

func newReplica(number int) *replica {
	return &replica{number: number, document: doc.New()}
}

// mayMake tells whether the copy may make so many operations more.
func (w *replica) mayMake(operations int) bool {
	return w.made <= api.MaxOwn-operations
}

// write makes one operation.
func (w *replica) write(change doc.Change) api.Id {
	id := api.Id{Counter: w.greatest + 1, Copy: w.number}
	w.made++
	w.have(doc.Operation{Id: id, Change: change})
	return id
}

// have takes operations in, in the order of their Ids.
func (w *replica) have(operations ...doc.Operation) {
	for _, o := range operations {
		w.greatest = max(w.greatest, o.Id.Counter)
	}
	w.document.Do(operations...)
}

func (w *replica) makeObject(list bool) api.Id {
	return w.write(doc.Make{List: list})
}

// layAt lays an element so that it gets this index among those that can be seen.
func (w *replica) layAt(list api.Id, index int) api.Id {
	var behind api.Id
	if index > 0 {
		behind = w.document.Elements(list)[index-1]
	}
	return w.write(doc.Lay{List: list, Behind: behind})
}

// give makes a value the only one of a place.
func (w *replica) give(p doc.Place, v api.Value) {
	w.write(doc.Give{Place: p, Value: v, Instead: w.document.Givers(p)})
}

// setNumber makes a number the only value of a place, if the copy may still make an operation.
func (w *replica) setNumber(p doc.Place, n int) api.Errno {
	if !w.mayMake(1) {
		return api.ErrFull
	}
	w.give(p, api.Value{Number: n})
	return api.OK
}

// cut takes all values of a place away, if the copy may still make an operation.
func (w *replica) cut(p doc.Place) api.Errno {
	if !w.mayMake(1) {
		return api.ErrFull
	}
	w.write(doc.Take{Place: p, Gone: w.document.Givers(p)})
	return api.OK
}
