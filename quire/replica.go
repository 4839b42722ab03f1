package quire

import (
	"slices"

	"quire/api"
	"quire/doc"
	"quire/history"
)

// replica is one copy of the document.
type replica struct {
	number   int
	greatest int   // the greatest counter of all operations that it has
	heard    []int // how many operations of each copy it has
	history  *history.History
	early    map[place]doc.Operation // those that came ahead of earlier ones of their copy
}

// place is the one of an operation among those of its copy.
type place struct {
	copy, nth int
}

func newReplica(number, copies, spacing int) *replica {
	return &replica{
		number:  number,
		heard:   make([]int, copies),
		history: history.New(spacing),
		early:   map[place]doc.Operation{},
	}
}

// document is to be asked for anew whenever operations have come.
func (w *replica) document() *doc.Document {
	return w.history.Document()
}

func (w *replica) question() question {
	return slices.Clone(w.heard)
}

// mayMake tells whether the copy may make so many operations more.
func (w *replica) mayMake(operations int) bool {
	return w.heard[w.number] <= api.MaxOwn-operations
}

// write makes one operation.
func (w *replica) write(change doc.Change) api.Id {
	id := api.Id{Counter: w.greatest + 1, Copy: w.number}
	w.have(doc.Operation{Id: id, Nth: w.heard[w.number] + 1, Change: change})
	return id
}

// have takes in operations of which each is the next one of its copy.
func (w *replica) have(operations ...doc.Operation) {
	for _, o := range operations {
		w.greatest = max(w.greatest, o.Id.Counter)
		w.heard[o.Id.Copy] = o.Nth
	}
	w.history.Add(operations...)
}

// hear takes in operations that came over a link: it has those for which none of their copy is missing, the others wait.
func (w *replica) hear(operations ...doc.Operation) {
	for _, o := range operations {
		if o.Nth > w.heard[o.Id.Copy] {
			w.early[place{o.Id.Copy, o.Nth}] = o
		}
	}
	w.have(w.ready()...)
}

// ready takes those that wait no longer out of the early ones.
func (w *replica) ready() []doc.Operation {
	var ready []doc.Operation
	for c, n := range w.heard {
		for next := (place{c, n + 1}); ; next.nth++ {
			o, there := w.early[next]
			if !there {
				break
			}
			delete(w.early, next)
			ready = append(ready, o)
		}
	}
	return ready
}

func (w *replica) makeObject(list bool) api.Id {
	return w.write(doc.Make{List: list})
}

// layAt lays an element so that it gets this index among those that can be seen.
func (w *replica) layAt(list api.Id, index int) api.Id {
	var behind api.Id
	if index > 0 {
		behind = w.document().Elements(list)[index-1]
	}
	return w.write(doc.Lay{List: list, Behind: behind})
}

// give makes a value the only one of a place.
func (w *replica) give(p doc.Place, v api.Value) {
	w.write(doc.Give{Place: p, Value: v, Instead: w.document().Givers(p)})
}

// setNumber makes a number the only value of a place, if the copy may still make an operation.
func (w *replica) setNumber(p doc.Place, n int) api.Errno {
	if !w.mayMake(1) {
		return api.ErrFull
	}
	w.give(p, api.Value{Number: n})
	return api.OK
}

// cut takes all values of a place away, if the copy may still make an operation.
func (w *replica) cut(p doc.Place) api.Errno {
	if !w.mayMake(1) {
		return api.ErrFull
	}
	w.write(doc.Take{Place: p, Gone: w.document().Givers(p)})
	return api.OK
}
