package quire

import (
	"slices"

	"quire/api"
	"quire/doc"
	"quire/history"
)

// replica is one copy of the document.
type replica struct {
	number   int
	greatest int   // the greatest counter of all operations that it has
	heard    []int // how many operations of each copy it has
	history  *history.History
	early    map[place]doc.Operation // those that came ahead of earlier ones of their copy
	newest   map[int][]int           // of each other copy: how many operations of each it had, by its questions that have arrived
}

// place is the one of an operation among those of its copy.
type place struct {
	copy, nth int
}

func placeOf(o doc.Operation) place {
	return place{o.Id.Copy, o.Nth}
}

func newReplica(number, copies, spacing int) *replica {
	w := &replica{
		number:  number,
		heard:   make([]int, copies),
		history: history.New(spacing),
		early:   map[place]doc.Operation{},
		newest:  map[int][]int{},
	}
	for other := range copies {
		if other != number {
			w.newest[other] = make([]int, copies)
		}
	}
	return w
}

// document is to be asked for anew whenever operations have come.
func (w *replica) document() *doc.Document {
	return w.history.Document()
}

func (w *replica) question() question {
	return slices.Clone(w.heard)
}

// mayMake tells whether the copy may make so many operations more.
func (w *replica) mayMake(operations int) bool {
	return w.heard[w.number] <= api.MaxOwn-operations
}

// write makes one operation.
func (w *replica) write(change doc.Change) api.Id {
	id := api.Id{Counter: w.greatest + 1, Copy: w.number}
	w.have(doc.Operation{Id: id, Nth: w.heard[w.number] + 1, Change: change})
	return id
}

// have takes in operations of which each is the next one of its copy.
func (w *replica) have(operations ...doc.Operation) {
	for _, o := range operations {
		w.greatest = max(w.greatest, o.Id.Counter)
		w.heard[o.Id.Copy] = o.Nth
	}
	w.history.Add(operations...)
}

// hear takes in operations that came over a link: it has those for which none of their copy is missing, the others wait.
func (w *replica) hear(operations ...doc.Operation) {
	for _, o := range operations {
		if o.Nth > w.heard[o.Id.Copy] {
			w.early[placeOf(o)] = o
		}
	}
	w.have(w.ready()...)
}

// ready takes those that wait no longer out of the early ones.
func (w *replica) ready() []doc.Operation {
	var ready []doc.Operation
	for c, n := range w.heard {
		for next := (place{c, n + 1}); ; next.nth++ {
			o, there := w.early[next]
			if !there {
				break
			}
			delete(w.early, next)
			ready = append(ready, o)
		}
	}
	return ready
}

// answer makes messages of the operations that the copy has beyond those that are known. A forgotten one is missing in its message, but takes its room there: the others come in the same messages as if it were there.
func (w *replica) answer(known []int) []message {
	var answer []message
	left := w.history.Beyond(known)
	for part := range slices.Chunk(w.beyond(known), api.MaxBatch) {
		if len(answer) == api.MaxParts {
			break
		}
		n := 0
		for n < len(left) && slices.Contains(part, placeOf(left[n])) {
			n++
		}
		answer = append(answer, batch(left[:n]))
		left = left[n:]
	}
	return answer
}

// beyond tells the places of all operations that the copy has beyond those that are known, be they forgotten or not.
func (w *replica) beyond(known []int) []place {
	var beyond []place
	for c, n := range w.heard {
		for nth := known[c] + 1; nth <= n; nth++ {
			beyond = append(beyond, place{c, nth})
		}
	}
	return beyond
}

// keepInMind notes what another copy had when it asked. A question may come behind later ones, which tell more.
func (w *replica) keepInMind(other int, had []int) {
	newest := w.newest[other]
	for c, n := range had {
		newest[c] = max(newest[c], n)
	}
}

// trim forgets what no copy can lack and nothing can come ahead of, and tells how many operations that were.
func (w *replica) trim() int {
	return w.history.Forget(w.settled())
}

// settled tells how many operations of each copy are settled: all others had them when they asked. None is, while one that another copy had made by then is missing here: that copy may have made it ahead of having them.
func (w *replica) settled() []int {
	settled := slices.Clone(w.heard)
	for other, had := range w.newest {
		if had[other] > w.heard[other] {
			return make([]int, len(w.heard))
		}
		for c, n := range had {
			settled[c] = min(settled[c], n)
		}
	}
	return settled
}

func (w *replica) makeObject(list bool) api.Id {
	return w.write(doc.Make{List: list})
}

// layAt lays an element so that it gets this index among those that can be seen.
func (w *replica) layAt(list api.Id, index int) api.Id {
	var behind api.Id
	if index > 0 {
		behind = w.document().Elements(list)[index-1]
	}
	return w.write(doc.Lay{List: list, Behind: behind})
}

// give makes a value the only one of a place.
func (w *replica) give(p doc.Place, v api.Value) {
	w.write(doc.Give{Place: p, Value: v, Instead: w.document().Givers(p)})
}

// setNumber makes a number the only value of a place, if the copy may still make an operation.
func (w *replica) setNumber(p doc.Place, n int) api.Errno {
	if !w.mayMake(1) {
		return api.ErrFull
	}
	w.give(p, api.Value{Number: n})
	return api.OK
}

// cut takes all values of a place away, if the copy may still make an operation.
func (w *replica) cut(p doc.Place) api.Errno {
	if !w.mayMake(1) {
		return api.ErrFull
	}
	w.write(doc.Take{Place: p, Gone: w.document().Givers(p)})
	return api.OK
}
