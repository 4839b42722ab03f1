// Package history: the operations that a copy has, and what they make of the document, in whatever order they come.
package history

import (
	"cmp"
	"slices"

	"quire/doc"
)

// History is operations and the document that they make. The first ones may be forgotten: what they make is remembered still.
type History struct {
	spacing    int
	surplus    int             // how many are forgotten beyond a multiple of the spacing; states that are behind those stay where they are
	operations []doc.Operation // in the order of their Ids, without the forgotten ones, which are ahead of them
	remembered []*doc.Document // the first is what the forgotten operations make; how many more are done in each, doneIn tells
	document   *doc.Document   // what all operations make, be they forgotten or not
}

// New gives a history without operations; it will remember a state every spacing operations.
func New(spacing int) *History {
	return &History{spacing: spacing, remembered: []*doc.Document{doc.New()}, document: doc.New()}
}

// Document tells what the operations make. It is to be asked for anew after Add.
func (h *History) Document() *doc.Document {
	return h.document
}

// Add takes in operations that are new to it, in any order.
func (h *History) Add(operations ...doc.Operation) {
	done := len(h.operations)
	earliest := done
	for _, o := range operations {
		earliest = min(earliest, h.insert(o))
	}
	if earliest < done {
		done = h.goBack(earliest)
	}
	h.do(done)
}

// insert puts an operation where the order of Ids has it, and tells how many are ahead of it there.
func (h *History) insert(o doc.Operation) int {
	ahead, _ := slices.BinarySearchFunc(h.operations, o, byId)
	h.operations = slices.Insert(h.operations, ahead, o)
	return ahead
}

// lastWithin tells which remembered state is the last in which none is done but the first so many operations.
func (h *History) lastWithin(ahead int) int {
	return (h.surplus + ahead) / h.spacing
}

// doneIn tells how many operations are done in a remembered state, beside the forgotten ones.
func (h *History) doneIn(state int) int {
	return max(0, state*h.spacing-h.surplus)
}

// goBack goes to the last remembered state in which none is done but the first so many operations, drops the later ones, and tells how many are done in it.
func (h *History) goBack(ahead int) int {
	last := h.lastWithin(ahead)
	clear(h.remembered[last+1:])
	h.remembered = h.remembered[:last+1]
	h.document = h.remembered[last].Clone()
	return h.doneIn(last)
}

// do does what comes behind the operations that are done, and remembers the states on the way.
func (h *History) do(done int) {
	for done < len(h.operations) {
		next := h.doneIn(len(h.remembered))
		stop := min(next, len(h.operations))
		h.document.Do(h.operations[done:stop]...)
		done = stop
		if done == next {
			h.remembered = append(h.remembered, h.document.Clone())
		}
	}
}

// Forget drops operations, in the order of their Ids, as long as they are among the first so many of their copy, and tells how many it dropped. None may come any more that is ahead of these: no state from ahead of them is left to go back to.
func (h *History) Forget(settled []int) int {
	gone := h.leading(settled)
	base := h.lastWithin(gone)
	done := h.doneIn(base)
	h.remembered = slices.Delete(h.remembered, 0, base)
	h.remembered[0].Do(h.operations[done:gone]...)
	h.operations = slices.Delete(h.operations, 0, gone)
	h.surplus = (h.surplus + gone) % h.spacing
	return gone
}

// leading tells how many operations are ahead of the first that is not among the first so many of its copy.
func (h *History) leading(settled []int) int {
	for i, o := range h.operations {
		if o.Nth > settled[o.Id.Copy] {
			return i
		}
	}
	return len(h.operations)
}

// Kept tells how many operations are not forgotten.
func (h *History) Kept() int {
	return len(h.operations)
}

// Beyond tells the operations, without the forgotten ones, beyond those that are known, so many of each copy, by their copies, then by their places among those.
func (h *History) Beyond(known []int) []doc.Operation {
	var beyond []doc.Operation
	for _, o := range h.operations {
		if o.Nth > known[o.Id.Copy] {
			beyond = append(beyond, o)
		}
	}
	slices.SortFunc(beyond, byCopy)
	return beyond
}

func byId(a, b doc.Operation) int {
	return doc.Compare(a.Id, b.Id)
}

func byCopy(a, b doc.Operation) int {
	return cmp.Or(cmp.Compare(a.Id.Copy, b.Id.Copy), cmp.Compare(a.Nth, b.Nth))
}
