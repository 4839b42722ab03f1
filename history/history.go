// Package history: the operations that a copy has, and what they make of the document, in whatever order they come.
package history

import (
	"cmp"
	"slices"

	"quire/doc"
)

// History is operations and the document that they make.
type History struct {
	spacing    int
	operations []doc.Operation // in the order of their Ids
	remembered []*doc.Document // the i-th is what the first i*spacing operations make
	document   *doc.Document   // what all of them make
}

// New gives a history without operations; it will remember a state every spacing operations.
func New(spacing int) *History {
	return &History{spacing: spacing, remembered: []*doc.Document{doc.New()}, document: doc.New()}
}

// Document tells what the operations make. It is to be asked for anew after Add.
func (h *History) Document() *doc.Document {
	return h.document
}

// Add takes in operations that are new to it, in any order.
func (h *History) Add(operations ...doc.Operation) {
	done := len(h.operations)
	earliest := done
	for _, o := range operations {
		earliest = min(earliest, h.insert(o))
	}
	if earliest < done {
		done = h.goBack(earliest)
	}
	h.do(done)
}

// insert puts an operation where the order of Ids has it, and tells how many are ahead of it there.
func (h *History) insert(o doc.Operation) int {
	ahead, _ := slices.BinarySearchFunc(h.operations, o, byId)
	h.operations = slices.Insert(h.operations, ahead, o)
	return ahead
}

// goBack goes to the last remembered state in which none is done but the first so many operations, forgets the later ones, and tells how many are done in it.
func (h *History) goBack(ahead int) int {
	last := ahead / h.spacing
	clear(h.remembered[last+1:])
	h.remembered = h.remembered[:last+1]
	h.document = h.remembered[last].Clone()
	return last * h.spacing
}

// do does what comes behind the operations that are done, and remembers the states on the way.
func (h *History) do(done int) {
	for done < len(h.operations) {
		stop := min(done-done%h.spacing+h.spacing, len(h.operations))
		h.document.Do(h.operations[done:stop]...)
		done = stop
		if done%h.spacing == 0 {
			h.remembered = append(h.remembered, h.document.Clone())
		}
	}
}

// Beyond tells the operations beyond those that are known, so many of each copy, by their copies, then by their places among those.
func (h *History) Beyond(known []int) []doc.Operation {
	var beyond []doc.Operation
	for _, o := range h.operations {
		if o.Nth > known[o.Id.Copy] {
			beyond = append(beyond, o)
		}
	}
	slices.SortFunc(beyond, byCopy)
	return beyond
}

func byId(a, b doc.Operation) int {
	return doc.Compare(a.Id, b.Id)
}

func byCopy(a, b doc.Operation) int {
	return cmp.Or(cmp.Compare(a.Id.Copy, b.Id.Copy), cmp.Compare(a.Nth, b.Nth))
}
