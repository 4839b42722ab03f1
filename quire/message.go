package quire

import (
	"slices"

	"quire/api"
	"quire/doc"
)

// message is what waits on a link: a question or operations.
type message interface {
	// arrive lets the copy take the message in, and gives what is to wait on the link back.
	arrive(w *replica) []message
}

// question is how many operations of each copy the one that asks has.
type question []int

func (q question) arrive(w *replica) []message {
	var answer []message
	for part := range slices.Chunk(w.history.Beyond(q), api.MaxBatch) {
		if len(answer) == api.MaxParts {
			break
		}
		answer = append(answer, batch(part))
	}
	return answer
}

type batch []doc.Operation

func (b batch) arrive(w *replica) []message {
	w.hear(b...)
	return nil
}
