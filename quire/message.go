package quire

import "quire/doc"

// message is what waits on a link: a question or operations.
type message interface {
	// arrive lets the copy take the message of another one in, and gives what is to wait on the link back.
	arrive(w *replica, from int) []message
}

// question is how many operations of each copy the one that asks has.
type question []int

func (q question) arrive(w *replica, from int) []message {
	w.keepInMind(from, q)
	return w.answer(q)
}

type batch []doc.Operation

func (b batch) arrive(w *replica, from int) []message {
	w.hear(b...)
	return nil
}
