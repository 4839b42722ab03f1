package quire

import "quire/api"

// ends are the copies between which a link is.
type ends struct {
	from, to int
}

// link has room for all messages that may wait on it, so that sending never blocks.
type link struct {
	messages chan message
	shut     bool // that a channel is closed can't be seen while messages are in it
}

func newLink() *link {
	return &link{messages: make(chan message, api.MaxWaiting)}
}

func newLinks(copies int) map[ends]*link {
	links := map[ends]*link{}
	for from := range copies {
		for to := range copies {
			if from != to {
				links[ends{from, to}] = newLink()
			}
		}
	}
	return links
}

func (l *link) waiting() int {
	return len(l.messages)
}

// refusal tells why no message may be sent, OK if one may.
func (l *link) refusal() api.Errno {
	switch {
	case l.shut:
		return api.ErrShut
	case len(l.messages) == cap(l.messages):
		return api.ErrFull
	}
	return api.OK
}

// send lets messages wait behind the others; those that may not be sent come to nothing.
func (l *link) send(messages ...message) {
	for _, m := range messages {
		if l.refusal() == api.OK {
			l.messages <- m
		}
	}
}

// receive takes the first message, of one or more that wait.
func (l *link) receive() message {
	return <-l.messages
}

// later lets the first message wait behind the others instead.
func (l *link) later() {
	l.send(l.receive())
}

// again lets the first message wait behind the others, too. A channel gives no message without losing it, so all of them go round once.
func (l *link) again() {
	first := l.receive()
	l.send(first)
	for range l.waiting() - 1 {
		l.later()
	}
	l.send(first)
}

func (l *link) close() {
	l.shut = true
	close(l.messages)
}
