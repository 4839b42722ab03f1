package quire

import (
	"math/rand"
	"slices"
	"strconv"
	"testing"

	"quire/api"
)

// queue opens a room of two in which so many questions wait on the link from 0 to 1; ahead of each one copy 0 has made an operation.
func queue(t *testing.T, questions int) *Room {
	t.Helper()
	r := open(t, 2)
	for n := range questions {
		put(t, r, 0, "a", n+1)
		ask(t, r, 0, 1)
	}
	return r
}

// wantAsked takes the questions off the link from 0 to 1: what they must tell is how many operations copy 0 had made.
func wantAsked(t *testing.T, r *Room, want ...int) {
	t.Helper()
	var asked []int
	for l := r.links[ends{0, 1}]; l.waiting() > 0; {
		asked = append(asked, l.receive().(question)[0])
	}
	if !slices.Equal(asked, want) {
		t.Errorf("questions of %v operations wait, want %v", asked, want)
	}
}

// sizes are how many messages may wait on a link, at the edges.
func sizes() []int {
	return []int{1, 2, 3, api.MaxWaiting - 1, api.MaxWaiting}
}

// P10.

func TestLose(t *testing.T) {
	for _, n := range sizes() {
		r := queue(t, n)
		lose(t, r, 0, 1)
		wantWaiting(t, r, 0, 1, n-1)
		wantWaiting(t, r, 1, 0, 0)
		wantAsked(t, r, count(n)[1:]...)
		wantErrno(t, "Lose of nothing", r.Lose(0, 1), api.ErrEmpty)
	}
}

// What is lost does not arrive, and leaves room for others.
func TestLoseAll(t *testing.T) {
	r := open(t, 2)
	put(t, r, 1, "a", 1)
	for range 2 {
		fill(t, r, 0, 1, api.MaxWaiting)
		wantErrno(t, "Ask on a full link", r.Ask(0, 1), api.ErrFull)
		for n := range api.MaxWaiting {
			lose(t, r, 0, 1)
			wantWaiting(t, r, 0, 1, api.MaxWaiting-1-n)
		}
		wantErrno(t, "Lose of nothing", r.Lose(0, 1), api.ErrEmpty)
		wantErrno(t, "Deliver of nothing", r.Deliver(0, 1), api.ErrEmpty)
		wantWaiting(t, r, 1, 0, 0)
		wantHeard(t, r, 0, 0, 0)
	}
}

func TestAgain(t *testing.T) {
	for _, n := range sizes() {
		r := queue(t, n)
		if n == api.MaxWaiting {
			wantErrno(t, "Again on a full link", r.Again(0, 1), api.ErrFull)
			wantWaiting(t, r, 0, 1, n)
			wantAsked(t, r, count(n)...)
			continue
		}
		again(t, r, 0, 1)
		wantWaiting(t, r, 0, 1, n+1)
		wantWaiting(t, r, 1, 0, 0)
		wantAsked(t, r, append(count(n), 1)...)
	}
}

// The first stays the first: it is doubled till the link is full.
func TestAgainTillFull(t *testing.T) {
	r := queue(t, 2)
	want := []int{1, 2}
	for n := 2; n < api.MaxWaiting; n++ {
		again(t, r, 0, 1)
		want = append(want, 1)
	}
	wantErrno(t, "Again on a full link", r.Again(0, 1), api.ErrFull)
	deliver(t, r, 0, 1)
	again(t, r, 0, 1)
	wantErrno(t, "Again on a full link", r.Again(0, 1), api.ErrFull)
	wantAsked(t, r, append(want[1:], 2)...)
}

func TestLater(t *testing.T) {
	for _, n := range sizes() {
		r := queue(t, n)
		want := count(n)
		for range n + 1 {
			later(t, r, 0, 1)
			want = append(want[1:], want[0])
			wantWaiting(t, r, 0, 1, n)
		}
		wantWaiting(t, r, 1, 0, 0)
		wantAsked(t, r, want...)
	}
}

// The first error that applies is the answer, and nothing changes.
func TestErrorsOnLinks(t *testing.T) {
	r := queue(t, 0)
	wantErrno(t, "Lose of nothing", r.Lose(0, 1), api.ErrEmpty)
	wantErrno(t, "Again of nothing", r.Again(0, 1), api.ErrEmpty)
	wantErrno(t, "Later of nothing", r.Later(0, 1), api.ErrEmpty)
	shut(t, r, 0, 1)
	wantErrno(t, "Lose of nothing on a link that is shut", r.Lose(0, 1), api.ErrEmpty)
	wantErrno(t, "Again of nothing on a link that is shut", r.Again(0, 1), api.ErrEmpty)
	wantErrno(t, "Later of nothing on a link that is shut", r.Later(0, 1), api.ErrEmpty)
	for _, n := range sizes() {
		r := queue(t, n)
		shut(t, r, 0, 1)
		for range 2 {
			wantErrno(t, "Again on a link that is shut", r.Again(0, 1), api.ErrShut)
			wantErrno(t, "Later on a link that is shut", r.Later(0, 1), api.ErrShut)
			wantErrno(t, "Shut once more", r.Shut(0, 1), api.ErrShut)
			wantErrno(t, "Lose of nothing", r.Lose(1, 0), api.ErrEmpty)
		}
		wantWaiting(t, r, 0, 1, n)
		wantWaiting(t, r, 1, 0, 0)
		wantHeard(t, r, 0, n, 0)
		wantAsked(t, r, count(n)...)
	}
}

// These calls speak of one link of one room.
func TestOtherLinksStay(t *testing.T) {
	r, s := open(t, 3), open(t, 3)
	for _, room := range []*Room{r, s} {
		for from := range 3 {
			for to := range 3 {
				if from != to {
					fill(t, room, from, to, 2)
				}
			}
		}
	}
	lose(t, r, 0, 1)
	again(t, r, 0, 2)
	later(t, r, 1, 2)
	shut(t, r, 2, 0)
	wantDrain(t, r, 2, 0, 2)
	for l, n := range map[ends]int{{0, 1}: 1, {0, 2}: 3, {1, 0}: 2, {1, 2}: 2, {2, 0}: 0, {2, 1}: 2} {
		wantWaiting(t, r, l.from, l.to, n)
		wantWaiting(t, s, l.from, l.to, 2)
	}
	ask(t, r, 0, 2)
	wantErrno(t, "Ask on a link that is shut", r.Ask(2, 0), api.ErrShut)
	ask(t, s, 2, 0)
}

// A question that is doubled tells both times what the copy had when it asked.
func TestQuestionAgain(t *testing.T) {
	r := open(t, 2)
	put(t, r, 0, "a", count(8)...)
	ask(t, r, 1, 0)
	again(t, r, 1, 0)
	put(t, r, 1, "b", 1)
	deliver(t, r, 1, 0)
	deliver(t, r, 0, 1)
	wantHeard(t, r, 1, 8, 1)
	put(t, r, 0, "a", 9)
	deliver(t, r, 1, 0)
	wantWaiting(t, r, 0, 1, 2) // all nine, though copy 1 has eight of them
	wantWaiting(t, r, 1, 0, 0)
	deliver(t, r, 0, 1)
	wantHeard(t, r, 1, 8, 1)
	deliver(t, r, 0, 1)
	wantHeard(t, r, 1, 9, 1)
	wantShow(t, r, 1, "{a:9,b:1}")
}

// Operations arrive twice: the first time ahead of earlier ones, then when they wait, then when the copy has them.
func TestOperationsAgain(t *testing.T) {
	eachSpacing(t, 2, func(r *Room) {
		list, e := r.Nest(0, root, "l", true)
		wantErrno(t, "Nest", e, api.OK)
		for n := range 10 {
			insert(t, r, list, n/2, n)
		}
		_, e = r.Nest(1, root, "m", false)
		wantErrno(t, "Nest", e, api.OK)
		answer(t, r, 1, 0) // 1 to 8, 9 to 16, 17 to 22
		again(t, r, 0, 1)
		later(t, r, 0, 1)
		again(t, r, 0, 1)
		again(t, r, 0, 1)
		wantWaiting(t, r, 0, 1, 6) // 9 to 16, 17 to 22, 1 to 8, 1 to 8, 9 to 16, 9 to 16
		deliver(t, r, 0, 1)
		later(t, r, 0, 1)
		later(t, r, 0, 1)
		later(t, r, 0, 1)
		deliver(t, r, 0, 1)
		wantHeard(t, r, 1, 0, 2)
		wantShow(t, r, 1, "{m:{}}")
		later(t, r, 0, 1)
		deliver(t, r, 0, 1)
		wantHeard(t, r, 1, 0, 2)
		deliver(t, r, 0, 1)
		shown := "{l:[1,3,5,7,9,8,6,4,2,0],m:{}}"
		wantHeard(t, r, 1, 22, 2)
		wantShow(t, r, 1, shown)
		deliverAll(r, 0, 1)
		wantHeard(t, r, 1, 22, 2)
		wantShow(t, r, 1, shown)
		element, e := r.Insert(1, list, 5, 100)
		wantId(t, "Insert", element, e, id(23, 1), api.OK)
		wantSame(t, r)
		wantShow(t, r, 0, "{l:[1,3,5,7,9,100,8,6,4,2,0],m:{}}")
	})
}

// A message that waits long comes when its operations are overtaken by ones with greater Ids.
func TestOvertaken(t *testing.T) {
	eachSpacing(t, 3, func(r *Room) {
		put(t, r, 0, "a", count(5)...)
		answer(t, r, 1, 0)
		put(t, r, 0, "a", count(19)...)
		answer(t, r, 1, 0)
		later(t, r, 0, 1) // 1 to 5
		later(t, r, 0, 1) // 1 to 8
		put(t, r, 2, "a", count(30)...)
		learn(t, r, 1, 2)
		wantShow(t, r, 1, "{a:30}")
		deliver(t, r, 0, 1) // 9 to 16
		deliver(t, r, 0, 1) // 17 to 24
		wantHeard(t, r, 1, 0, 0, 30)
		wantShow(t, r, 1, "{a:30}")
		deliver(t, r, 0, 1)
		wantHeard(t, r, 1, 5, 0, 30)
		wantShow(t, r, 1, "{a:5|30}")
		deliver(t, r, 0, 1)
		wantHeard(t, r, 1, 24, 0, 30)
		wantShow(t, r, 1, "{a:19|30}")
	})
}

// The gap may be filled by another copy than the one whose message was lost.
func TestGapFilledByAnother(t *testing.T) {
	eachSpacing(t, 3, func(r *Room) {
		put(t, r, 0, "a", count(20)...)
		learn(t, r, 2, 0)
		put(t, r, 2, "b", 1)
		answer(t, r, 1, 0)
		lose(t, r, 0, 1)
		deliver(t, r, 0, 1)
		deliver(t, r, 0, 1)
		wantHeard(t, r, 1, 0, 0, 0)
		answer(t, r, 1, 2)
		wantWaiting(t, r, 2, 1, 3)
		deliver(t, r, 2, 1)
		wantHeard(t, r, 1, 20, 0, 0)
		wantShow(t, r, 1, "{a:20}")
		lose(t, r, 2, 1)
		deliver(t, r, 2, 1)
		wantHeard(t, r, 1, 20, 0, 1)
		wantShow(t, r, 1, "{a:20,b:1}")
	})
}

// P11.

func TestWhatWaitsOnAShutLink(t *testing.T) {
	r := open(t, 2)
	put(t, r, 0, "a", count(20)...)
	answer(t, r, 1, 0)
	shut(t, r, 0, 1)
	wantWaiting(t, r, 0, 1, 3)
	deliver(t, r, 0, 1)
	wantHeard(t, r, 1, 8, 0)
	lose(t, r, 0, 1)
	wantWaiting(t, r, 0, 1, 1)
	wantDrain(t, r, 0, 1, 1)
	wantHeard(t, r, 1, 8, 0)
	wantWaiting(t, r, 0, 1, 0)
	answer(t, r, 1, 0)
	wantWaiting(t, r, 0, 1, 0)
	wantErrno(t, "Deliver of nothing", r.Deliver(0, 1), api.ErrEmpty)
	wantErrno(t, "Lose of nothing", r.Lose(0, 1), api.ErrEmpty)
	wantErrno(t, "Shut once more", r.Shut(0, 1), api.ErrShut)
	shut(t, r, 1, 0)
	wantErrno(t, "Shut once more", r.Shut(1, 0), api.ErrShut)
}

func TestDrainOfAnOpenLink(t *testing.T) {
	for _, n := range append(sizes(), 0) {
		r := queue(t, n)
		shut(t, r, 1, 0)
		put(t, r, 1, "a", 1)
		if told, e := r.Drain(0, 1); told != 0 || e != api.ErrOpen {
			t.Errorf("Drain of an open link = %d, %d", told, e)
		}
		wantWaiting(t, r, 0, 1, n)
		wantAsked(t, r, count(n)...)
	}
}

func TestDrain(t *testing.T) {
	for _, n := range append(sizes(), 0) {
		r := queue(t, n)
		shut(t, r, 0, 1)
		wantDrain(t, r, 0, 1, n)
		wantWaiting(t, r, 0, 1, 0)
		wantWaiting(t, r, 1, 0, 0)
		for range 2 {
			wantDrain(t, r, 0, 1, 0)
		}
		wantErrno(t, "Deliver of nothing", r.Deliver(0, 1), api.ErrEmpty)
		wantErrno(t, "Ask on a link that is shut", r.Ask(0, 1), api.ErrShut)
		wantErrno(t, "Shut once more", r.Shut(0, 1), api.ErrShut)
	}
}

// Operations are drained in whatever order they wait, and what was lost stays away.
func TestDrainOfOperations(t *testing.T) {
	eachSpacing(t, 2, func(r *Room) {
		put(t, r, 1, "a", count(30)...)
		put(t, r, 0, "a", count(20)...)
		answer(t, r, 1, 0)
		again(t, r, 0, 1)
		later(t, r, 0, 1)
		shut(t, r, 0, 1)
		wantDrain(t, r, 0, 1, 4)
		wantHeard(t, r, 1, 20, 30)
		wantShow(t, r, 1, "{a:20|30}")
	})
	eachSpacing(t, 2, func(r *Room) {
		put(t, r, 0, "a", count(20)...)
		answer(t, r, 1, 0)
		lose(t, r, 0, 1)
		shut(t, r, 0, 1)
		wantDrain(t, r, 0, 1, 2)
		wantHeard(t, r, 1, 0, 0)
		wantShow(t, r, 1, "{}")
	})
}

// Each question is answered by three messages, as far as there is room on the link back.
func TestDrainOfQuestions(t *testing.T) {
	for waiting := range api.MaxWaiting + 1 {
		for questions := range 5 {
			r := open(t, 2)
			put(t, r, 0, "a", count(20)...)
			fill(t, r, 1, 0, questions)
			shut(t, r, 1, 0)
			fill(t, r, 0, 1, waiting)
			wantDrain(t, r, 1, 0, questions)
			wantWaiting(t, r, 1, 0, 0)
			answers := min(3*questions, api.MaxWaiting-waiting)
			wantWaiting(t, r, 0, 1, waiting+answers)
			for range waiting {
				deliver(t, r, 0, 1)
			}
			wantHeard(t, r, 1, 0, 0)
			for n := range answers {
				deliver(t, r, 0, 1)
				wantHeard(t, r, 1, min(8*n+8, 20), 0)
			}
			wantErrno(t, "Deliver of nothing", r.Deliver(0, 1), api.ErrEmpty)
		}
	}
}

func TestDrainWithTheLinkBackShut(t *testing.T) {
	r := open(t, 2)
	put(t, r, 0, "a", count(20)...)
	fill(t, r, 1, 0, 2)
	answer(t, r, 1, 0) // the first of three
	shut(t, r, 0, 1)
	shut(t, r, 1, 0)
	wantDrain(t, r, 1, 0, 2)
	wantWaiting(t, r, 0, 1, 3)
	wantDrain(t, r, 0, 1, 3)
	wantHeard(t, r, 1, 20, 0)
	wantWaiting(t, r, 1, 0, 0)
	wantWaiting(t, r, 0, 1, 0)
}

// Questions and operations that wait on one link arrive one by one: a question is answered with what came ahead of it, too.
func TestDrainOfBoth(t *testing.T) {
	r := open(t, 2)
	put(t, r, 1, "b", 1)
	fill(t, r, 0, 1, 2)
	put(t, r, 0, "a", count(12)...)
	answer(t, r, 1, 0)
	later(t, r, 0, 1)
	shut(t, r, 0, 1)
	wantDrain(t, r, 0, 1, 4)
	wantHeard(t, r, 1, 12, 1)
	wantWaiting(t, r, 1, 0, 3) // of 1, then of 8 and 5
	deliver(t, r, 1, 0)
	wantHeard(t, r, 0, 12, 1)
	wantShow(t, r, 0, "{a:12,b:1}")
	wantShow(t, r, 1, "{a:12,b:1}")
}

// P14.

// trouble lets something go wrong on a link, or nothing.
func trouble(r *Room, rng *rand.Rand, from, to int) {
	switch rng.Intn(6) {
	case 0:
		r.Lose(from, to)
	case 1:
		r.Again(from, to)
	case 2, 3:
		r.Later(from, to)
	}
}

// write lets a copy do something somewhere.
func write(r *Room, rng *rand.Rand, c int, list api.Id) {
	told, _ := r.Elements(c, list)
	index := rng.Intn(len(told) + 1)
	switch rng.Intn(6) {
	case 0, 1:
		r.Insert(c, list, index, rng.Intn(100))
	case 2:
		r.SetAt(c, list, index, rng.Intn(100))
	case 3:
		r.CutAt(c, list, index)
	case 4:
		r.Put(c, root, string(rune('a'+rng.Intn(3))), rng.Intn(100))
	default:
		r.NestAt(c, list, index, rng.Intn(2) == 0)
	}
}

// spread lets copies write, ask and hear, with much trouble on the links.
func spread(r *Room, rng *rand.Rand, steps int, list api.Id) {
	copies := len(r.copies)
	for range steps {
		from := rng.Intn(copies)
		to := (from + 1 + rng.Intn(copies-1)) % copies
		switch rng.Intn(5) {
		case 0:
			write(r, rng, from, list)
		case 1:
			r.Ask(from, to)
		case 2:
			trouble(r, rng, from, to)
		default:
			r.Deliver(from, to)
		}
	}
}

// arriveAll lets all that waits between two copies arrive, the answers that are called forth by it, too.
func arriveAll(r *Room, c, other int) {
	deliverAll(r, c, other)
	deliverAll(r, other, c)
	deliverAll(r, c, other)
}

// settle lets each ask each other one so often; all that waits arrives.
func settle(t *testing.T, r *Room, rounds int) {
	t.Helper()
	for range rounds {
		for from := range r.copies {
			for to := range r.copies {
				if from != to {
					arriveAll(r, from, to)
					ask(t, r, from, to)
					arriveAll(r, from, to)
				}
			}
		}
	}
}

// wantAll: all copies have all operations that were made, and show the same.
func wantAll(t *testing.T, r *Room) {
	t.Helper()
	shown, _ := r.Show(0)
	made := make([]int, len(r.copies))
	for c := range made {
		heard, _ := r.Heard(c)
		made[c] = heard[c]
	}
	for c := range made {
		wantHeard(t, r, c, made...)
		wantShow(t, r, c, shown)
		wantNoneEarly(t, r, c)
	}
}

func TestAllHaveAllInTheEnd(t *testing.T) {
	for copies := 2; copies <= api.MaxCopies; copies++ {
		for seed := range int64(30) {
			rng := rand.New(rand.NewSource(seed))
			r := openAt(t, copies, 1+rng.Intn(api.MaxSpacing))
			list, e := r.Nest(0, root, "l", true)
			wantErrno(t, "Nest", e, api.OK)
			for c := 1; c < copies; c++ {
				learn(t, r, c, 0)
			}
			spread(r, rng, 200*copies, list)
			settle(t, r, 10)
			wantAll(t, r)
		}
	}
}

// As many operations as there may be, of which nothing has come to anybody; then they ask with much trouble, then without.
func TestFullCopiesHaveAllInTheEnd(t *testing.T) {
	for copies := 2; copies <= api.MaxCopies; copies++ {
		rng := rand.New(rand.NewSource(int64(copies)))
		r := openAt(t, copies, 7)
		for c := range copies {
			put(t, r, c, string(rune('a'+c)), count(api.MaxOwn)...)
		}
		for range 4 {
			for from := range copies {
				to := (from + 1 + rng.Intn(copies-1)) % copies
				r.Ask(from, to)
				trouble(r, rng, from, to)
				r.Deliver(from, to)
				trouble(r, rng, to, from)
				r.Deliver(to, from)
			}
		}
		settle(t, r, 10)
		wantAll(t, r)
		for c := range copies {
			for other := range copies {
				values, e := r.Values(c, root, string(rune('a'+other)))
				if e != api.OK || !slices.Equal(values, []api.Value{{Number: api.MaxOwn}}) {
					t.Errorf("Values(%d, %d) = %v, %d", c, other, values, e)
				}
			}
		}
	}
}

// Each round of question and answer brings as much as an answer can hold, whatever was lost ahead of it.
func TestRoundsTillAllIsHeard(t *testing.T) {
	r := open(t, 2)
	put(t, r, 0, "a", count(api.MaxOwn)...)
	for range 5 {
		answer(t, r, 1, 0)
		lose(t, r, 0, 1)
		deliverAll(r, 0, 1)
		wantHeard(t, r, 1, 0, 0)
	}
	for _, heard := range []int{24, 48, api.MaxOwn, api.MaxOwn} {
		answer(t, r, 1, 0)
		deliverAll(r, 0, 1)
		wantHeard(t, r, 1, heard, 0)
	}
	wantShow(t, r, 1, "{a:"+strconv.Itoa(api.MaxOwn)+"}")
}
