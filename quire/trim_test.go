package quire

import (
	"fmt"
	"math"
	"math/rand"
	"slices"
	"strings"
	"testing"

	"quire/api"
)

// wantTrim: so many operations are forgotten now, and so many are kept; a second Trim in a row forgets none.
func wantTrim(t *testing.T, r *Room, c, forgotten, kept int) {
	t.Helper()
	wantKept(t, r, c, forgotten+kept)
	for _, want := range []int{forgotten, 0} {
		if n, e := r.Trim(c); n != want || e != api.OK {
			t.Errorf("Trim(%d) = %d, %d, want %d", c, n, e, want)
		}
		wantKept(t, r, c, kept)
	}
}

func wantKept(t *testing.T, r *Room, c, want int) {
	t.Helper()
	for range 2 {
		if n, e := r.Kept(c); n != want || e != api.OK {
			t.Errorf("Kept(%d) = %d, %d, want %d", c, n, e, want)
		}
	}
}

// tell lets copies tell another one what they have; what it answers is lost.
func tell(t *testing.T, r *Room, to int, copies ...int) {
	t.Helper()
	for _, c := range copies {
		answer(t, r, c, to)
		for r.Lose(to, c) == api.OK {
		}
	}
}

// listen lets a copy ask another one once, and the answer arrive; the other one knows then what the copy had ahead of that.
func listen(t *testing.T, r *Room, c, other int) {
	t.Helper()
	answer(t, r, c, other)
	deliverAll(r, other, c)
}

// share lets all copies have all that any of them remembers, past the links, so that none knows of another one what it has.
func share(r *Room) {
	for _, w := range r.copies {
		for _, other := range r.copies {
			w.hear(other.history.Beyond(make([]int, len(r.copies)))...)
		}
	}
}

// P12.

// The document's last example.
func TestTrimExample(t *testing.T) {
	eachSpacing(t, 2, func(r *Room) {
		put(t, r, 0, "a", count(3)...)
		listen(t, r, 1, 0)
		answer(t, r, 1, 0)
		wantWaiting(t, r, 0, 1, 0)
		wantTrim(t, r, 0, 3, 0)
		wantShow(t, r, 0, "{a:3}")
		wantTrim(t, r, 1, 0, 3)
	})
}

func TestTrimOfNoCopy(t *testing.T) {
	refused, _ := New(0, 1)
	r := open(t, 2)
	put(t, r, 0, "a", 1)
	learn(t, r, 1, 0)
	tell(t, r, 0, 1)
	for _, room := range []*Room{r, refused} {
		for _, c := range []int{-1, 2, math.MinInt, math.MaxInt} {
			if n, e := room.Trim(c); n != 0 || e != api.ErrCopy {
				t.Errorf("Trim(%d) = %d, %d", c, n, e)
			}
			if n, e := room.Kept(c); n != 0 || e != api.ErrCopy {
				t.Errorf("Kept(%d) = %d, %d", c, n, e)
			}
		}
	}
	wantKept(t, r, 1, 1)
	wantTrim(t, r, 0, 1, 0)
}

// A copy remembers what it has: not what waits with it, and each operation once.
func TestKept(t *testing.T) {
	eachSpacing(t, 2, func(r *Room) {
		wantKept(t, r, 0, 0)
		list, _ := r.Nest(0, root, "l", true)
		wantKept(t, r, 0, 2)
		insert(t, r, list, 0, 1)
		wantKept(t, r, 0, 4)
		r.NestAt(0, list, 1, false)
		wantKept(t, r, 0, 7)
		wantErrno(t, "CutAt", r.CutAt(0, list, 0), api.OK)
		wantErrno(t, "Cut", r.Cut(0, root, "a"), api.ErrNone)
		put(t, r, 0, "a", 1, 2)
		wantKept(t, r, 0, 10)
		wantKept(t, r, 1, 0)
		answer(t, r, 1, 0)
		again(t, r, 0, 1)
		later(t, r, 0, 1)
		deliver(t, r, 0, 1) // 9 and 10
		wantKept(t, r, 1, 0)
		put(t, r, 1, "b", 1)
		wantKept(t, r, 1, 1)
		deliver(t, r, 0, 1)
		wantKept(t, r, 1, 11)
		deliver(t, r, 0, 1)
		wantKept(t, r, 1, 11)
		wantKept(t, r, 0, 10)
		tell(t, r, 0, 1) // copy 1 has made an operation that copy 0 lacks
		wantTrim(t, r, 0, 0, 10)
		listen(t, r, 0, 1)
		wantTrim(t, r, 0, 11, 0)
		put(t, r, 0, "a", 3, 4)
		wantTrim(t, r, 0, 0, 2)
		wantTrim(t, r, 1, 1, 10) // 1.0; when copy 0 asked, it had not 1.1
	})
}

// Everything is settled; what is forgotten counts still, and all that was made is there still.
func TestTrimInARoomOfOne(t *testing.T) {
	eachSpacing(t, 1, func(r *Room) {
		wantTrim(t, r, 0, 0, 0)
		list, _ := r.Nest(0, root, "l", true)
		wantTrim(t, r, 0, 2, 0)
		for n := range 10 {
			insert(t, r, list, n/2, n)
			if n%3 == 0 {
				wantTrim(t, r, 0, min(2+2*n, 6), 0)
			}
		}
		wantShow(t, r, 0, "{l:[1,3,5,7,9,8,6,4,2,0]}")
		wantErrno(t, "CutAt", r.CutAt(0, list, 3), api.OK)
		wantErrno(t, "SetAt", r.SetAt(0, list, 8, -1), api.OK)
		wantTrim(t, r, 0, 2, 0)
		wantElements(t, r, list, id(5, 0), id(9, 0), id(13, 0), id(21, 0), id(19, 0), id(15, 0), id(11, 0), id(7, 0), id(3, 0))
		for n := range api.MaxOwn - 24 {
			put(t, r, 0, "z", n)
			wantTrim(t, r, 0, 1, 0)
		}
		wantErrno(t, "Put", r.Put(0, root, "z", 1), api.ErrFull)
		wantErrno(t, "Cut", r.Cut(0, root, "z"), api.ErrFull)
		wantHeard(t, r, 0, api.MaxOwn)
		wantTrim(t, r, 0, 0, 0)
		wantShow(t, r, 0, "{l:[1,3,5,9,8,6,4,2,-1],z:35}")
	})
}

// What a copy knows of others it knows by questions alone, and by those of each.
func TestTrimOfACopyThatKnowsNothing(t *testing.T) {
	r := open(t, 3)
	for c := range 3 {
		wantTrim(t, r, c, 0, 0)
	}
	put(t, r, 0, "a", 1, 2)
	wantTrim(t, r, 0, 0, 2)
	listen(t, r, 1, 0)
	listen(t, r, 2, 0)
	put(t, r, 1, "a", 3) // in place of 2, which copy 1 must have for that
	listen(t, r, 0, 1)
	wantShow(t, r, 0, "{a:3}")
	wantTrim(t, r, 0, 0, 3)
	wantTrim(t, r, 1, 0, 3)
	listen(t, r, 2, 1)
	wantTrim(t, r, 1, 2, 1)
	tell(t, r, 0, 1)
	wantTrim(t, r, 0, 0, 3)
	tell(t, r, 0, 2)
	wantTrim(t, r, 0, 3, 0)
	wantTrim(t, r, 2, 0, 3) // nobody has asked it
	tell(t, r, 2, 0)
	wantTrim(t, r, 2, 0, 3)
	tell(t, r, 2, 1)
	wantTrim(t, r, 2, 3, 0)
}

// One other copy of which nothing is known is enough.
func TestTrimNeedsAllOthers(t *testing.T) {
	for copies := 2; copies <= api.MaxCopies; copies++ {
		for silent := 1; silent < copies; silent++ {
			r := open(t, copies)
			put(t, r, 0, "a", 1, 2)
			for c := 1; c < copies; c++ {
				answer(t, r, c, 0)
				deliver(t, r, 0, c)
			}
			for c := 1; c < copies; c++ {
				if c != silent {
					tell(t, r, 0, c)
				}
			}
			wantTrim(t, r, 0, 0, 2)
			tell(t, r, 0, silent)
			wantTrim(t, r, 0, 2, 0)
		}
	}
}

// A question counts when it has arrived, and for what its copy had when it asked.
func TestTrimByQuestionsThatHaveArrived(t *testing.T) {
	r := open(t, 2)
	put(t, r, 0, "a", 1)
	answer(t, r, 1, 0)
	deliver(t, r, 0, 1)
	ask(t, r, 1, 0) // of one
	put(t, r, 0, "a", 2)
	answer(t, r, 1, 0) // the one of one arrives
	deliver(t, r, 0, 1)
	wantHeard(t, r, 1, 2, 0)
	wantTrim(t, r, 0, 1, 1)
	lose(t, r, 1, 0) // of one, too
	ask(t, r, 1, 0)
	wantTrim(t, r, 0, 0, 1)
	lose(t, r, 1, 0)
	wantTrim(t, r, 0, 0, 1)
	ask(t, r, 1, 0)
	shut(t, r, 1, 0)
	wantTrim(t, r, 0, 0, 1)
	wantDrain(t, r, 1, 0, 1)
	wantTrim(t, r, 0, 1, 0)
}

// What becomes of the answer does not matter.
func TestTrimByQuestionsWithoutAnswer(t *testing.T) {
	for _, hinder := range []func(r *Room){
		func(r *Room) { shut(t, r, 0, 1) },
		func(r *Room) { fill(t, r, 0, 1, api.MaxWaiting) },
	} {
		r := open(t, 2)
		put(t, r, 0, "a", 1, 2)
		learn(t, r, 1, 0)
		put(t, r, 0, "a", 3)
		hinder(r)
		answer(t, r, 1, 0)
		wantTrim(t, r, 0, 2, 1)
	}
}

// threeQuestions lets questions wait on the link from 1 to 0 of when copy 1 had one, two and three operations of copy 0.
func threeQuestions(t *testing.T, r *Room) {
	t.Helper()
	for n := range 3 {
		put(t, r, 0, "a", n+1)
		share(r)
		ask(t, r, 1, 0)
	}
}

// Questions that arrive late, twice and behind later ones take nothing away from what is known.
func TestTrimByTheNewest(t *testing.T) {
	eachSpacing(t, 2, func(r *Room) {
		threeQuestions(t, r)
		wantTrim(t, r, 0, 0, 3)
		deliverAt(t, r, 1, 0, 1) // of two
		wantTrim(t, r, 0, 2, 1)
		again(t, r, 1, 0) // of one
		deliver(t, r, 1, 0)
		wantTrim(t, r, 0, 0, 1)
		deliver(t, r, 1, 0) // of three
		deliver(t, r, 1, 0) // of one
		wantTrim(t, r, 0, 1, 0)
		put(t, r, 0, "a", 4)
		ask(t, r, 1, 0)
		again(t, r, 1, 0)
		deliver(t, r, 1, 0)
		deliver(t, r, 1, 0)
		wantTrim(t, r, 0, 0, 1)
		share(r)
		wantTrim(t, r, 0, 0, 1)
		tell(t, r, 0, 1)
		wantTrim(t, r, 0, 1, 0)
	})
}

// In each order in which questions may arrive, what the greatest of them tells is known, be there a Trim behind each of them or behind the last one alone.
func TestTrimByQuestionsInEachOrder(t *testing.T) {
	eachOrder(3, func(order []int) {
		r, s := open(t, 2), open(t, 2)
		threeQuestions(t, r)
		threeQuestions(t, s)
		left := []int{0, 1, 2}
		newest := 0
		for _, n := range order {
			at := slices.Index(left, n)
			left = slices.Delete(left, at, at+1)
			deliverAt(t, r, 1, 0, at)
			deliverAt(t, s, 1, 0, at)
			known := max(newest, n+1)
			wantTrim(t, r, 0, known-newest, 3-known)
			newest = known
		}
		wantTrim(t, s, 0, 3, 0)
	})
}

// eachOrder calls with the numbers below n in each order.
func eachOrder(n int, call func(order []int)) {
	var lay func(order []int)
	lay = func(order []int) {
		if len(order) == n {
			call(order)
			return
		}
		for i := range n {
			if !slices.Contains(order, i) {
				lay(append(slices.Clone(order), i))
			}
		}
	}
	lay(nil)
}

// deliverAt delivers the message that waits behind so many others; these stay in their order.
func deliverAt(t *testing.T, r *Room, from, to, ahead int) {
	t.Helper()
	waiting, _ := r.Waiting(from, to)
	for range ahead {
		later(t, r, from, to)
	}
	deliver(t, r, from, to)
	for range waiting - 1 - ahead {
		later(t, r, from, to)
	}
}

// The newest is known copy by copy: of each operation what each other copy had of the one that made it.
func TestTrimCopyByCopy(t *testing.T) {
	r := open(t, 3)
	put(t, r, 0, "a", 1, 2)
	put(t, r, 1, "b", 1, 2)
	listen(t, r, 2, 0)
	tell(t, r, 0, 2) // 2 0 0
	listen(t, r, 0, 1)
	listen(t, r, 1, 0)
	tell(t, r, 0, 1) // 2 2 0
	// The operations are 1.0, 1.1, 2.0, 2.1; copy 2 had those of copy 0 alone.
	wantTrim(t, r, 0, 1, 3)
	listen(t, r, 2, 1)
	wantTrim(t, r, 0, 0, 3)
	tell(t, r, 0, 2) // 2 2 0
	wantTrim(t, r, 0, 3, 0)
	wantShow(t, r, 0, "{a:2,b:2}")
}

// Nothing is settled while an operation is missing that another copy had made when it asked: it may be ahead of all.
func TestTrimWithOperationsMissing(t *testing.T) {
	eachSpacing(t, 3, func(r *Room) {
		put(t, r, 0, "a", 1, 2, 3)
		put(t, r, 1, "a", 4)
		listen(t, r, 1, 0)
		listen(t, r, 2, 0)
		tell(t, r, 0, 1, 2)
		wantTrim(t, r, 0, 0, 3)
		listen(t, r, 0, 1)
		wantShow(t, r, 0, "{a:4|3}")
		wantTrim(t, r, 0, 1, 3) // 1.0; that copy 2 has 1.1 is not known
		put(t, r, 2, "a", 5)
		listen(t, r, 2, 1)
		tell(t, r, 0, 2) // 3 1 1
		wantTrim(t, r, 0, 0, 3)
		answer(t, r, 0, 2)
		wantTrim(t, r, 0, 0, 3)
		deliver(t, r, 2, 0)
		wantShow(t, r, 0, "{a:4|5}") // 4.2 did not name 1.1
		wantTrim(t, r, 0, 3, 1)      // that copy 1 has 4.2 is not known
	})
}

// Operations that wait are missing, too.
func TestTrimWithOperationsThatWait(t *testing.T) {
	r := open(t, 2)
	put(t, r, 0, "a", 1)
	learn(t, r, 1, 0)
	put(t, r, 1, "b", count(9)...)
	answer(t, r, 0, 1)
	later(t, r, 1, 0)
	deliver(t, r, 1, 0) // the ninth
	later(t, r, 1, 0)
	ask(t, r, 1, 0)
	later(t, r, 1, 0)
	deliver(t, r, 1, 0) // the question
	wantTrim(t, r, 0, 0, 1)
	deliver(t, r, 1, 0)
	wantHeard(t, r, 0, 1, 9)
	wantTrim(t, r, 0, 10, 0)
}

// What another copy had of a third one's operations may be missing: the third one tells of its own.
func TestTrimWithOperationsOfAThirdOneMissing(t *testing.T) {
	eachSpacing(t, 3, func(r *Room) {
		put(t, r, 0, "a", 1, 2, 3)
		learn(t, r, 1, 0)
		learn(t, r, 2, 0)
		tell(t, r, 0, 2)
		put(t, r, 2, "a", 4)
		learn(t, r, 1, 2)
		tell(t, r, 0, 1) // 3 0 1
		wantTrim(t, r, 0, 3, 0)
		put(t, r, 0, "b", 1)
		learn(t, r, 0, 2)
		wantShow(t, r, 0, "{a:4,b:1}")
		wantTrim(t, r, 0, 0, 2) // 4.0, of which nobody knows, is ahead of 4.2
	})
}

// The first that is not settled ends it, with settled ones behind: the order is that of the Ids.
func TestTrimUpToTheFirst(t *testing.T) {
	eachSpacing(t, 3, func(r *Room) {
		put(t, r, 1, "b", 1)
		put(t, r, 0, "a", 1, 2, 3)
		learn(t, r, 0, 1)
		put(t, r, 0, "a", 4)
		learn(t, r, 1, 0)
		answer(t, r, 2, 0)
		deliver(t, r, 0, 2)
		wantHeard(t, r, 2, 4, 1, 0)
		put(t, r, 1, "b", 2)
		put(t, r, 0, "a", 5, 6)
		learn(t, r, 0, 1)
		// 1.0 1.1 2.0 3.0 4.0 5.0 5.1 6.0
		tell(t, r, 0, 1) // 4 2 0
		tell(t, r, 0, 2) // 4 1 0
		wantTrim(t, r, 0, 5, 3)
		answer(t, r, 2, 0)
		deliver(t, r, 0, 2)
		tell(t, r, 0, 2) // 6 2 0: of those left, 5.1 is settled
		wantTrim(t, r, 0, 0, 3)
		learn(t, r, 1, 0)
		tell(t, r, 0, 1)
		wantTrim(t, r, 0, 3, 0)
		wantShow(t, r, 0, "{a:6,b:2}")
	})
}

// Each copy forgets for itself.
func TestTrimOfOneCopyAndRoom(t *testing.T) {
	r, s := open(t, 3), open(t, 3)
	for _, room := range []*Room{r, s} {
		put(t, room, 0, "a", 1, 2)
		learnAll(t, room)
		learnAll(t, room)
	}
	wantTrim(t, r, 1, 2, 0)
	wantKept(t, r, 0, 2)
	wantKept(t, r, 2, 2)
	for c := range 3 {
		wantKept(t, s, c, 2)
		wantShow(t, r, c, "{a:2}")
		wantHeard(t, r, c, 2, 0, 0)
	}
	wantTrim(t, s, 0, 2, 0)
	wantKept(t, r, 0, 2)
}

// The lists that come out do not change by forgetting, nor what is known by writing into them.
func TestTrimAndFreshLists(t *testing.T) {
	r := open(t, 2)
	put(t, r, 0, "a", 1, 2)
	learn(t, r, 1, 0)
	heard, _ := r.Heard(1)
	ask(t, r, 1, 0)
	scribble(heard, 99)
	deliver(t, r, 1, 0)
	kept, _ := r.Heard(0)
	put(t, r, 0, "a", 3)
	values, _ := r.Values(0, root, "a")
	wantTrim(t, r, 0, 2, 1)
	if !slices.Equal(kept, []int{2, 0}) || !slices.Equal(values, []api.Value{{Number: 3}}) {
		t.Errorf("lists told earlier are now %v, %v", kept, values)
	}
	scribble(kept, 99)
	scribble(values, api.Value{Number: 99})
	wantTrim(t, r, 0, 0, 1)
	wantHeard(t, r, 0, 3, 0)
	wantShow(t, r, 0, "{a:3}")
}

// P9, of a copy that has forgotten.

// places takes the messages off a link, all of operations, and tells of each the places of its operations.
func places(r *Room, from, to int) [][]place {
	var told [][]place
	for l := r.links[ends{from, to}]; l.waiting() > 0; {
		var part []place
		for _, o := range l.receive().(batch) {
			part = append(part, placeOf(o))
		}
		told = append(told, part)
	}
	return told
}

// In copy 0 are so many operations, of which copy 1 had some, and has told it; then a question arrives from when it had nothing.
func TestAnswerWithoutForgotten(t *testing.T) {
	for made := range api.MaxOwn + 1 {
		for forgotten := range made + 1 {
			r := open(t, 2)
			ask(t, r, 1, 0)
			put(t, r, 0, "a", count(forgotten)...)
			share(r)
			ask(t, r, 1, 0)
			deliverAt(t, r, 1, 0, 1)
			wantTrim(t, r, 0, forgotten, 0)
			put(t, r, 0, "a", count(made-forgotten)...)
			wantWaiting(t, r, 0, 1, 0)
			deliver(t, r, 1, 0)
			var want [][]place
			for first := 0; first < min(made, api.MaxBatch*api.MaxParts); first += api.MaxBatch {
				var part []place
				for nth := max(first, forgotten) + 1; nth <= min(first+api.MaxBatch, made); nth++ {
					part = append(part, place{0, nth})
				}
				want = append(want, part)
			}
			if told := places(r, 0, 1); fmt.Sprint(told) != fmt.Sprint(want) {
				t.Fatalf("%d of %d are forgotten: %v waits, want %v", forgotten, made, told, want)
			}
		}
	}
}

// Those of several copies have gaps at several places.
func TestAnswerOfSeveralWithoutForgotten(t *testing.T) {
	r := open(t, 3)
	put(t, r, 0, "a", 1)
	share(r)
	ask(t, r, 2, 0) // 1 0 0
	put(t, r, 0, "a", count(4)...)
	put(t, r, 1, "b", count(5)...)
	share(r)
	tell(t, r, 0, 1)
	ask(t, r, 2, 0)
	deliverAt(t, r, 2, 0, 1)
	wantTrim(t, r, 0, 10, 0)
	put(t, r, 0, "a", 6, 7)
	put(t, r, 1, "b", count(7)...)
	share(r)
	wantHeard(t, r, 0, 7, 12, 0)
	deliver(t, r, 2, 0)
	want := "[[{0 6} {0 7}] [{1 6} {1 7} {1 8} {1 9} {1 10}] [{1 11} {1 12}]]"
	if told := fmt.Sprint(places(r, 0, 2)); told != want {
		t.Errorf("%s waits, want %s", told, want)
	}
}

// What waited on a link when it was forgotten arrives all the same, and what has come twice changes nothing.
func TestTrimWithMessagesOnTheirWay(t *testing.T) {
	eachSpacing(t, 3, func(r *Room) {
		put(t, r, 0, "a", count(10)...)
		answer(t, r, 1, 0)
		again(t, r, 0, 1)
		again(t, r, 0, 1) // 1 to 8, 9 and 10, 1 to 8, 1 to 8
		deliver(t, r, 0, 1)
		deliver(t, r, 0, 1)
		answer(t, r, 2, 0)
		deliverAll(r, 0, 2)
		tell(t, r, 0, 2)
		ask(t, r, 1, 0)
		deliver(t, r, 1, 0)
		wantTrim(t, r, 0, 10, 0)
		wantWaiting(t, r, 0, 1, 2)
		tell(t, r, 1, 2)
		ask(t, r, 0, 1)
		wantTrim(t, r, 1, 0, 10)
		deliver(t, r, 0, 1)
		wantTrim(t, r, 1, 0, 10)
		deliver(t, r, 0, 1)
		deliver(t, r, 0, 1)
		wantTrim(t, r, 1, 10, 0)
		put(t, r, 1, "a", 11)
		learn(t, r, 0, 1)
		wantShow(t, r, 0, "{a:11}")
		wantHeard(t, r, 1, 10, 1, 0)
		wantKept(t, r, 1, 1)
	})
}

// Operations come once more to a copy that has forgotten them.
func TestForgottenOperationsComeAgain(t *testing.T) {
	eachSpacing(t, 2, func(r *Room) {
		put(t, r, 0, "a", count(10)...)
		answer(t, r, 1, 0)
		again(t, r, 0, 1)
		later(t, r, 0, 1)
		again(t, r, 0, 1) // 9 and 10, 1 to 8, 1 to 8, 9 and 10
		deliver(t, r, 0, 1)
		deliver(t, r, 0, 1)
		ask(t, r, 0, 1)
		deliverAt(t, r, 0, 1, 2)
		wantTrim(t, r, 1, 10, 0)
		put(t, r, 1, "a", 11)
		deliver(t, r, 0, 1)
		deliver(t, r, 0, 1)
		wantKept(t, r, 1, 1)
		wantHeard(t, r, 1, 10, 1)
		wantShow(t, r, 1, "{a:11}")
		wantNoneEarly(t, r, 1)
	})
}

// A copy that has forgotten is asked by one that lacks what others have still.
func TestForgetfulCopyIsAsked(t *testing.T) {
	eachSpacing(t, 3, func(r *Room) {
		ask(t, r, 2, 0)
		put(t, r, 0, "a", count(9)...)
		share(r)
		ask(t, r, 2, 0)
		deliverAt(t, r, 2, 0, 1)
		tell(t, r, 0, 1)
		wantTrim(t, r, 0, 9, 0)
		put(t, r, 1, "a", 10, 11)
		ask(t, r, 2, 0)
		deliver(t, r, 2, 0) // from when it had nothing
		wantWaiting(t, r, 0, 2, 2)
		deliver(t, r, 2, 0)
		wantWaiting(t, r, 0, 2, 2)
		deliver(t, r, 0, 2) // both of them without operations
		deliver(t, r, 0, 2)
		wantHeard(t, r, 2, 9, 0, 0)
		wantShow(t, r, 2, "{a:9}")
		learn(t, r, 0, 1)
		wantTrim(t, r, 0, 0, 2) // copy 2 lacks them
		answer(t, r, 2, 0)
		wantWaiting(t, r, 0, 2, 1)
		deliver(t, r, 0, 2)
		wantHeard(t, r, 2, 9, 2, 0)
		wantShow(t, r, 2, "{a:11}")
		answer(t, r, 2, 1)
		wantWaiting(t, r, 1, 2, 0)
		wantKept(t, r, 1, 11)
		wantKept(t, r, 2, 11)
	})
}

// Behind a Trim.

// forgetful opens a room of three that have a list of six elements at l, the third of them unseen; copy 0 has forgotten all of that.
func forgetful(t *testing.T, spacing int, trims bool) (*Room, api.Id) {
	t.Helper()
	r := openAt(t, 3, spacing)
	list, e := r.Nest(0, root, "l", true)
	wantErrno(t, "Nest", e, api.OK)
	for n := range 6 {
		insert(t, r, list, n, n)
	}
	wantErrno(t, "CutAt", r.CutAt(0, list, 2), api.OK)
	for c := 1; c < 3; c++ {
		answer(t, r, c, 0)
		deliverAll(r, 0, c)
		tell(t, r, 0, c)
	}
	if trims {
		wantTrim(t, r, 0, 15, 0)
	}
	return r, list
}

// crowd lets the others make 16 operations each that hang on what copy 0 has forgotten; they wait for it in two messages each.
func crowd(t *testing.T, r *Room, list api.Id) {
	t.Helper()
	for c := 1; c < 3; c++ {
		for n := range 5 {
			_, e := r.Insert(c, list, 1+n%2, 10*c+n)
			wantErrno(t, "Insert", e, api.OK)
		}
		_, e := r.Nest(c, root, "m", c == 1)
		wantErrno(t, "Nest", e, api.OK)
		wantErrno(t, "SetAt", r.SetAt(c, list, 0, 100*c), api.OK)
		wantErrno(t, "CutAt", r.CutAt(c, list, 7), api.OK)
		wantErrno(t, "SetAt", r.SetAt(c, list, 8, 101*c), api.OK)
		wantErrno(t, "Cut", r.Cut(c, root, "l"), api.OK)
		answer(t, r, 0, c)
		wantWaiting(t, r, c, 0, 2)
	}
}

// arrivals lets the four messages come to copy 0 in this order, with operations of its own in between, and tells all that it shows.
func arrivals(t *testing.T, r *Room, list api.Id, order []int, trims bool) string {
	t.Helper()
	var told strings.Builder
	left := map[int][]int{1: {0, 1}, 2: {2, 3}}
	for i, m := range order {
		insert(t, r, list, i, 50+i)
		put(t, r, 0, "k", i)
		c := 1 + m/2
		at := slices.Index(left[c], m)
		deliverAt(t, r, c, 0, at)
		left[c] = slices.Delete(left[c], at, at+1)
		if trims {
			wantTrim(t, r, 0, 0, 3*i+3+len(r.copies[0].history.Beyond([]int{60, 0, 0})))
		}
		fmt.Fprintln(&told, fmt.Sprint(r.Show(0)), fmt.Sprint(r.Elements(0, list)), fmt.Sprint(r.Heard(0)))
	}
	return told.String()
}

// Operations come behind a Trim in each order that there may be, at every spacing: what is shown is what a room shows that forgets nothing.
func TestEachOrderBehindATrim(t *testing.T) {
	eachOrder(4, func(order []int) {
		r, list := forgetful(t, 7, false)
		crowd(t, r, list)
		want := arrivals(t, r, list, order, false)
		for spacing := 1; spacing <= api.MaxSpacing && !t.Failed(); spacing++ {
			r, list := forgetful(t, spacing, true)
			crowd(t, r, list)
			if told := arrivals(t, r, list, order, true); told != want {
				t.Errorf("spacing %d, order %v: %s, want %s", spacing, order, told, want)
			}
		}
	})
}

// A late operation comes ahead of all that is remembered, directly behind what is forgotten.
func TestDirectlyBehindForgotten(t *testing.T) {
	eachSpacing(t, 2, func(r *Room) {
		list, _ := r.Nest(0, root, "l", true)
		insert(t, r, list, 0, 1)
		learn(t, r, 1, 0)
		tell(t, r, 0, 1)
		wantTrim(t, r, 0, 4, 0)
		element, e := r.Insert(1, list, 1, 2)
		wantId(t, "Insert", element, e, id(5, 1), api.OK)
		element, e = r.Insert(0, list, 1, 3)
		wantId(t, "Insert", element, e, id(5, 0), api.OK)
		put(t, r, 0, "a", count(30)...)
		put(t, r, 1, "a", 31)
		learn(t, r, 0, 1)
		wantShow(t, r, 0, "{a:31|30,l:[1,2,3]}")
		wantTrim(t, r, 0, 0, 35)
	})
}

// All that is told.

// caller leads a room through a row of calls that hangs on its seed and on what it was told, and notes the answers.
type caller struct {
	rng     *rand.Rand
	room    *Room
	objects []api.Id
	notes   []string
}

func (k *caller) note(answers ...any) {
	k.notes = append(k.notes, fmt.Sprint(answers...))
}

func (k *caller) noteMade(made api.Id, e api.Errno) {
	k.note(made, e)
	if made != root {
		k.objects = append(k.objects, made)
	}
}

func (k *caller) write(c int) {
	r, n := k.room, k.rng.Intn(100)
	o := k.objects[k.rng.Intn(len(k.objects))]
	key := string(rune('a' + k.rng.Intn(3)))
	index := k.rng.Intn(5)
	switch k.rng.Intn(9) {
	case 0:
		k.note(r.Put(c, o, key, n))
	case 1:
		k.noteMade(r.Nest(c, o, key, n%2 == 0))
	case 2:
		k.note(r.Cut(c, o, key))
	case 3, 4, 5:
		k.note(r.Insert(c, o, index, n))
	case 6:
		k.noteMade(r.NestAt(c, o, index, n%2 == 0))
	case 7:
		k.note(r.SetAt(c, o, index, n))
	default:
		k.note(r.CutAt(c, o, index))
	}
}

func (k *caller) link(from, to int) {
	r := k.room
	switch n := k.rng.Intn(100); {
	case n < 35:
		k.note(r.Ask(from, to))
	case n < 80:
		k.note(r.Deliver(from, to))
	case n < 85:
		k.note(r.Lose(from, to))
	case n < 90:
		k.note(r.Again(from, to))
	case n < 97:
		k.note(r.Later(from, to))
	case n < 99:
		k.note(r.Drain(from, to))
	case k.rng.Intn(8) == 0:
		k.note(r.Shut(from, to))
	}
}

func (k *caller) step() {
	copies := len(k.room.copies)
	c := k.rng.Intn(copies)
	if k.rng.Intn(4) == 0 {
		k.write(c)
	} else {
		k.link(c, k.rng.Intn(copies))
	}
	for c := range copies {
		k.note(k.room.Show(c))
		k.note(k.room.Heard(c))
		for other := range copies {
			k.note(k.room.Waiting(c, other))
		}
		o := k.objects[k.rng.Intn(len(k.objects))]
		k.note(k.room.Elements(c, o))
		k.note(k.room.Values(c, o, "a"))
	}
}

// lead notes all that a room tells in so many calls; between two of them a copy may forget, one of so many times.
func lead(t *testing.T, seed int64, copies, spacing, steps, trims int) (notes []string, forgotten int) {
	t.Helper()
	k := &caller{rng: rand.New(rand.NewSource(seed)), room: openAt(t, copies, spacing), objects: []api.Id{root}}
	other := rand.New(rand.NewSource(seed + 1))
	for range steps {
		k.step()
		for c := range copies {
			if trims > 0 && other.Intn(trims) == 0 {
				n, e := k.room.Trim(c)
				wantErrno(t, "Trim", e, api.OK)
				forgotten += n
			}
		}
	}
	return k.notes, forgotten
}

// Rooms hear the same calls, but for Trim and the spacing: they tell the same ever after.
func TestForgettingIsUnseen(t *testing.T) {
	for copies := 1; copies <= api.MaxCopies; copies++ {
		forgotten := 0
		for seed := range int64(25) {
			want, _ := lead(t, seed, copies, 6, 250*copies, 0)
			for i, spacing := range []int{1, 2 + int(seed), api.MaxSpacing} {
				told, n := lead(t, seed, copies, spacing, 250*copies, []int{1, 7, 40}[i])
				forgotten += n
				for j := range want {
					if told[j] != want[j] {
						t.Fatalf("%d copies, seed %d, spacing %d: %s, want %s", copies, seed, spacing, told[j], want[j])
					}
				}
			}
		}
		if forgotten < 1000 {
			t.Errorf("in rooms of %d only %d operations were forgotten", copies, forgotten)
		}
	}
}

// P14, of copies that forget: all have all in the end, and can forget it.
func TestAllHaveAllInTheEndThoughTheyForget(t *testing.T) {
	for copies := 2; copies <= api.MaxCopies; copies++ {
		for seed := range int64(30) {
			rng := rand.New(rand.NewSource(seed))
			r := openAt(t, copies, 1+rng.Intn(api.MaxSpacing))
			list, e := r.Nest(0, root, "l", true)
			wantErrno(t, "Nest", e, api.OK)
			for c := 1; c < copies; c++ {
				learn(t, r, c, 0)
			}
			for range 200 * copies {
				spread(r, rng, 1, list)
				r.Trim(rng.Intn(copies))
			}
			settle(t, r, 10)
			wantAll(t, r)
			shown, _ := r.Show(0)
			for c := range copies {
				kept, _ := r.Kept(c)
				wantTrim(t, r, c, kept, 0)
				wantShow(t, r, c, shown)
			}
			wantAll(t, r)
		}
	}
}
