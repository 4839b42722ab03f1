package quire

import (
	"math"
	"math/rand"
	"slices"
	"strconv"
	"strings"
	"testing"

	"quire/api"
)

func openAt(t *testing.T, copies, spacing int) *Room {
	t.Helper()
	r, e := New(copies, spacing)
	wantErrno(t, "New", e, api.OK)
	return r
}

func put(t *testing.T, r *Room, c int, key string, numbers ...int) {
	t.Helper()
	for _, n := range numbers {
		wantErrno(t, "Put", r.Put(c, root, key, n), api.OK)
	}
}

// count is 1 to n.
func count(n int) []int {
	var numbers []int
	for i := range n {
		numbers = append(numbers, i+1)
	}
	return numbers
}

func ask(t *testing.T, r *Room, from, to int) {
	t.Helper()
	wantErrno(t, "Ask", r.Ask(from, to), api.OK)
}

func deliver(t *testing.T, r *Room, from, to int) {
	t.Helper()
	wantErrno(t, "Deliver", r.Deliver(from, to), api.OK)
}

func lose(t *testing.T, r *Room, from, to int) {
	t.Helper()
	wantErrno(t, "Lose", r.Lose(from, to), api.OK)
}

func again(t *testing.T, r *Room, from, to int) {
	t.Helper()
	wantErrno(t, "Again", r.Again(from, to), api.OK)
}

func later(t *testing.T, r *Room, from, to int) {
	t.Helper()
	wantErrno(t, "Later", r.Later(from, to), api.OK)
}

func shut(t *testing.T, r *Room, from, to int) {
	t.Helper()
	wantErrno(t, "Shut", r.Shut(from, to), api.OK)
}

func wantDrain(t *testing.T, r *Room, from, to, want int) {
	t.Helper()
	if n, e := r.Drain(from, to); n != want || e != api.OK {
		t.Errorf("Drain(%d, %d) = %d, %d, want %d", from, to, n, e, want)
	}
}

// answer lets a copy ask another one, and the answer wait.
func answer(t *testing.T, r *Room, c, other int) {
	t.Helper()
	ask(t, r, c, other)
	deliver(t, r, c, other)
}

// deliverAll lets all that waits on a link arrive.
func deliverAll(r *Room, from, to int) {
	for r.Deliver(from, to) == api.OK {
	}
}

// learn lets a copy ask another one till it has all that this one has.
func learn(t *testing.T, r *Room, c, other int) {
	t.Helper()
	for range api.MaxOwn * api.MaxCopies / (api.MaxBatch * api.MaxParts) {
		ask(t, r, c, other)
		deliverAll(r, c, other)
		deliverAll(r, other, c)
	}
}

func learnAll(t *testing.T, r *Room) {
	t.Helper()
	for c := range r.copies {
		for other := range r.copies {
			if c != other {
				learn(t, r, c, other)
			}
		}
	}
	for c := range r.copies {
		learn(t, r, c, (c+1)%len(r.copies))
	}
}

func wantHeard(t *testing.T, r *Room, c int, want ...int) {
	t.Helper()
	if l, e := r.Heard(c); !slices.Equal(l, want) || e != api.OK {
		t.Errorf("Heard(%d) = %v, %d, want %v", c, l, e, want)
	}
}

func wantWaiting(t *testing.T, r *Room, from, to, want int) {
	t.Helper()
	if n, e := r.Waiting(from, to); n != want || e != api.OK {
		t.Errorf("Waiting(%d, %d) = %d, %d, want %d", from, to, n, e, want)
	}
}

// fill lets so many questions wait on a link.
func fill(t *testing.T, r *Room, from, to, n int) {
	t.Helper()
	for range n {
		ask(t, r, from, to)
	}
}

// P7.

func TestHeard(t *testing.T) {
	for copies := 1; copies <= api.MaxCopies; copies++ {
		r := open(t, copies)
		want := make([]int, copies)
		for c := range copies {
			wantHeard(t, r, c, want...)
		}
		put(t, r, copies-1, "a", 1)
		want[copies-1] = 1
		wantHeard(t, r, copies-1, want...)
	}
}

func TestHeardCountsOperations(t *testing.T) {
	r, list := withList(t, 2)
	wantHeard(t, r, 0, 2, 0)
	insert(t, r, list, 0, 1)
	wantHeard(t, r, 0, 4, 0)
	_, e := r.NestAt(0, list, 0, true)
	wantErrno(t, "NestAt", e, api.OK)
	wantHeard(t, r, 0, 7, 0)
	wantErrno(t, "CutAt", r.CutAt(0, list, 0), api.OK)
	wantErrno(t, "SetAt", r.SetAt(0, list, 0, 2), api.OK)
	wantErrno(t, "Cut", r.Cut(0, root, "l"), api.OK)
	wantHeard(t, r, 0, 10, 0)
	wantErrno(t, "Cut of nothing", r.Cut(0, root, "l"), api.ErrNone)
	wantHeard(t, r, 0, 10, 0)
	wantHeard(t, r, 1, 0, 0)
}

func TestHeardOfNoCopy(t *testing.T) {
	r := open(t, 2)
	for _, c := range []int{-1, 2, math.MinInt, math.MaxInt} {
		if l, e := r.Heard(c); len(l) != 0 || e != api.ErrCopy {
			t.Errorf("Heard(%d) = %v, %d", c, l, e)
		}
	}
}

func TestHeardIsFresh(t *testing.T) {
	r := open(t, 2)
	put(t, r, 0, "a", 1)
	kept, _ := r.Heard(0)
	other, _ := r.Heard(0)
	scribble(other, 99)
	wantHeard(t, r, 0, 1, 0)
	ask(t, r, 0, 1)
	put(t, r, 0, "a", 2)
	if !slices.Equal(kept, []int{1, 0}) {
		t.Errorf("a list told earlier is now %v", kept)
	}
}

// P8.

func TestNoSuchLink(t *testing.T) {
	r := open(t, 3)
	refused, _ := New(0, 1)
	for _, room := range []*Room{r, refused, open(t, 1)} {
		for _, l := range []ends{{0, 0}, {2, 2}, {-1, 0}, {0, -1}, {3, 0}, {0, 3}, {-1, -1}, {3, 3}, {math.MaxInt, 0}, {1, math.MinInt}} {
			wantErrno(t, "Ask", room.Ask(l.from, l.to), api.ErrLink)
			wantErrno(t, "Deliver", room.Deliver(l.from, l.to), api.ErrLink)
			wantErrno(t, "Shut", room.Shut(l.from, l.to), api.ErrLink)
			wantErrno(t, "Lose", room.Lose(l.from, l.to), api.ErrLink)
			wantErrno(t, "Again", room.Again(l.from, l.to), api.ErrLink)
			wantErrno(t, "Later", room.Later(l.from, l.to), api.ErrLink)
			if n, e := room.Drain(l.from, l.to); n != 0 || e != api.ErrLink {
				t.Errorf("Drain(%d, %d) = %d, %d", l.from, l.to, n, e)
			}
			if n, e := room.Waiting(l.from, l.to); n != 0 || e != api.ErrLink {
				t.Errorf("Waiting(%d, %d) = %d, %d", l.from, l.to, n, e)
			}
		}
	}
	for c := range 3 {
		for d := range 3 {
			if c != d {
				wantWaiting(t, r, c, d, 0)
				wantErrno(t, "Deliver of nothing", r.Deliver(c, d), api.ErrEmpty)
			}
		}
	}
}

func TestFullLink(t *testing.T) {
	r := open(t, 3)
	put(t, r, 1, "a", 1)
	for n := range api.MaxWaiting {
		wantWaiting(t, r, 0, 1, n)
		ask(t, r, 0, 1)
	}
	for range 2 {
		wantErrno(t, "Ask on a full link", r.Ask(0, 1), api.ErrFull)
		wantWaiting(t, r, 0, 1, api.MaxWaiting)
	}
	wantWaiting(t, r, 1, 0, 0)
	wantWaiting(t, r, 0, 2, 0)
	wantWaiting(t, r, 2, 1, 0)
	deliver(t, r, 0, 1)
	wantWaiting(t, r, 0, 1, api.MaxWaiting-1)
	ask(t, r, 0, 1)
	wantErrno(t, "Ask on a full link", r.Ask(0, 1), api.ErrFull)
	shut(t, r, 0, 1)
	wantErrno(t, "Ask on a full link that is shut", r.Ask(0, 1), api.ErrShut)
	wantWaiting(t, r, 0, 1, api.MaxWaiting)
}

func TestShutLink(t *testing.T) {
	r := open(t, 2)
	put(t, r, 1, "a", 1)
	ask(t, r, 0, 1)
	shut(t, r, 0, 1)
	wantErrno(t, "Shut once more", r.Shut(0, 1), api.ErrShut)
	wantErrno(t, "Ask on a link that is shut", r.Ask(0, 1), api.ErrShut)
	wantWaiting(t, r, 0, 1, 1)
	deliver(t, r, 0, 1)
	wantErrno(t, "Deliver of nothing", r.Deliver(0, 1), api.ErrEmpty)
	wantErrno(t, "Ask on an empty link that is shut", r.Ask(0, 1), api.ErrShut)
	select {
	case <-r.links[ends{0, 1}].messages:
	default:
		t.Errorf("the channel of a link that is shut is not closed")
	}
	deliver(t, r, 1, 0)
	wantHeard(t, r, 0, 0, 1)
	put(t, r, 0, "a", 2)
	answer(t, r, 1, 0)
	wantWaiting(t, r, 0, 1, 0)
	wantErrno(t, "Deliver of nothing", r.Deliver(0, 1), api.ErrEmpty)
	wantHeard(t, r, 1, 0, 1)
}

// A question is what the copy had when it asked.
func TestQuestionsAreOfTheirTime(t *testing.T) {
	r := open(t, 2)
	put(t, r, 0, "a", 1, 2)
	put(t, r, 1, "a", 3)
	ask(t, r, 1, 0)
	ask(t, r, 1, 0)
	put(t, r, 1, "a", 4)
	deliver(t, r, 1, 0)
	deliver(t, r, 0, 1)
	wantHeard(t, r, 1, 2, 2)
	ask(t, r, 1, 0)
	deliver(t, r, 1, 0)
	wantWaiting(t, r, 0, 1, 1)
	deliver(t, r, 1, 0)
	wantWaiting(t, r, 0, 1, 1)
	wantWaiting(t, r, 1, 0, 0)
}

// P9.

// The document's second example.
func TestTwoPutsBesideEachOther(t *testing.T) {
	r := open(t, 2)
	put(t, r, 0, "a", 10)
	put(t, r, 1, "a", 11)
	answer(t, r, 0, 1)
	wantWaiting(t, r, 1, 0, 1)
	wantShow(t, r, 0, "{a:10}")
	deliver(t, r, 1, 0)
	wantShow(t, r, 0, "{a:10|11}")
	wantValues(t, r, root, "a", api.Value{Number: 10}, api.Value{Number: 11})
	put(t, r, 0, "a", 3)
	wantShow(t, r, 0, "{a:3}")
	answer(t, r, 1, 0)
	deliver(t, r, 0, 1)
	wantShow(t, r, 1, "{a:3}")
}

func TestAnswersBySize(t *testing.T) {
	whole := api.MaxBatch * api.MaxParts
	for _, size := range []int{0, 1, api.MaxBatch - 1, api.MaxBatch, api.MaxBatch + 1, 20, whole - 1, whole, whole + 1, api.MaxOwn} {
		r := open(t, 2)
		put(t, r, 0, "a", count(size)...)
		answer(t, r, 1, 0)
		parts := min((size+api.MaxBatch-1)/api.MaxBatch, api.MaxParts)
		wantWaiting(t, r, 0, 1, parts)
		wantWaiting(t, r, 1, 0, 0)
		for n := range parts {
			wantHeard(t, r, 1, n*api.MaxBatch, 0)
			deliver(t, r, 0, 1)
		}
		heard := min(size, whole)
		wantHeard(t, r, 1, heard, 0)
		wantErrno(t, "Deliver of nothing", r.Deliver(0, 1), api.ErrEmpty)
		if heard > 0 {
			wantShow(t, r, 1, "{a:"+strconv.Itoa(heard)+"}")
		}
		answer(t, r, 1, 0)
		wantWaiting(t, r, 0, 1, min((size-heard+api.MaxBatch-1)/api.MaxBatch, api.MaxParts))
	}
}

// The question is gone, whatever becomes of the answer.
func TestLinkBackWithLittleRoom(t *testing.T) {
	for room := range api.MaxParts + 2 {
		r := open(t, 2)
		put(t, r, 0, "a", count(20)...)
		fill(t, r, 0, 1, api.MaxWaiting-room)
		answer(t, r, 1, 0)
		wantWaiting(t, r, 1, 0, 0)
		wantWaiting(t, r, 0, 1, api.MaxWaiting-room+min(room, 3))
		for range api.MaxWaiting - room {
			deliver(t, r, 0, 1)
		}
		wantHeard(t, r, 1, 0, 0)
		for n := range min(room, 3) {
			deliver(t, r, 0, 1)
			wantHeard(t, r, 1, min(8*n+8, 20), 0)
		}
		wantErrno(t, "Deliver of nothing", r.Deliver(0, 1), api.ErrEmpty)
	}
}

func TestLinkBackThatIsShut(t *testing.T) {
	r := open(t, 2)
	put(t, r, 0, "a", count(20)...)
	ask(t, r, 0, 1)
	shut(t, r, 0, 1)
	answer(t, r, 1, 0)
	wantWaiting(t, r, 1, 0, 0)
	wantWaiting(t, r, 0, 1, 1)
	deliver(t, r, 0, 1)
	wantHeard(t, r, 1, 0, 0)
}

// An answer goes by copies, then by places; a message may be of several copies.
func TestAnswerOfSeveralCopies(t *testing.T) {
	r := open(t, 4)
	put(t, r, 2, "c", count(5)...)
	put(t, r, 0, "a", count(6)...)
	put(t, r, 1, "b", count(4)...)
	learn(t, r, 2, 1)
	learn(t, r, 2, 0)
	wantHeard(t, r, 2, 6, 4, 5, 0)
	put(t, r, 2, "d", 1, 2, 3)
	answer(t, r, 3, 2)
	wantWaiting(t, r, 2, 3, 3)
	deliver(t, r, 2, 3)
	wantHeard(t, r, 3, 6, 2, 0, 0)
	wantShow(t, r, 3, "{a:6,b:2}")
	deliver(t, r, 2, 3)
	wantHeard(t, r, 3, 6, 4, 6, 0)
	deliver(t, r, 2, 3)
	wantHeard(t, r, 3, 6, 4, 8, 0)
	wantShow(t, r, 3, "{a:6,b:4,c:5,d:3}")
	answer(t, r, 0, 2)
	deliver(t, r, 2, 0)
	wantHeard(t, r, 0, 6, 4, 4, 0)
}

// A copy that knows more than the one that it asks hears of the rest.
func TestQuestionOfMoreThanThereIs(t *testing.T) {
	r := open(t, 3)
	put(t, r, 0, "a", 1, 2, 3)
	learn(t, r, 1, 0)
	answer(t, r, 1, 2)
	wantWaiting(t, r, 2, 1, 0)
	put(t, r, 2, "b", 1)
	answer(t, r, 1, 2)
	deliver(t, r, 2, 1)
	wantHeard(t, r, 1, 3, 0, 1)
	wantShow(t, r, 1, "{a:3,b:1}")
}

// The document's fifth example, and what the copy may not tell while operations wait with it.
func TestAheadOfEarlierOnes(t *testing.T) {
	r := open(t, 3)
	put(t, r, 0, "a", count(20)...)
	answer(t, r, 1, 0)
	wantWaiting(t, r, 0, 1, 3)
	lose(t, r, 0, 1)
	deliver(t, r, 0, 1)
	deliver(t, r, 0, 1)
	wantHeard(t, r, 1, 0, 0, 0)
	wantShow(t, r, 1, "{}")
	answer(t, r, 2, 1)
	wantWaiting(t, r, 1, 2, 0)
	made, e := r.Nest(1, root, "m", false)
	wantId(t, "Nest while operations wait", made, e, id(1, 1), api.OK)
	answer(t, r, 1, 0)
	deliver(t, r, 0, 1)
	wantHeard(t, r, 1, 20, 2, 0)
	wantShow(t, r, 1, "{a:20,m:{}}")
	made, e = r.Nest(1, root, "m", false)
	wantId(t, "Nest behind those that came", made, e, id(21, 1), api.OK)
	wantNoneEarly(t, r, 1)
}

func wantNoneEarly(t *testing.T, r *Room, c int) {
	t.Helper()
	if n := len(r.copies[c].early); n != 0 {
		t.Errorf("%d operations wait still with copy %d", n, c)
	}
}

// The last message first.
func TestBackToFront(t *testing.T) {
	r := open(t, 2)
	put(t, r, 0, "a", count(20)...)
	answer(t, r, 1, 0)
	later(t, r, 0, 1)
	later(t, r, 0, 1)
	deliver(t, r, 0, 1) // 17 to 20
	wantHeard(t, r, 1, 0, 0)
	later(t, r, 0, 1)
	deliver(t, r, 0, 1) // 9 to 16
	wantHeard(t, r, 1, 0, 0)
	deliver(t, r, 0, 1)
	wantHeard(t, r, 1, 20, 0)
	wantShow(t, r, 1, "{a:20}")
}

func TestTwice(t *testing.T) {
	r := open(t, 2)
	put(t, r, 0, "a", count(12)...)
	fill(t, r, 1, 0, 3)
	for range 3 {
		deliver(t, r, 1, 0)
	}
	wantWaiting(t, r, 0, 1, 6)
	later(t, r, 0, 1)
	deliver(t, r, 0, 1) // 9 to 12 wait
	later(t, r, 0, 1)
	deliver(t, r, 0, 1) // once more
	wantHeard(t, r, 1, 0, 0)
	deliver(t, r, 0, 1) // 1 to 8
	wantHeard(t, r, 1, 12, 0)
	put(t, r, 1, "b", 1)
	deliver(t, r, 0, 1) // 9 to 12, which it has
	deliver(t, r, 0, 1) // 1 to 8, which it has, too
	deliver(t, r, 0, 1)
	wantErrno(t, "Deliver of nothing", r.Deliver(0, 1), api.ErrEmpty)
	wantHeard(t, r, 1, 12, 1)
	wantNoneEarly(t, r, 1)
	wantShow(t, r, 1, "{a:12,b:1}")
	made, e := r.Nest(1, root, "m", false)
	wantId(t, "Nest", made, e, id(14, 1), api.OK)
}

// What a copy made itself comes back to it, by a question that waited long.
func TestOwnOperationsComeBack(t *testing.T) {
	r := open(t, 3)
	ask(t, r, 0, 1)
	put(t, r, 0, "a", 1, 2)
	learn(t, r, 2, 0)
	learn(t, r, 1, 2)
	put(t, r, 0, "a", 3)
	put(t, r, 1, "b", 1)
	deliver(t, r, 0, 1)
	wantWaiting(t, r, 1, 0, 1)
	deliver(t, r, 1, 0)
	wantHeard(t, r, 0, 3, 1, 0)
	wantShow(t, r, 0, "{a:3,b:1}")
}

// A new counter is above all that the copy has, the waiting ones left out.
func TestCounters(t *testing.T) {
	r := open(t, 3)
	put(t, r, 0, "a", count(9)...)
	made, e := r.Nest(1, root, "m", false)
	wantId(t, "Nest", made, e, id(1, 1), api.OK)
	learn(t, r, 1, 0)
	made, e = r.Nest(1, root, "m", false)
	wantId(t, "Nest", made, e, id(10, 1), api.OK)
	made, e = r.Nest(2, root, "m", true)
	wantId(t, "Nest", made, e, id(1, 2), api.OK)
	learn(t, r, 2, 1)
	element, e := r.Insert(2, id(1, 2), 0, 1)
	wantId(t, "Insert", element, e, id(12, 2), api.OK)
	learn(t, r, 0, 2)
	wantShow(t, r, 0, "{a:9,m:[1]|{}}")
	wantErrno(t, "Put of an object of another copy", r.Put(0, id(10, 1), "x", 5), api.OK)
	made, e = r.Nest(0, root, "n", false)
	wantId(t, "Nest", made, e, id(15, 0), api.OK)
}

// What other copies have made is not there until it has come.
func TestObjectsOfOthers(t *testing.T) {
	r, list := withList(t, 2)
	wantErrno(t, "SetAt", r.SetAt(1, list, 0, 1), api.ErrObject)
	learn(t, r, 1, 0)
	element, e := r.Insert(1, list, 0, 5)
	wantId(t, "Insert", element, e, id(3, 1), api.OK)
	wantErrno(t, "Put into a list", r.Put(1, list, "a", 5), api.ErrKind)
	wantShow(t, r, 0, "{l:[]}")
	learn(t, r, 0, 1)
	wantShow(t, r, 0, "{l:[5]}")
	wantErrno(t, "SetAt", r.SetAt(0, list, 0, 6), api.OK)
	wantShow(t, r, 0, "{l:[6]}")
}

// Delivery changes no list that was told, nor do refusals change anything.
func TestRefusalsOnLinksChangeNothing(t *testing.T) {
	r, list := withList(t, 2)
	insert(t, r, list, 0, 1)
	kept, _ := r.Elements(0, list)
	keptValues, _ := r.Values(0, root, "l")
	put(t, r, 1, "l", 7)
	fill(t, r, 0, 1, api.MaxWaiting)
	wantErrno(t, "Ask", r.Ask(0, 1), api.ErrFull)
	wantErrno(t, "Deliver", r.Deliver(1, 0), api.ErrEmpty)
	wantErrno(t, "Deliver", r.Deliver(0, 2), api.ErrLink)
	wantHeard(t, r, 0, 4, 0)
	wantHeard(t, r, 1, 0, 1)
	wantWaiting(t, r, 0, 1, api.MaxWaiting)
	wantWaiting(t, r, 1, 0, 0)
	wantShow(t, r, 0, "{l:[1]}")
	deliver(t, r, 0, 1)
	deliver(t, r, 1, 0)
	wantShow(t, r, 0, "{l:7|[1]}")
	if !slices.Equal(kept, []api.Id{id(3, 0)}) || !slices.Equal(keptValues, []api.Value{{Object: list}}) {
		t.Errorf("lists told earlier are now %v, %v", kept, keptValues)
	}
}

func TestLinksOfRoomsAreApart(t *testing.T) {
	r, s := open(t, 2), open(t, 2)
	put(t, r, 0, "a", 1)
	put(t, s, 0, "b", 2)
	ask(t, r, 1, 0)
	wantWaiting(t, s, 1, 0, 0)
	wantErrno(t, "Deliver", s.Deliver(1, 0), api.ErrEmpty)
	deliver(t, r, 1, 0)
	deliver(t, r, 0, 1)
	wantShow(t, r, 1, "{a:1}")
	wantShow(t, s, 1, "{}")
	wantHeard(t, s, 1, 0, 0)
}

// P13.

// eachSpacing runs a test in rooms of all spacings, up to the first at which it fails: what is told must be the same.
func eachSpacing(t *testing.T, copies int, test func(r *Room)) {
	for spacing := 1; spacing <= api.MaxSpacing && !t.Failed(); spacing++ {
		test(openAt(t, copies, spacing))
	}
}

// Operations that come late, behind ones with greater Ids.
func TestLate(t *testing.T) {
	eachSpacing(t, 3, func(r *Room) {
		put(t, r, 0, "a", count(30)...)
		put(t, r, 1, "b", count(20)...)
		put(t, r, 2, "a", 7)
		list, e := r.Nest(2, root, "l", true)
		wantId(t, "Nest", list, e, id(2, 2), api.OK)
		for n := range 8 {
			_, e := r.Insert(2, list, n/2, n)
			wantErrno(t, "Insert", e, api.OK)
		}
		shown := "{a:7|30,b:20,l:[1,3,5,7,6,4,2,0]}"
		learn(t, r, 0, 2)
		wantShow(t, r, 0, "{a:7|30,l:[1,3,5,7,6,4,2,0]}")
		learn(t, r, 0, 1)
		wantShow(t, r, 0, shown)
		learn(t, r, 1, 2)
		wantShow(t, r, 1, "{a:7,b:20,l:[1,3,5,7,6,4,2,0]}")
		learn(t, r, 1, 0)
		wantShow(t, r, 1, shown)
		learn(t, r, 2, 1)
		wantShow(t, r, 2, shown)
		put(t, r, 2, "a", -1)
		learn(t, r, 1, 2)
		wantShow(t, r, 1, strings.Replace(shown, "7|30", "-1", 1))
	})
}

// The document's third example; then the same at the beginning of the list.
func TestLaidBehindTheSame(t *testing.T) {
	eachSpacing(t, 2, func(r *Room) {
		list, _ := r.Nest(0, root, "l", true)
		insert(t, r, list, 0, 1)
		insert(t, r, list, 1, 4)
		learn(t, r, 1, 0)
		p, _ := r.Insert(0, list, 1, 3)
		q, _ := r.Insert(1, list, 1, 2)
		if p != id(7, 0) || q != id(7, 1) {
			t.Fatalf("elements %v, %v", p, q)
		}
		wantShow(t, r, 0, "{l:[1,3,4]}")
		wantShow(t, r, 1, "{l:[1,2,4]}")
		learnAll(t, r)
		wantShow(t, r, 0, "{l:[1,2,3,4]}")
		wantShow(t, r, 1, "{l:[1,2,3,4]}")
		_, e := r.Insert(0, list, 0, 0)
		wantErrno(t, "Insert", e, api.OK)
		_, e = r.Insert(1, list, 0, -1)
		wantErrno(t, "Insert", e, api.OK)
		learnAll(t, r)
		wantShow(t, r, 0, "{l:[-1,0,1,2,3,4]}")
		wantShow(t, r, 1, "{l:[-1,0,1,2,3,4]}")
	})
}

// The document's fourth example, at a key and at an element.
func TestPutBesideCut(t *testing.T) {
	eachSpacing(t, 2, func(r *Room) {
		put(t, r, 0, "a", 1)
		list, _ := r.Nest(0, root, "l", true)
		insert(t, r, list, 0, 2)
		insert(t, r, list, 1, 3)
		learn(t, r, 1, 0)
		wantErrno(t, "Cut", r.Cut(0, root, "a"), api.OK)
		wantErrno(t, "CutAt", r.CutAt(0, list, 0), api.OK)
		put(t, r, 1, "a", 5)
		wantErrno(t, "SetAt", r.SetAt(1, list, 0, 6), api.OK)
		wantShow(t, r, 0, "{l:[3]}")
		learnAll(t, r)
		wantShow(t, r, 0, "{a:5,l:[6,3]}")
		wantShow(t, r, 1, "{a:5,l:[6,3]}")
		wantErrno(t, "SetAt", r.SetAt(0, list, 0, 7), api.OK)
		wantErrno(t, "SetAt", r.SetAt(1, list, 0, 8), api.OK)
		learnAll(t, r)
		wantShow(t, r, 0, "{a:5,l:[7|8,3]}")
		wantShow(t, r, 1, "{a:5,l:[7|8,3]}")
	})
}

// What copy 0 did to a list of copy 1 comes to copy 2 ahead of that list, of its elements, and of a map in it.
func TestObjectsThatComeLate(t *testing.T) {
	eachSpacing(t, 3, func(r *Room) {
		list, _ := r.Nest(1, root, "l", true)
		for n := range 3 {
			_, e := r.Insert(1, list, n, n)
			wantErrno(t, "Insert", e, api.OK)
		}
		inner, e := r.NestAt(1, list, 3, false)
		wantErrno(t, "NestAt", e, api.OK)
		learn(t, r, 0, 1)
		insert(t, r, list, 1, 10)
		wantErrno(t, "SetAt", r.SetAt(0, list, 0, 9), api.OK)
		wantErrno(t, "CutAt", r.CutAt(0, list, 2), api.OK)
		wantErrno(t, "Put", r.Put(0, inner, "x", 8), api.OK)
		put(t, r, 0, "a", count(3)...)
		shown := "{a:3,l:[9,10,2,{x:8}]}"
		wantShow(t, r, 0, shown)
		answer(t, r, 2, 0)
		deliver(t, r, 0, 2)
		wantHeard(t, r, 2, 8, 0, 0)
		wantShow(t, r, 2, "{a:3}")
		wantErrno(t, "Put", r.Put(2, inner, "x", 7), api.ErrObject)
		_, e = r.Elements(2, list)
		wantErrno(t, "Elements", e, api.ErrObject)
		deliver(t, r, 0, 2)
		wantHeard(t, r, 2, 8, 8, 0)
		wantShow(t, r, 2, "{a:3,l:[9,10,2]}")
		deliver(t, r, 0, 2)
		wantHeard(t, r, 2, 8, 11, 0)
		wantShow(t, r, 2, shown)
	})
}

// Copies that heard the same show the same, and no two elements ever change places, in any copy.
func TestOneOrder(t *testing.T) {
	for spacing := 1; spacing <= api.MaxSpacing; spacing++ {
		rng := rand.New(rand.NewSource(int64(spacing)))
		r := openAt(t, 3, spacing)
		list, _ := r.Nest(0, root, "l", true)
		learn(t, r, 1, 0)
		learn(t, r, 2, 0)
		ahead := map[[2]api.Id]int{}
		for range 200 {
			scatter(r, rng, list)
			for c := range 3 {
				told, _ := r.Elements(c, list)
				for i, first := range told {
					for _, second := range told[i+1:] {
						ahead[[2]api.Id{first, second}]++
					}
				}
			}
		}
		for p := range ahead {
			if ahead[[2]api.Id{p[1], p[0]}] > 0 {
				t.Fatalf("spacing %d: %v stood ahead of %v, and behind it", spacing, p[0], p[1])
			}
		}
		wantSame(t, r)
	}
}

// scatter does something to the list in some copy, or lets a message go on its way, get lost, come twice or late.
func scatter(r *Room, rng *rand.Rand, list api.Id) {
	c := rng.Intn(3)
	d := (c + 1 + rng.Intn(2)) % 3
	told, _ := r.Elements(c, list)
	switch n := rng.Intn(12); {
	case n < 3:
		r.Insert(c, list, rng.Intn(len(told)+1), n)
	case n < 4:
		r.CutAt(c, list, rng.Intn(len(told)+1))
	case n < 7:
		r.Ask(c, d)
	case n < 8:
		[]func(from, to int) api.Errno{r.Lose, r.Again, r.Later}[rng.Intn(3)](c, d)
	default:
		r.Deliver(c, d)
	}
}

// wantSame lets all copies hear of everything.
func wantSame(t *testing.T, r *Room) {
	t.Helper()
	for range 2 { // the second time, what the first one has called forth
		for from := range r.copies {
			for to := range r.copies {
				deliverAll(r, from, to)
			}
		}
	}
	learnAll(t, r)
	shown, _ := r.Show(0)
	heard, _ := r.Heard(0)
	for c := range r.copies {
		wantShow(t, r, c, shown)
		wantHeard(t, r, c, heard...)
	}
}
