package quire

import (
	"math"
	"slices"
	"strconv"
	"strings"
	"testing"

	"quire/api"
	"quire/doc"
)

var root api.Id

func id(counter, copy int) api.Id { return api.Id{Counter: counter, Copy: copy} }

func open(t *testing.T, copies int) *Room {
	t.Helper()
	r, e := New(copies, 5)
	if r == nil || e != api.OK {
		t.Fatalf("New(%d, 5) = %v, %d", copies, r, e)
	}
	return r
}

func wantErrno(t *testing.T, what string, e, want api.Errno) {
	t.Helper()
	if e != want {
		t.Errorf("%s = %d, want %d", what, e, want)
	}
}

func wantId(t *testing.T, what string, made api.Id, e api.Errno, want api.Id, wantE api.Errno) {
	t.Helper()
	if made != want || e != wantE {
		t.Errorf("%s = %v, %d, want %v, %d", what, made, e, want, wantE)
	}
}

func wantShow(t *testing.T, r *Room, c int, want string) {
	t.Helper()
	if s, e := r.Show(c); s != want || e != api.OK {
		t.Errorf("Show(%d) = %s, %d, want %s", c, s, e, want)
	}
}

func wantElements(t *testing.T, r *Room, list api.Id, want ...api.Id) {
	t.Helper()
	if l, e := r.Elements(0, list); !slices.Equal(l, want) || e != api.OK {
		t.Errorf("Elements(0, %v) = %v, %d, want %v", list, l, e, want)
	}
}

func wantValues(t *testing.T, r *Room, object api.Id, key string, want ...api.Value) {
	t.Helper()
	if l, e := r.Values(0, object, key); !slices.Equal(l, want) || e != api.OK {
		t.Errorf("Values(0, %v, %s) = %v, %d, want %v", object, key, l, e, want)
	}
}

// withList opens a room whose copy 0 has the list 1.0 at l; two operations are made.
func withList(t *testing.T, copies int) (*Room, api.Id) {
	t.Helper()
	r := open(t, copies)
	list, e := r.Nest(0, root, "l", true)
	wantId(t, "Nest", list, e, id(1, 0), api.OK)
	return r, list
}

func insert(t *testing.T, r *Room, list api.Id, index, n int) api.Id {
	t.Helper()
	element, e := r.Insert(0, list, index, n)
	wantErrno(t, "Insert", e, api.OK)
	return element
}

// spend lets copy 0 make operations at the key z till it has made so many.
func spend(t *testing.T, r *Room, from, to int) {
	t.Helper()
	for n := from; n < to; n++ {
		wantErrno(t, "Put", r.Put(0, root, "z", 1), api.OK)
	}
}

func TestNewAtItsLimits(t *testing.T) {
	sizes := []int{math.MinInt, -1, 0, 1, 2, api.MaxCopies, api.MaxCopies + 1, api.MaxSpacing, api.MaxSpacing + 1, math.MaxInt}
	for _, copies := range sizes {
		for _, spacing := range sizes {
			r, e := New(copies, spacing)
			if copies < 1 || copies > api.MaxCopies || spacing < 1 || spacing > api.MaxSpacing {
				if r != nil || e != api.ErrSize {
					t.Errorf("New(%d, %d) = %v, %d, want ErrSize", copies, spacing, r, e)
				}
				continue
			}
			wantErrno(t, "New", e, api.OK)
			for c := range copies {
				wantShow(t, r, c, "{}")
			}
			_, e = r.Show(copies)
			wantErrno(t, "Show of one copy too far", e, api.ErrCopy)
		}
	}
}

// The document's first example, at several spacings.
func TestExample(t *testing.T) {
	for _, spacing := range []int{1, 2, 3, api.MaxSpacing} {
		r, e := New(2, spacing)
		wantErrno(t, "New", e, api.OK)
		wantErrno(t, "Put", r.Put(0, root, "a", 7), api.OK)
		wantErrno(t, "Put", r.Put(0, root, "b", -1), api.OK)
		wantShow(t, r, 0, "{a:7,b:-1}")
		wantShow(t, r, 1, "{}")
		list, e := r.Nest(0, root, "c", true)
		wantId(t, "Nest", list, e, id(3, 0), api.OK)
		wantShow(t, r, 0, "{a:7,b:-1,c:[]}")
		element, e := r.Insert(0, list, 0, 5)
		wantId(t, "Insert", element, e, id(5, 0), api.OK)
		element, e = r.Insert(0, list, 0, 4)
		wantId(t, "Insert", element, e, id(7, 0), api.OK)
		wantShow(t, r, 0, "{a:7,b:-1,c:[4,5]}")
		wantErrno(t, "CutAt", r.CutAt(0, list, 0), api.OK)
		wantShow(t, r, 0, "{a:7,b:-1,c:[5]}")
		wantErrno(t, "Cut", r.Cut(0, root, "b"), api.OK)
		wantShow(t, r, 0, "{a:7,c:[5]}")
		wantErrno(t, "Cut once more", r.Cut(0, root, "b"), api.ErrNone)
	}
}

func TestPut(t *testing.T) {
	r := open(t, 1)
	for _, n := range []int{7, 0, -1, math.MaxInt, math.MinInt} {
		wantErrno(t, "Put", r.Put(0, root, "a", n), api.OK)
		wantShow(t, r, 0, "{a:"+strconv.Itoa(n)+"}")
		wantValues(t, r, root, "a", api.Value{Number: n})
	}
	wantErrno(t, "Put", r.Put(0, root, "b", 1), api.OK)
	made, e := r.Nest(0, root, "c", false)
	wantId(t, "Nest behind six of Put", made, e, id(7, 0), api.OK)
}

func TestKeys(t *testing.T) {
	r := open(t, 1)
	for _, key := range []string{"zz", "a", "zzzz", "ab", "aa", "abcd", "z"} {
		wantErrno(t, "Put of "+key, r.Put(0, root, key, 1), api.OK)
	}
	shown := "{a:1,aa:1,ab:1,abcd:1,z:1,zz:1,zzzz:1}"
	for _, key := range []string{"", "abcde", strings.Repeat("a", 1000), "A", "aB", "a ", "1", "a\x00", "`", "{", "é", "aé", "\xff", "ａ"} {
		wantErrno(t, "Put of "+key, r.Put(0, root, key, 1), api.ErrKey)
		made, e := r.Nest(0, root, key, false)
		wantId(t, "Nest of "+key, made, e, root, api.ErrKey)
		wantErrno(t, "Cut of "+key, r.Cut(0, root, key), api.ErrKey)
		l, e := r.Values(0, root, key)
		if len(l) != 0 || e != api.ErrKey {
			t.Errorf("Values of %q = %v, %d", key, l, e)
		}
	}
	wantShow(t, r, 0, shown)
}

func TestNest(t *testing.T) {
	r := open(t, 2)
	wantErrno(t, "Put", r.Put(1, root, "a", 5), api.OK)
	made, e := r.Nest(1, root, "a", false)
	wantId(t, "Nest", made, e, id(2, 1), api.OK)
	wantShow(t, r, 1, "{a:{}}")
	wantErrno(t, "Put", r.Put(1, made, "x", 1), api.OK)
	wantShow(t, r, 1, "{a:{x:1}}")
	list, e := r.Nest(1, root, "a", true)
	wantId(t, "Nest", list, e, id(5, 1), api.OK)
	wantShow(t, r, 1, "{a:[]}")
	wantErrno(t, "Put into a map that nothing refers to", r.Put(1, made, "y", 2), api.OK)
	if l, e := r.Values(1, made, "y"); !slices.Equal(l, []api.Value{{Number: 2}}) || e != api.OK {
		t.Errorf("Values = %v, %d", l, e)
	}
	wantShow(t, r, 0, "{}")
}

func TestCut(t *testing.T) {
	r, list := withList(t, 1)
	wantErrno(t, "Cut of nothing", r.Cut(0, root, "a"), api.ErrNone)
	wantErrno(t, "Put", r.Put(0, root, "a", 1), api.OK)
	wantErrno(t, "Cut", r.Cut(0, root, "a"), api.OK)
	wantShow(t, r, 0, "{l:[]}")
	wantValues(t, r, root, "a")
	wantErrno(t, "Cut once more", r.Cut(0, root, "a"), api.ErrNone)
	wantErrno(t, "Cut of a list", r.Cut(0, root, "l"), api.OK)
	wantShow(t, r, 0, "{}")
	element := insert(t, r, list, 0, 3)
	wantElements(t, r, list, element)
	wantErrno(t, "Put anew", r.Put(0, root, "a", 2), api.OK)
	wantShow(t, r, 0, "{a:2}")
	made, e := r.Nest(0, root, "b", true)
	wantId(t, "Nest behind two of Nest, of Put, Cut, Cut, Insert, Put", made, e, id(9, 0), api.OK)
}

func TestInsert(t *testing.T) {
	r, list := withList(t, 1)
	first := insert(t, r, list, 0, 10)
	last := insert(t, r, list, 1, 20)
	middle := insert(t, r, list, 1, 15)
	ahead := insert(t, r, list, 0, -5)
	wantShow(t, r, 0, "{l:[-5,10,15,20]}")
	wantElements(t, r, list, ahead, first, middle, last)
	if first != id(3, 0) || last != id(5, 0) || middle != id(7, 0) || ahead != id(9, 0) {
		t.Errorf("elements %v %v %v %v", first, last, middle, ahead)
	}
}

func TestIndexes(t *testing.T) {
	r, list := withList(t, 1)
	for size := range 4 {
		for _, index := range []int{math.MinInt, -1, size, size + 1, math.MaxInt} {
			if index != size {
				made, e := r.Insert(0, list, index, 1)
				wantId(t, "Insert", made, e, root, api.ErrIndex)
				made, e = r.NestAt(0, list, index, true)
				wantId(t, "NestAt", made, e, root, api.ErrIndex)
			}
			wantErrno(t, "SetAt", r.SetAt(0, list, index, 1), api.ErrIndex)
			wantErrno(t, "CutAt", r.CutAt(0, list, index), api.ErrIndex)
		}
		insert(t, r, list, size, size)
	}
	wantErrno(t, "SetAt 0", r.SetAt(0, list, 0, 7), api.OK)
	wantErrno(t, "SetAt the last", r.SetAt(0, list, 3, 8), api.OK)
	wantShow(t, r, 0, "{l:[7,1,2,8]}")
	wantErrno(t, "CutAt the last", r.CutAt(0, list, 3), api.OK)
	wantErrno(t, "CutAt 0", r.CutAt(0, list, 0), api.OK)
	wantShow(t, r, 0, "{l:[1,2]}")
	wantErrno(t, "CutAt one beyond", r.CutAt(0, list, 2), api.ErrIndex)
}

func TestNestAt(t *testing.T) {
	r, list := withList(t, 1)
	inner, e := r.NestAt(0, list, 0, true)
	wantId(t, "NestAt", inner, e, id(3, 0), api.OK)
	wantElements(t, r, list, id(4, 0))
	made, e := r.NestAt(0, list, 1, false)
	wantId(t, "NestAt", made, e, id(6, 0), api.OK)
	wantShow(t, r, 0, "{l:[[],{}]}")
	insert(t, r, inner, 0, 1)
	wantErrno(t, "Put", r.Put(0, made, "a", 2), api.OK)
	wantShow(t, r, 0, "{l:[[1],{a:2}]}")
	again, e := r.NestAt(0, list, 1, true)
	wantId(t, "NestAt", again, e, id(12, 0), api.OK)
	wantElements(t, r, list, id(4, 0), id(13, 0), id(7, 0))
	wantErrno(t, "SetAt", r.SetAt(0, list, 0, 9), api.OK)
	wantShow(t, r, 0, "{l:[9,[],{a:2}]}")
	wantErrno(t, "CutAt", r.CutAt(0, list, 2), api.OK)
	wantShow(t, r, 0, "{l:[9,[]]}")
}

// What is laid behind an element stands ahead of the unseen ones that follow it.
func TestUnseenElements(t *testing.T) {
	r, list := withList(t, 1)
	a, b := insert(t, r, list, 0, 1), insert(t, r, list, 1, 2)
	wantErrno(t, "CutAt", r.CutAt(0, list, 0), api.OK)
	wantElements(t, r, list, b)
	wantErrno(t, "SetAt", r.SetAt(0, list, 0, 3), api.OK)
	wantShow(t, r, 0, "{l:[3]}")
	wantErrno(t, "CutAt", r.CutAt(0, list, 0), api.OK)
	wantShow(t, r, 0, "{l:[]}")
	wantElements(t, r, list)
	wantErrno(t, "SetAt of none", r.SetAt(0, list, 0, 1), api.ErrIndex)
	wantErrno(t, "CutAt of none", r.CutAt(0, list, 0), api.ErrIndex)
	made, e := r.Insert(0, list, 1, 1)
	wantId(t, "Insert beyond none", made, e, root, api.ErrIndex)
	c, d := insert(t, r, list, 0, 4), insert(t, r, list, 1, 5)
	wantShow(t, r, 0, "{l:[4,5]}")
	wantElements(t, r, list, c, d)
	if order := laid(r, list); !slices.Equal(order, []api.Id{c, d, a, b}) {
		t.Errorf("laid are %v, want %v", order, []api.Id{c, d, a, b})
	}
}

// laid tells all elements of a list, by giving each one that was laid a value.
func laid(r *Room, list api.Id) []api.Id {
	w := r.copies[0]
	for counter := range w.greatest + 1 {
		w.give(doc.ElementOf(list, id(counter, 0)), api.Value{})
	}
	return w.document().Elements(list)
}

// The same list, kept as plain slices, after a long row of steps.
func TestListAgainstSlices(t *testing.T) {
	for seed := range 40 {
		r, list := withList(t, 1)
		var numbers []int
		var elements []api.Id
		step := uint32(seed)
		next := func(below int) int {
			step = step*1664525 + 1013904223
			return int(step>>8) % below
		}
		for n := 0; n < 28; n++ {
			size := len(numbers)
			switch what := next(4); {
			case what < 2 || size == 0:
				at := next(size + 1)
				elements = slices.Insert(elements, at, insert(t, r, list, at, n))
				numbers = slices.Insert(numbers, at, n)
			case what == 2:
				at := next(size)
				wantErrno(t, "SetAt", r.SetAt(0, list, at, -n), api.OK)
				numbers[at] = -n
			default:
				at := next(size)
				wantErrno(t, "CutAt", r.CutAt(0, list, at), api.OK)
				elements = slices.Delete(elements, at, at+1)
				numbers = slices.Delete(numbers, at, at+1)
			}
			var digits []string
			for _, m := range numbers {
				digits = append(digits, strconv.Itoa(m))
			}
			wantShow(t, r, 0, "{l:["+strings.Join(digits, ",")+"]}")
			wantElements(t, r, list, elements...)
		}
	}
}

func TestFull(t *testing.T) {
	for left := range 5 {
		r, list := withList(t, 2)
		insert(t, r, list, 0, 1)
		spend(t, r, 4, api.MaxOwn-left)
		shown, _ := r.Show(0)
		calls := []struct {
			what string
			ops  int
			call func(r *Room) api.Errno
		}{
			{"Put", 1, func(r *Room) api.Errno { return r.Put(0, root, "a", 1) }},
			{"Cut", 1, func(r *Room) api.Errno { return r.Cut(0, root, "z") }},
			{"SetAt", 1, func(r *Room) api.Errno { return r.SetAt(0, list, 0, 1) }},
			{"CutAt", 1, func(r *Room) api.Errno { return r.CutAt(0, list, 0) }},
			{"Nest", 2, func(r *Room) api.Errno { return fullId(t, r.Nest, "a", true) }},
			{"Insert", 2, func(r *Room) api.Errno { return fullAt(t, r.Insert, list, 1) }},
			{"NestAt", 3, func(r *Room) api.Errno { return fullAt(t, r.NestAt, list, true) }},
		}
		for _, c := range calls {
			if c.ops > left {
				wantErrno(t, c.what, c.call(r), api.ErrFull)
				wantShow(t, r, 0, shown)
				continue
			}
			fresh, _ := withList(t, 2)
			insert(t, fresh, list, 0, 1)
			spend(t, fresh, 4, api.MaxOwn-left)
			wantErrno(t, c.what, c.call(fresh), api.OK)
			spend(t, fresh, api.MaxOwn-left+c.ops, api.MaxOwn)
			wantErrno(t, "Put behind "+c.what, fresh.Put(0, root, "z", 1), api.ErrFull)
		}
		spend(t, r, api.MaxOwn-left, api.MaxOwn)
		wantErrno(t, "Put of the full copy", r.Put(0, root, "z", 1), api.ErrFull)
		wantErrno(t, "Put of the other copy", r.Put(1, root, "z", 1), api.OK)
	}
}

func fullId(t *testing.T, nest func(int, api.Id, string, bool) (api.Id, api.Errno), key string, list bool) api.Errno {
	t.Helper()
	made, e := nest(0, root, key, list)
	if (made == root) != (e != api.OK) {
		t.Errorf("told is %v beside %d", made, e)
	}
	return e
}

func fullAt[V any](t *testing.T, lay func(int, api.Id, int, V) (api.Id, api.Errno), list api.Id, v V) api.Errno {
	t.Helper()
	made, e := lay(0, list, 0, v)
	if (made == root) != (e != api.OK) {
		t.Errorf("told is %v beside %d", made, e)
	}
	return e
}

func TestShowDeep(t *testing.T) {
	r := open(t, 1)
	object := root
	shown := []string{"{a:{}}", "{a:{a:{}}}", "{a:{a:{a:{}}}}", "{a:{a:{a:{a:#}}}}", "{a:{a:{a:{a:#}}}}"}
	for _, text := range shown {
		made, e := r.Nest(0, object, "a", false)
		wantErrno(t, "Nest", e, api.OK)
		wantShow(t, r, 0, text)
		object = made
	}
	wantErrno(t, "Put deep down", r.Put(0, object, "b", 1), api.OK)
	wantValues(t, r, object, "b", api.Value{Number: 1})
	wantShow(t, r, 0, "{a:{a:{a:{a:#}}}}")
	wantErrno(t, "Put four deep", r.Put(0, id(5, 0), "n", 4), api.OK)
	wantShow(t, r, 0, "{a:{a:{a:{a:#,n:4}}}}")
}

func TestShowDeepLists(t *testing.T) {
	r, list := withList(t, 1)
	for _, text := range []string{"{l:[[]]}", "{l:[[[]]]}", "{l:[[[#]]]}", "{l:[[[#]]]}"} {
		made, e := r.NestAt(0, list, 0, true)
		wantErrno(t, "NestAt", e, api.OK)
		wantShow(t, r, 0, text)
		list = made
	}
}

func TestValues(t *testing.T) {
	r, list := withList(t, 1)
	wantValues(t, r, root, "l", api.Value{Object: list})
	wantValues(t, r, root, "a")
	wantErrno(t, "Put", r.Put(0, root, "l", 0), api.OK)
	wantValues(t, r, root, "l", api.Value{})
}

// Each call, at inputs with all errors from one on: the answer is the one named first.
func TestFirstError(t *testing.T) {
	r, list := withList(t, 2)
	insert(t, r, list, 0, 1)
	spend(t, r, 4, api.MaxOwn)
	shown, _ := r.Show(0)
	for _, c := range []int{-1, 2, math.MinInt, math.MaxInt} {
		wantAtKey(t, r, c, id(9, 9), "", api.ErrCopy)
		wantAtIndex(t, r, c, id(9, 9), -1, api.ErrCopy)
		wantAtKey(t, r, c, root, "a", api.ErrCopy)
		wantAtIndex(t, r, c, list, 0, api.ErrCopy)
		if s, e := r.Show(c); s != "" || e != api.ErrCopy {
			t.Errorf("Show(%d) = %s, %d", c, s, e)
		}
	}
	for _, o := range []api.Id{id(2, 0), id(3, 0), id(1, 1), id(0, 1), id(1, -1), id(-1, 0), id(math.MaxInt, math.MinInt)} {
		wantAtKey(t, r, 0, o, "", api.ErrObject)
		wantAtIndex(t, r, 0, o, -1, api.ErrObject)
	}
	wantAtKey(t, r, 1, list, "", api.ErrObject)
	wantAtKey(t, r, 0, list, "", api.ErrKind)
	wantAtIndex(t, r, 0, root, -1, api.ErrKind)
	for _, key := range []string{"", "abcde", "A"} {
		wantAtKey(t, r, 0, root, key, api.ErrKey)
	}
	for _, index := range []int{-1, 2} {
		made, e := r.Insert(0, list, index, 1)
		wantId(t, "Insert", made, e, root, api.ErrIndex)
		made, e = r.NestAt(0, list, index, true)
		wantId(t, "NestAt", made, e, root, api.ErrIndex)
		wantErrno(t, "SetAt", r.SetAt(0, list, index, 1), api.ErrIndex)
		wantErrno(t, "CutAt", r.CutAt(0, list, index), api.ErrIndex)
	}
	wantErrno(t, "Cut of nothing", r.Cut(0, root, "a"), api.ErrNone)
	wantErrno(t, "Cut", r.Cut(0, root, "z"), api.ErrFull)
	wantShow(t, r, 0, shown)
	wantShow(t, r, 1, "{}")
}

func wantAtKey(t *testing.T, r *Room, c int, object api.Id, key string, want api.Errno) {
	t.Helper()
	wantErrno(t, "Put", r.Put(c, object, key, 1), want)
	wantErrno(t, "Cut", r.Cut(c, object, key), want)
	made, e := r.Nest(c, object, key, true)
	wantId(t, "Nest", made, e, root, want)
	if l, e := r.Values(c, object, key); len(l) != 0 || e != want {
		t.Errorf("Values(%d, %v, %q) = %v, %d, want %d", c, object, key, l, e, want)
	}
}

func wantAtIndex(t *testing.T, r *Room, c int, list api.Id, index int, want api.Errno) {
	t.Helper()
	made, e := r.Insert(c, list, index, 1)
	wantId(t, "Insert", made, e, root, want)
	made, e = r.NestAt(c, list, index, true)
	wantId(t, "NestAt", made, e, root, want)
	wantErrno(t, "SetAt", r.SetAt(c, list, index, 1), want)
	wantErrno(t, "CutAt", r.CutAt(c, list, index), want)
	if l, e := r.Elements(c, list); len(l) != 0 || e != want {
		t.Errorf("Elements(%d, %v) = %v, %d, want %d", c, list, l, e, want)
	}
}

// After a refusal the next Id is the one that was next ahead of it.
func TestRefusalsMakeNoOperations(t *testing.T) {
	r, list := withList(t, 1)
	wantErrno(t, "Put", r.Put(0, root, "A", 1), api.ErrKey)
	wantErrno(t, "Cut", r.Cut(0, root, "a"), api.ErrNone)
	wantErrno(t, "SetAt", r.SetAt(0, list, 0, 1), api.ErrIndex)
	_, e := r.Insert(0, list, 1, 1)
	wantErrno(t, "Insert", e, api.ErrIndex)
	_, e = r.NestAt(0, list, 1, true)
	wantErrno(t, "NestAt", e, api.ErrIndex)
	made, e := r.Insert(0, list, 0, 1)
	wantId(t, "Insert", made, e, id(3, 0), api.OK)
}

func TestRefusedRoom(t *testing.T) {
	r, _ := New(0, 0)
	wantAtKey(t, r, 0, root, "a", api.ErrCopy)
	wantAtIndex(t, r, 0, root, 0, api.ErrCopy)
	_, e := r.Show(0)
	wantErrno(t, "Show", e, api.ErrCopy)
}

func TestRoomsAreApart(t *testing.T) {
	r, s := open(t, 2), open(t, 2)
	wantErrno(t, "Put", r.Put(0, root, "a", 1), api.OK)
	wantShow(t, s, 0, "{}")
	list, e := s.Nest(0, root, "l", true)
	wantId(t, "Nest", list, e, id(1, 0), api.OK)
	wantErrno(t, "SetAt", r.SetAt(0, list, 0, 1), api.ErrObject)
	wantShow(t, r, 0, "{a:1}")
}

// scribble writes over a list and its spare room.
func scribble[V any](l []V, v V) {
	l = l[:cap(l)]
	for i := range l {
		l[i] = v
	}
}

func TestFreshLists(t *testing.T) {
	r, list := withList(t, 1)
	a, b, c := insert(t, r, list, 0, 1), insert(t, r, list, 1, 2), insert(t, r, list, 2, 3)
	kept, _ := r.Elements(0, list)
	keptValues, _ := r.Values(0, root, "l")
	other, _ := r.Elements(0, list)
	otherValues, _ := r.Values(0, root, "l")
	scribble(other, id(9, 9))
	scribble(otherValues, api.Value{Number: 9})
	wantElements(t, r, list, a, b, c)
	wantValues(t, r, root, "l", api.Value{Object: list})
	wantErrno(t, "CutAt", r.CutAt(0, list, 0), api.OK)
	wantErrno(t, "Put", r.Put(0, root, "l", 1), api.OK)
	if !slices.Equal(kept, []api.Id{a, b, c}) || !slices.Equal(keptValues, []api.Value{{Object: list}}) {
		t.Errorf("lists told earlier are now %v, %v", kept, keptValues)
	}
}
