package history

import (
	"math/rand"
	"slices"
	"testing"

	"quire/api"
	"quire/doc"
)

var root api.Id

func id(counter, copy int) api.Id { return api.Id{Counter: counter, Copy: copy} }

// row is operations in the order of their Ids, of three copies; most of them hang on earlier ones.
func row() []doc.Operation {
	list := id(1, 0)
	changes := []doc.Operation{
		{Id: list, Change: doc.Make{List: true}},
		{Id: id(2, 0), Change: doc.Give{Place: doc.KeyOf(root, "l"), Value: api.Value{Object: list}}},
		{Id: id(2, 1), Change: doc.Give{Place: doc.KeyOf(root, "a"), Value: api.Value{Number: 1}}},
	}
	behind := root
	for counter := 3; counter < 30; counter += 3 {
		for c := range 3 {
			element := id(counter, c)
			place := doc.ElementOf(list, element)
			changes = append(changes,
				doc.Operation{Id: element, Change: doc.Lay{List: list, Behind: behind}},
				doc.Operation{Id: id(counter+1, c), Change: doc.Give{Place: place, Value: api.Value{Number: counter*10 + c}}},
			)
			if c == 1 {
				changes = append(changes, doc.Operation{Id: id(counter+2, c), Change: doc.Take{Place: place, Gone: []api.Id{id(counter+1, c)}}})
			}
		}
		behind = id(counter, counter%3)
	}
	slices.SortFunc(changes, byId)
	made := make([]int, 3)
	for i, o := range changes {
		made[o.Id.Copy]++
		changes[i].Nth = made[o.Id.Copy]
	}
	return changes
}

func text(operations ...doc.Operation) string {
	d := doc.New()
	d.Do(operations...)
	return d.Text()
}

func wantState(t *testing.T, h *History, operations []doc.Operation) {
	t.Helper()
	wantStateBehind(t, h, 0, operations)
}

// wantStateBehind: the first so many of the operations are forgotten. What these make is remembered, and from there on what each multiple of the spacing makes.
func wantStateBehind(t *testing.T, h *History, forgotten int, operations []doc.Operation) {
	t.Helper()
	if s := h.Document().Text(); s != text(operations...) {
		t.Fatalf("spacing %d: %d operations show %s, want %s", h.spacing, len(operations), s, text(operations...))
	}
	if n := len(operations) - forgotten; h.Kept() != n || len(h.operations) != n {
		t.Fatalf("spacing %d: %d of %d operations are kept, want %d", h.spacing, h.Kept(), len(operations), n)
	}
	states := []int{forgotten}
	for n := forgotten + 1; n <= len(operations); n++ {
		if n%h.spacing == 0 {
			states = append(states, n)
		}
	}
	if len(h.remembered) != len(states) {
		t.Fatalf("spacing %d: of %d operations %d states are remembered, want %d", h.spacing, len(operations), len(h.remembered), len(states))
	}
	for i, n := range states {
		if want := text(operations[:n]...); h.remembered[i].Text() != want {
			t.Fatalf("spacing %d: state %d is %s, want %s", h.spacing, i, h.remembered[i].Text(), want)
		}
	}
}

// In whatever order they come, one by one or several at once, at every spacing.
func TestAnyOrder(t *testing.T) {
	all := row()
	rng := rand.New(rand.NewSource(1))
	for spacing := 1; spacing <= api.MaxSpacing; spacing++ {
		h := New(spacing)
		var have []doc.Operation
		for left := rng.Perm(len(all)); len(left) > 0; {
			some := 1 + rng.Intn(min(8, len(left)))
			var message []doc.Operation
			for _, i := range left[:some] {
				message = append(message, all[i])
			}
			left = left[some:]
			h.Add(message...)
			have = append(have, message...)
			slices.SortFunc(have, byId)
			wantState(t, h, have)
		}
		h.Add()
		wantState(t, h, all)
	}
}

// Operations that do not come late are done where the document stands: it goes back to no state.
func TestInOrder(t *testing.T) {
	all := row()
	for spacing := 1; spacing <= api.MaxSpacing; spacing++ {
		h := New(spacing)
		wantState(t, h, nil)
		document := h.Document()
		for i, o := range all {
			h.Add(o)
			wantState(t, h, all[:i+1])
		}
		if h.Document() != document {
			t.Errorf("spacing %d: it went back without need", spacing)
		}
		whole := New(spacing)
		whole.Add(all...)
		wantState(t, whole, all)
	}
}

// What is remembered from ahead of a late operation stays, and is not done anew.
func TestGoesBackNoFurtherThanNeeded(t *testing.T) {
	all := row()
	for spacing := 1; spacing <= api.MaxSpacing; spacing++ {
		for late := range all {
			h := New(spacing)
			h.Add(all[:late]...)
			h.Add(all[late+1:]...)
			ahead := slices.Clone(h.remembered[:late/spacing+1])
			h.Add(all[late])
			if !slices.Equal(h.remembered[:len(ahead)], ahead) {
				t.Fatalf("spacing %d: operation %d changed a state from ahead of it", spacing, late)
			}
			wantState(t, h, all)
		}
	}
}

func TestBeyond(t *testing.T) {
	all := row()
	h := New(5)
	if b := h.Beyond([]int{0, 0, 0}); len(b) != 0 {
		t.Errorf("beyond nothing are %v", b)
	}
	for i := len(all) - 1; i >= 0; i-- {
		h.Add(all[i])
	}
	for _, known := range [][]int{{0, 0, 0}, {3, 0, 1}, {60, 1, 60}, {60, 60, 60}} {
		var want []doc.Operation
		for c := range 3 {
			for _, o := range all {
				if o.Id.Copy == c && o.Nth > known[c] {
					want = append(want, o)
				}
			}
		}
		same := func(a, b doc.Operation) bool { return a.Id == b.Id && a.Nth == b.Nth }
		if b := h.Beyond(known); !slices.EqualFunc(b, want, same) {
			t.Errorf("beyond %v are %v, want %v", known, b, want)
		}
	}
}

// made tells how many operations of each copy are among these.
func made(operations []doc.Operation) []int {
	made := make([]int, 3)
	for _, o := range operations {
		made[o.Id.Copy] = max(made[o.Id.Copy], o.Nth)
	}
	return made
}

func forget(t *testing.T, h *History, settled []int, want int) {
	t.Helper()
	if n := h.Forget(settled); n != want {
		t.Fatalf("spacing %d: %d operations were forgotten, want %d", h.spacing, n, want)
	}
}

// As many as there are, at every spacing: nothing is done anew for that, and a second time nothing is left to forget.
func TestForget(t *testing.T) {
	all := row()
	for spacing := 1; spacing <= api.MaxSpacing; spacing++ {
		for forgotten := range len(all) + 1 {
			h := New(spacing)
			h.Add(all...)
			document, states := h.Document(), slices.Clone(h.remembered)
			forget(t, h, made(all[:forgotten]), forgotten)
			wantStateBehind(t, h, forgotten, all)
			if h.Document() != document || !slices.Equal(h.remembered[1:], states[forgotten/spacing+1:]) {
				t.Fatalf("spacing %d: what is behind %d forgotten operations was done anew", spacing, forgotten)
			}
			forget(t, h, made(all[:forgotten]), 0)
			wantStateBehind(t, h, forgotten, all)
		}
	}
}

// Some now, some later, with others coming in between.
func TestForgetByAndBy(t *testing.T) {
	all := row()
	rng := rand.New(rand.NewSource(2))
	for spacing := 1; spacing <= api.MaxSpacing; spacing++ {
		h := New(spacing)
		have, forgotten := 0, 0
		for forgotten < len(all) {
			more := rng.Intn(min(8, len(all)-have) + 1)
			message := slices.Clone(all[have : have+more])
			have += more
			rng.Shuffle(more, func(i, j int) { message[i], message[j] = message[j], message[i] })
			h.Add(message...)
			wantStateBehind(t, h, forgotten, all[:have])
			some := rng.Intn(min(8, have-forgotten) + 1)
			forget(t, h, made(all[:forgotten+some]), some)
			forgotten += some
			wantStateBehind(t, h, forgotten, all[:have])
		}
	}
}

// It ends at the first one that is not settled, though there are settled ones behind that.
func TestForgetUpToTheFirst(t *testing.T) {
	all := row()
	for first, o := range all {
		h := New(4)
		h.Add(all...)
		settled := made(all)
		settled[o.Id.Copy] = o.Nth - 1
		forget(t, h, settled, first)
		wantStateBehind(t, h, first, all)
	}
	empty := New(4)
	forget(t, empty, []int{60, 60, 60}, 0)
	wantState(t, empty, nil)
}

// eachOrder calls with the numbers below n in each order.
func eachOrder(n int, call func(order []int)) {
	var lay func(order []int)
	lay = func(order []int) {
		if len(order) == n {
			call(order)
			return
		}
		for i := range n {
			if !slices.Contains(order, i) {
				lay(append(slices.Clone(order), i))
			}
		}
	}
	lay(nil)
}

// What comes behind forgotten operations comes in each order.
func TestEachOrderBehindForgotten(t *testing.T) {
	all := row()[:17]
	for spacing := 1; spacing <= 18; spacing++ {
		for _, forgotten := range []int{5, 12} {
			eachOrder(5, func(order []int) {
				h := New(spacing)
				h.Add(all[:12]...)
				forget(t, h, made(all[:forgotten]), forgotten)
				have := slices.Clone(all[:12])
				for _, i := range order {
					h.Add(all[12+i])
					have = append(have, all[12+i])
					slices.SortFunc(have, byId)
					wantStateBehind(t, h, forgotten, have)
				}
			})
		}
	}
}

// In one that has forgotten, too, what is remembered from ahead of a late operation stays.
func TestGoesBackNoFurtherBehindForgotten(t *testing.T) {
	all := row()
	for spacing := 1; spacing <= api.MaxSpacing; spacing++ {
		for _, forgotten := range []int{2, 25} {
			for late := forgotten; late < len(all); late++ {
				h := New(spacing)
				h.Add(all[:late]...)
				forget(t, h, made(all[:forgotten]), forgotten)
				h.Add(all[late+1:]...)
				ahead := slices.Clone(h.remembered[:late/spacing-forgotten/spacing+1])
				h.Add(all[late])
				if !slices.Equal(h.remembered[:len(ahead)], ahead) {
					t.Fatalf("spacing %d: operation %d, behind %d forgotten ones, changed a state from ahead of it", spacing, late, forgotten)
				}
				wantStateBehind(t, h, forgotten, all)
			}
		}
	}
}

func TestBeyondForgotten(t *testing.T) {
	all := row()
	for forgotten := range len(all) + 1 {
		h := New(5)
		h.Add(all...)
		forget(t, h, made(all[:forgotten]), forgotten)
		want := slices.Clone(all[forgotten:])
		slices.SortFunc(want, byCopy)
		same := func(a, b doc.Operation) bool { return a.Id == b.Id && a.Nth == b.Nth }
		for _, known := range [][]int{{0, 0, 0}, made(all[:forgotten])} {
			if b := h.Beyond(known); !slices.EqualFunc(b, want, same) {
				t.Errorf("behind %d forgotten ones are %v, want %v", forgotten, b, want)
			}
		}
		if b := h.Beyond([]int{60, 60, 60}); len(b) != 0 {
			t.Errorf("beyond all are %v", b)
		}
	}
}
