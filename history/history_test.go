package history

import (
	"math/rand"
	"slices"
	"testing"

	"quire/api"
	"quire/doc"
)

var root api.Id

func id(counter, copy int) api.Id { return api.Id{Counter: counter, Copy: copy} }

// row is operations in the order of their Ids, of three copies; most of them hang on earlier ones.
func row() []doc.Operation {
	list := id(1, 0)
	changes := []doc.Operation{
		{Id: list, Change: doc.Make{List: true}},
		{Id: id(2, 0), Change: doc.Give{Place: doc.KeyOf(root, "l"), Value: api.Value{Object: list}}},
		{Id: id(2, 1), Change: doc.Give{Place: doc.KeyOf(root, "a"), Value: api.Value{Number: 1}}},
	}
	behind := root
	for counter := 3; counter < 30; counter += 3 {
		for c := range 3 {
			element := id(counter, c)
			place := doc.ElementOf(list, element)
			changes = append(changes,
				doc.Operation{Id: element, Change: doc.Lay{List: list, Behind: behind}},
				doc.Operation{Id: id(counter+1, c), Change: doc.Give{Place: place, Value: api.Value{Number: counter*10 + c}}},
			)
			if c == 1 {
				changes = append(changes, doc.Operation{Id: id(counter+2, c), Change: doc.Take{Place: place, Gone: []api.Id{id(counter+1, c)}}})
			}
		}
		behind = id(counter, counter%3)
	}
	slices.SortFunc(changes, byId)
	made := make([]int, 3)
	for i, o := range changes {
		made[o.Id.Copy]++
		changes[i].Nth = made[o.Id.Copy]
	}
	return changes
}

func text(operations ...doc.Operation) string {
	d := doc.New()
	d.Do(operations...)
	return d.Text()
}

func wantState(t *testing.T, h *History, operations []doc.Operation) {
	t.Helper()
	if s := h.Document().Text(); s != text(operations...) {
		t.Fatalf("spacing %d: %d operations show %s, want %s", h.spacing, len(operations), s, text(operations...))
	}
	if n := len(operations)/h.spacing + 1; len(h.remembered) != n {
		t.Fatalf("spacing %d: of %d operations %d states are remembered, want %d", h.spacing, len(operations), len(h.remembered), n)
	}
	for i, d := range h.remembered {
		if want := text(operations[:i*h.spacing]...); d.Text() != want {
			t.Fatalf("spacing %d: state %d is %s, want %s", h.spacing, i, d.Text(), want)
		}
	}
}

// In whatever order they come, one by one or several at once, at every spacing.
func TestAnyOrder(t *testing.T) {
	all := row()
	rng := rand.New(rand.NewSource(1))
	for spacing := 1; spacing <= api.MaxSpacing; spacing++ {
		h := New(spacing)
		var have []doc.Operation
		for left := rng.Perm(len(all)); len(left) > 0; {
			some := 1 + rng.Intn(min(8, len(left)))
			var message []doc.Operation
			for _, i := range left[:some] {
				message = append(message, all[i])
			}
			left = left[some:]
			h.Add(message...)
			have = append(have, message...)
			slices.SortFunc(have, byId)
			wantState(t, h, have)
		}
		h.Add()
		wantState(t, h, all)
	}
}

// Operations that do not come late are done where the document stands: it goes back to no state.
func TestInOrder(t *testing.T) {
	all := row()
	for spacing := 1; spacing <= api.MaxSpacing; spacing++ {
		h := New(spacing)
		wantState(t, h, nil)
		document := h.Document()
		for i, o := range all {
			h.Add(o)
			wantState(t, h, all[:i+1])
		}
		if h.Document() != document {
			t.Errorf("spacing %d: it went back without need", spacing)
		}
		whole := New(spacing)
		whole.Add(all...)
		wantState(t, whole, all)
	}
}

// What is remembered from ahead of a late operation stays, and is not done anew.
func TestGoesBackNoFurtherThanNeeded(t *testing.T) {
	all := row()
	for spacing := 1; spacing <= api.MaxSpacing; spacing++ {
		for late := range all {
			h := New(spacing)
			h.Add(all[:late]...)
			h.Add(all[late+1:]...)
			ahead := slices.Clone(h.remembered[:late/spacing+1])
			h.Add(all[late])
			if !slices.Equal(h.remembered[:len(ahead)], ahead) {
				t.Fatalf("spacing %d: operation %d changed a state from ahead of it", spacing, late)
			}
			wantState(t, h, all)
		}
	}
}

func TestBeyond(t *testing.T) {
	all := row()
	h := New(5)
	if b := h.Beyond([]int{0, 0, 0}); len(b) != 0 {
		t.Errorf("beyond nothing are %v", b)
	}
	for i := len(all) - 1; i >= 0; i-- {
		h.Add(all[i])
	}
	for _, known := range [][]int{{0, 0, 0}, {3, 0, 1}, {60, 1, 60}, {60, 60, 60}} {
		var want []doc.Operation
		for c := range 3 {
			for _, o := range all {
				if o.Id.Copy == c && o.Nth > known[c] {
					want = append(want, o)
				}
			}
		}
		same := func(a, b doc.Operation) bool { return a.Id == b.Id && a.Nth == b.Nth }
		if b := h.Beyond(known); !slices.EqualFunc(b, want, same) {
			t.Errorf("beyond %v are %v, want %v", known, b, want)
		}
	}
}
