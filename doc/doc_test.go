package doc

import (
	"slices"
	"testing"

	"quire/api"
)

var root api.Id

func id(counter, copy int) api.Id { return api.Id{Counter: counter, Copy: copy} }

func op(counter, copy int, change Change) Operation {
	return Operation{Id: id(counter, copy), Change: change}
}

func number(n int) api.Value { return api.Value{Number: n} }

func refer(o api.Id) api.Value { return api.Value{Object: o} }

func wantText(t *testing.T, d *Document, text string) {
	t.Helper()
	if s := d.Text(); s != text {
		t.Errorf("Text() = %s, want %s", s, text)
	}
}

// nested is a document of the map 1.0 at m and the list 3.0 at l, which has the elements 5.0 and 7.0.
func nested() *Document {
	d := New()
	d.Do(
		op(1, 0, Make{List: false}), op(2, 0, Give{Place: KeyOf(root, "m"), Value: refer(id(1, 0))}),
		op(3, 0, Make{List: true}), op(4, 0, Give{Place: KeyOf(root, "l"), Value: refer(id(3, 0))}),
		op(5, 0, Lay{List: id(3, 0)}), op(6, 0, Give{Place: ElementOf(id(3, 0), id(5, 0)), Value: number(5)}),
		op(7, 0, Lay{List: id(3, 0), Behind: id(5, 0)}), op(8, 0, Give{Place: ElementOf(id(3, 0), id(7, 0)), Value: number(7)}),
	)
	return d
}

func TestOrderOfIds(t *testing.T) {
	order := []api.Id{id(0, 0), id(1, 0), id(1, 1), id(1, 3), id(2, 0), id(10, 0), id(10, 1)}
	for i, a := range order {
		for j, b := range order {
			if c := Compare(a, b); (c < 0) != (i < j) || (c > 0) != (i > j) {
				t.Errorf("Compare(%v, %v) = %d", a, b, c)
			}
		}
	}
}

func TestValuesSideBySide(t *testing.T) {
	d := New()
	a := KeyOf(root, "a")
	d.Do(op(1, 0, Give{Place: a, Value: number(10)}), op(1, 1, Give{Place: a, Value: number(11)}), op(1, 2, Give{Place: a, Value: number(-12)}))
	wantText(t, d, "{a:10|11|-12}")
	if g := d.Givers(a); !slices.Equal(g, []api.Id{id(1, 0), id(1, 1), id(1, 2)}) {
		t.Errorf("Givers = %v", g)
	}
	d.Do(op(2, 1, Give{Place: a, Value: number(3), Instead: []api.Id{id(1, 0), id(1, 2)}}))
	wantText(t, d, "{a:11|3}")
	if v := d.Values(a); !slices.Equal(v, []api.Value{number(11), number(3)}) {
		t.Errorf("Values = %v", v)
	}
	d.Do(op(3, 0, Take{Place: a, Gone: []api.Id{id(1, 1)}}))
	wantText(t, d, "{a:3}")
}

func TestValuesInTheOrderOfIds(t *testing.T) {
	d := New()
	for counter := 1; counter <= 12; counter++ {
		for copy := range 3 {
			d.Do(op(counter, copy, Give{Place: KeyOf(root, "a"), Value: number(10*counter + copy)}))
		}
	}
	v := d.Values(KeyOf(root, "a"))
	if len(v) != 36 || !slices.IsSortedFunc(v, func(a, b api.Value) int { return a.Number - b.Number }) {
		t.Errorf("Values = %v", v)
	}
}

func TestObjectsSideBySide(t *testing.T) {
	d := New()
	d.Do(
		op(1, 0, Make{List: true}), op(1, 1, Make{List: false}),
		op(2, 0, Give{Place: KeyOf(root, "a"), Value: refer(id(1, 0))}),
		op(2, 1, Give{Place: KeyOf(root, "a"), Value: refer(id(1, 1))}),
		op(2, 2, Give{Place: KeyOf(root, "a"), Value: number(0)}),
	)
	wantText(t, d, "{a:[]|{}|0}")
}

func TestTakeLeavesWhatItDoesNotName(t *testing.T) {
	d := New()
	a, b := KeyOf(root, "a"), KeyOf(root, "b")
	d.Do(
		op(1, 0, Give{Place: a, Value: number(1)}), op(2, 0, Give{Place: b, Value: number(2)}),
		op(3, 0, Take{Place: a, Gone: []api.Id{id(1, 0), id(2, 0), id(9, 9)}}),
		op(3, 1, Give{Place: a, Value: number(4), Instead: []api.Id{id(1, 0)}}),
	)
	wantText(t, d, "{a:4,b:2}")
	d.Do(op(4, 0, Give{Place: a, Value: number(5), Instead: []api.Id{id(2, 0)}}))
	wantText(t, d, "{a:4|5,b:2}")
}

func TestLaidBehindTheSameElement(t *testing.T) {
	d := nested()
	l := id(3, 0)
	d.Do(
		op(9, 0, Lay{List: l, Behind: id(5, 0)}), op(9, 1, Lay{List: l, Behind: id(5, 0)}),
		op(10, 0, Give{Place: ElementOf(l, id(9, 0)), Value: number(90)}),
		op(10, 1, Give{Place: ElementOf(l, id(9, 1)), Value: number(91)}),
	)
	wantText(t, d, "{l:[5,91,90,7],m:{}}")
	d.Do(op(11, 0, Lay{List: l}), op(12, 0, Give{Place: ElementOf(l, id(11, 0)), Value: number(0)}))
	wantText(t, d, "{l:[0,5,91,90,7],m:{}}")
}

func TestUnseenElementStays(t *testing.T) {
	d := nested()
	l := id(3, 0)
	d.Do(op(9, 0, Take{Place: ElementOf(l, id(5, 0)), Gone: []api.Id{id(6, 0)}}))
	wantText(t, d, "{l:[7],m:{}}")
	d.Do(op(10, 1, Lay{List: l, Behind: id(5, 0)}))
	if e := d.Elements(l); !slices.Equal(e, []api.Id{id(7, 0)}) {
		t.Errorf("Elements = %v: one without values can't be seen", e)
	}
	d.Do(op(11, 1, Give{Place: ElementOf(l, id(10, 1)), Value: number(10)}))
	wantText(t, d, "{l:[10,7],m:{}}")
	d.Do(op(12, 2, Give{Place: ElementOf(l, id(5, 0)), Value: number(5)}))
	wantText(t, d, "{l:[5,10,7],m:{}}")
}

func TestCloneGoesItsOwnWay(t *testing.T) {
	l, m := id(3, 0), id(1, 0)
	later := []Operation{
		op(9, 0, Lay{List: l}), op(10, 0, Give{Place: ElementOf(l, id(9, 0)), Value: number(9)}),
		op(11, 0, Lay{List: l, Behind: id(7, 0)}), op(12, 0, Give{Place: ElementOf(l, id(11, 0)), Value: number(11)}),
		op(13, 0, Give{Place: ElementOf(l, id(5, 0)), Value: number(6), Instead: []api.Id{id(6, 0)}}),
		op(14, 0, Take{Place: ElementOf(l, id(7, 0)), Gone: []api.Id{id(8, 0)}}),
		op(15, 0, Give{Place: KeyOf(m, "a"), Value: number(1)}), op(16, 0, Give{Place: KeyOf(root, "b"), Value: number(2)}),
		op(17, 0, Give{Place: KeyOf(m, "a"), Value: number(3)}), op(18, 0, Make{List: true}),
		op(19, 0, Give{Place: KeyOf(m, "a"), Value: refer(id(18, 0)), Instead: []api.Id{id(17, 0)}}),
		op(20, 0, Take{Place: KeyOf(m, "a"), Gone: []api.Id{id(15, 0)}}), op(21, 0, Take{Place: KeyOf(root, "b"), Gone: []api.Id{id(16, 0)}}),
	}
	d := nested()
	var clones []*Document
	var texts []string
	for _, o := range later {
		clones, texts = append(clones, d.Clone()), append(texts, d.Text())
		d.Do(o)
	}
	wantText(t, d, "{l:[9,6,11],m:{a:[]}}")
	for i, c := range clones {
		wantText(t, c, texts[i])
		c.Do(later[i:]...)
		wantText(t, c, "{l:[9,6,11],m:{a:[]}}")
		for _, other := range clones[i+1:] {
			if other.Text() != texts[slices.Index(clones, other)] {
				t.Errorf("a clone changed another one")
			}
		}
	}
	wantText(t, d, "{l:[9,6,11],m:{a:[]}}")
}

func TestWhatSpeaksOfNothingDoesNothing(t *testing.T) {
	list, other := id(3, 0), id(90, 0)
	for _, c := range []struct {
		what   string
		change Change
	}{
		{"give a key of no object", Give{Place: KeyOf(id(9, 9), "a"), Value: number(1)}},
		{"give a key of an element", Give{Place: KeyOf(id(5, 0), "a"), Value: number(1)}},
		{"give a key of a list", Give{Place: KeyOf(list, "a"), Value: number(1)}},
		{"give a key no object", Give{Place: KeyOf(root, "l"), Value: refer(id(9, 9)), Instead: []api.Id{id(4, 0)}}},
		{"give no element", Give{Place: ElementOf(list, id(9, 9)), Value: number(1)}},
		{"give the beginning of a list", Give{Place: ElementOf(list, root), Value: number(1)}},
		{"give an element of a map", Give{Place: ElementOf(root, id(5, 0)), Value: number(1), Instead: []api.Id{id(6, 0)}}},
		{"give an element of another list", Give{Place: ElementOf(other, id(5, 0)), Value: number(1), Instead: []api.Id{id(6, 0)}}},
		{"lay into no object", Lay{List: id(9, 9)}},
		{"lay into a map", Lay{List: root}},
		{"lay behind no element", Lay{List: list, Behind: id(9, 9)}},
		{"lay behind an element of another list", Lay{List: other, Behind: id(5, 0)}},
		{"take a key of no object", Take{Place: KeyOf(id(9, 9), "m"), Gone: []api.Id{id(2, 0)}}},
		{"take a key of a list", Take{Place: KeyOf(list, "m"), Gone: []api.Id{id(2, 0)}}},
		{"take a key without values", Take{Place: KeyOf(root, "a"), Gone: []api.Id{id(2, 0)}}},
		{"take of no element", Take{Place: ElementOf(list, id(9, 9)), Gone: []api.Id{id(6, 0)}}},
		{"take of an element of another list", Take{Place: ElementOf(other, id(5, 0)), Gone: []api.Id{id(6, 0)}}},
	} {
		d := nested()
		d.Do(op(90, 0, Make{List: true}), op(91, 0, Give{Place: KeyOf(root, "o"), Value: refer(other)}))
		d.Do(op(92, 0, c.change))
		d.Do(op(93, 0, Give{Place: ElementOf(list, id(92, 0)), Value: number(1)}))
		d.Do(op(94, 0, Give{Place: ElementOf(other, id(92, 0)), Value: number(1)}))
		if s := d.Text(); s != "{l:[5,7],m:{},o:[]}" || len(d.elements) != 2 {
			t.Errorf("%s: Text() = %s, of %d elements", c.what, s, len(d.elements))
		}
	}
}

func TestThereOnlyThen(t *testing.T) {
	d := New()
	d.Do(
		op(1, 1, Give{Place: KeyOf(id(2, 0), "a"), Value: number(1)}),
		op(2, 0, Make{List: false}),
		op(3, 0, Give{Place: KeyOf(root, "m"), Value: refer(id(2, 0))}),
	)
	wantText(t, d, "{m:{}}")
}

func TestAskedOfWhatIsNot(t *testing.T) {
	d := nested()
	for _, o := range []api.Id{id(9, 9), id(2, 0), id(5, 0), id(0, 1), id(-1, 0)} {
		if d.Has(o) || d.IsList(o) || len(d.Elements(o)) != 0 || len(d.Keys(o)) != 0 || len(d.Values(KeyOf(o, "a"))) != 0 {
			t.Errorf("there is an object %v", o)
		}
	}
	if !d.Has(root) || d.IsList(root) || !d.Has(id(3, 0)) || !d.IsList(id(3, 0)) {
		t.Errorf("the root is no map, or 3.0 no list")
	}
	if len(d.Elements(root)) != 0 || len(d.Keys(id(3, 0))) != 0 {
		t.Errorf("a map has elements, or a list keys")
	}
}
