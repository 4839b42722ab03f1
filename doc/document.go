package doc

import (
	"maps"
	"slices"

	"quire/api"
)

// Document is what operations have made.
type Document struct {
	objects  map[api.Id]object
	elements map[api.Id]element
}

type object struct {
	list  bool
	keys  map[string]values // of a map; never changed, as clones share it
	first api.Id            // of a list: its first element, seen or not
}

// element stays in its list for good: others may have been laid behind it by copies that still saw it.
type element struct {
	list   api.Id
	next   api.Id // the zero Id: it is the last one
	values values
}

// values lie by the Ids of the operations that gave them, as that is how others name them; they are never changed, as clones share them.
type values map[api.Id]api.Value

// New gives a document of the root alone, an empty map.
func New() *Document {
	return &Document{
		objects:  map[api.Id]object{{}: {}},
		elements: map[api.Id]element{},
	}
}

// Clone gives a document that is the same, and that goes its own way from here on.
func (d *Document) Clone() *Document {
	return &Document{objects: maps.Clone(d.objects), elements: maps.Clone(d.elements)}
}

// Do does operations one by one; they are in the order of their Ids, and behind all that were done.
func (d *Document) Do(operations ...Operation) {
	for _, o := range operations {
		o.Change.do(d, o.Id)
	}
}

func (m Make) do(d *Document, id api.Id) {
	d.objects[id] = object{list: m.List}
}

func (l Lay) do(d *Document, id api.Id) {
	if !d.IsList(l.List) {
		return
	}
	if l.Behind == (api.Id{}) {
		list := d.objects[l.List]
		d.elements[id] = element{list: l.List, next: list.first}
		list.first = id
		d.objects[l.List] = list
		return
	}
	behind, there := d.elements[l.Behind]
	if !there || behind.list != l.List {
		return
	}
	d.elements[id] = element{list: l.List, next: behind.next}
	behind.next = id
	d.elements[l.Behind] = behind
}

func (g Give) do(d *Document, id api.Id) {
	if !d.hasPlace(g.Place) || !d.Has(g.Value.Object) {
		return
	}
	v := d.at(g.Place).without(g.Instead)
	v[id] = g.Value
	d.set(g.Place, v)
}

func (t Take) do(d *Document, id api.Id) {
	if d.hasPlace(t.Place) {
		d.set(t.Place, d.at(t.Place).without(t.Gone))
	}
}

// without gives new values: those that the named operations did not give.
func (v values) without(givers []api.Id) values {
	left := values{}
	maps.Copy(left, v)
	for _, id := range givers {
		delete(left, id)
	}
	return left
}

func (v values) givers() []api.Id {
	return slices.SortedFunc(maps.Keys(v), Compare)
}

// Has tells whether there is such an object.
func (d *Document) Has(object api.Id) bool {
	_, there := d.objects[object]
	return there
}

// IsList tells whether there is such an object, and it is a list.
func (d *Document) IsList(object api.Id) bool {
	o, there := d.objects[object]
	return there && o.list
}

// hasPlace holds for every key of a map, be there values or not, as any of them may be given some.
func (d *Document) hasPlace(p Place) bool {
	if p.Key != "" {
		return d.Has(p.Object) && !d.IsList(p.Object)
	}
	e, there := d.elements[p.Element]
	return there && e.list == p.Object
}

// at gives the values of a place, nil where there is no such place or nothing was ever given to the key.
func (d *Document) at(p Place) values {
	switch {
	case !d.hasPlace(p):
		return nil
	case p.Key != "":
		return d.objects[p.Object].keys[p.Key]
	default:
		return d.elements[p.Element].values
	}
}

// set puts values at a place that there is.
func (d *Document) set(p Place, v values) {
	if p.Key == "" {
		e := d.elements[p.Element]
		e.values = v
		d.elements[p.Element] = e
		return
	}
	o := d.objects[p.Object]
	keys := map[string]values{}
	maps.Copy(keys, o.keys)
	keys[p.Key] = v
	o.keys = keys
	d.objects[p.Object] = o
}

// Givers tells the Ids of the operations that gave the values of a place, in their order.
func (d *Document) Givers(p Place) []api.Id {
	return d.at(p).givers()
}

// Values tells the values of a place, in the order of the operations that gave them.
func (d *Document) Values(p Place) []api.Value {
	v := d.at(p)
	told := make([]api.Value, 0, len(v))
	for _, id := range v.givers() {
		told = append(told, v[id])
	}
	return told
}

// Elements tells the elements of a list that can be seen, in their order.
func (d *Document) Elements(list api.Id) []api.Id {
	if !d.IsList(list) {
		return nil
	}
	var seen []api.Id
	for id := d.objects[list].first; id != (api.Id{}); id = d.elements[id].next {
		if len(d.elements[id].values) > 0 {
			seen = append(seen, id)
		}
	}
	return seen
}

// Keys tells the keys of a map that can be seen, sorted.
func (d *Document) Keys(object api.Id) []string {
	if !d.Has(object) {
		return nil
	}
	var seen []string
	for key, v := range d.objects[object].keys {
		if len(v) > 0 {
			seen = append(seen, key)
		}
	}
	slices.Sort(seen)
	return seen
}
