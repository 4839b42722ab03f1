package quire

import (
	"cmp"
	"fmt"
	"math/rand"
	"slices"
	"strings"
	"testing"

	"quire/api"
)

// The model is the document's words, taken one by one: it begins anew for each answer, and keeps plain lists.
type model struct {
	came   []map[[2]int]modelOp // of each copy, by copy and place
	forgot []map[api.Id]bool    // of each copy
	links  map[[2]int][]modelMessage
	shut   map[[2]int]bool
	asked  map[[2]int][][]int // all questions of one copy that have arrived at another
}

type modelOp struct {
	id      api.Id
	nth     int
	kind    string // map, list, lay, give, take
	object  api.Id
	key     string
	element api.Id // of lay: the one ahead
	value   api.Value
	names   []api.Id
}

type modelMessage struct {
	asks  bool
	known []int
	ops   []modelOp
}

type modelDoc struct {
	maps  map[api.Id]bool
	lists map[api.Id][]api.Id // with all that was laid into each
	given []modelOp
}

func newModel(copies int) *model {
	m := &model{links: map[[2]int][]modelMessage{}, shut: map[[2]int]bool{}, asked: map[[2]int][][]int{}}
	for range copies {
		m.came = append(m.came, map[[2]int]modelOp{})
		m.forgot = append(m.forgot, map[api.Id]bool{})
	}
	return m
}

func (m *model) has(c int) []modelOp {
	var has []modelOp
	for d, n := range m.heard(c) {
		for nth := 1; nth <= n; nth++ {
			has = append(has, m.came[c][[2]int{d, nth}])
		}
	}
	return has
}

func (m *model) heard(c int) []int {
	var heard []int
	for d := range m.came {
		n := 0
		for m.came[c][[2]int{d, n + 1}].nth > 0 {
			n++
		}
		heard = append(heard, n)
	}
	return heard
}

// byIds tells what a copy has in the order of the Ids.
func (m *model) byIds(c int) []modelOp {
	ops := m.has(c)
	slices.SortFunc(ops, func(a, b modelOp) int {
		return cmp.Or(cmp.Compare(a.id.Counter, b.id.Counter), cmp.Compare(a.id.Copy, b.id.Copy))
	})
	return ops
}

func (m *model) document(c int) *modelDoc {
	d := &modelDoc{maps: map[api.Id]bool{root: true}, lists: map[api.Id][]api.Id{}}
	for _, o := range m.byIds(c) {
		d.do(o)
	}
	return d
}

func (d *modelDoc) do(o modelOp) {
	switch o.kind {
	case "map":
		d.maps[o.id] = true
	case "list":
		d.lists[o.id] = []api.Id{}
	case "lay":
		at := slices.Index(d.lists[o.object], o.element)
		if d.lists[o.object] != nil && (at >= 0 || o.element == root) {
			d.lists[o.object] = slices.Insert(d.lists[o.object], at+1, o.id)
		}
	case "give", "take":
		if o.key != "" && !d.maps[o.object] || o.key == "" && !slices.Contains(d.lists[o.object], o.element) {
			return
		}
		d.given = slices.DeleteFunc(d.given, func(g modelOp) bool { return samePlace(g, o) && slices.Contains(o.names, g.id) })
		if o.kind == "give" {
			d.given = append(d.given, o)
		}
	}
}

func samePlace(a, b modelOp) bool {
	return a.object == b.object && a.key == b.key && a.element == b.element
}

func (d *modelDoc) at(place modelOp) []modelOp {
	var at []modelOp
	for _, g := range d.given {
		if samePlace(g, place) {
			at = append(at, g)
		}
	}
	return at
}

func (d *modelDoc) seen(list api.Id) []api.Id {
	var seen []api.Id
	for _, e := range d.lists[list] {
		if len(d.at(modelOp{object: list, element: e})) > 0 {
			seen = append(seen, e)
		}
	}
	return seen
}

func (d *modelDoc) text(object api.Id, depth int) string {
	if depth > api.MaxDepth {
		return "#"
	}
	var parts []string
	if !d.maps[object] {
		for _, e := range d.seen(object) {
			parts = append(parts, d.valuesText(modelOp{object: object, element: e}, depth))
		}
		return "[" + strings.Join(parts, ",") + "]"
	}
	for _, g := range d.given {
		if g.object == object && d.at(g)[0].id == g.id {
			parts = append(parts, g.key+":"+d.valuesText(g, depth))
		}
	}
	slices.SortFunc(parts, func(a, b string) int { return cmp.Compare(strings.Split(a, ":")[0], strings.Split(b, ":")[0]) })
	return "{" + strings.Join(parts, ",") + "}"
}

func (d *modelDoc) valuesText(place modelOp, depth int) string {
	var parts []string
	for _, g := range d.at(place) {
		if g.value.Object == root {
			parts = append(parts, fmt.Sprint(g.value.Number))
		} else {
			parts = append(parts, d.text(g.value.Object, depth+1))
		}
	}
	return strings.Join(parts, "|")
}

// write makes an operation, with all values of its place named.
func (m *model) write(c int, o modelOp) api.Id {
	for _, h := range m.has(c) {
		o.id.Counter = max(o.id.Counter, h.id.Counter)
	}
	o.id = id(o.id.Counter+1, c)
	o.nth = m.heard(c)[c] + 1
	for _, g := range m.document(c).at(o) {
		o.names = append(o.names, g.id)
	}
	m.came[c][[2]int{c, o.nth}] = o
	return o.id
}

// refused tells the first error of a call that writes or shows; ops is how many operations it makes.
func (m *model) refused(c int, object api.Id, list bool, place, none bool, placeError api.Errno, ops int) api.Errno {
	if c < 0 || c >= len(m.came) {
		return api.ErrCopy
	}
	d := m.document(c)
	switch isList := d.lists[object] != nil; {
	case !isList && !d.maps[object]:
		return api.ErrObject
	case isList != list:
		return api.ErrKind
	case !place:
		return placeError
	case none:
		return api.ErrNone
	case m.heard(c)[c]+ops > api.MaxOwn && ops > 0:
		return api.ErrFull
	}
	return api.OK
}

func (m *model) atKey(c int, object api.Id, key string, cut bool, ops int) api.Errno {
	fit := len(key) >= 1 && len(key) <= 4 && strings.Trim(key, "abcdefghijklmnopqrstuvwxyz") == ""
	none := cut && c >= 0 && c < len(m.came) && len(m.document(c).at(modelOp{object: object, key: key})) == 0
	return m.refused(c, object, false, fit, none, api.ErrKey, ops)
}

func (m *model) atIndex(c int, list api.Id, index, beyond, ops int) api.Errno {
	fit := c >= 0 && c < len(m.came) && index >= 0 && index < len(m.document(c).seen(list))+beyond
	return m.refused(c, list, true, fit, false, api.ErrIndex, ops)
}

func (m *model) put(c int, object api.Id, key string, n int) api.Errno {
	e := m.atKey(c, object, key, false, 1)
	if e == api.OK {
		m.write(c, modelOp{kind: "give", object: object, key: key, value: api.Value{Number: n}})
	}
	return e
}

func (m *model) nest(c int, object api.Id, key string, list bool) (api.Id, api.Errno) {
	e := m.atKey(c, object, key, false, 2)
	if e != api.OK {
		return root, e
	}
	made := m.makes(c, list)
	m.write(c, modelOp{kind: "give", object: object, key: key, value: api.Value{Object: made}})
	return made, e
}

func (m *model) makes(c int, list bool) api.Id {
	if list {
		return m.write(c, modelOp{kind: "list"})
	}
	return m.write(c, modelOp{kind: "map"})
}

func (m *model) cut(c int, object api.Id, key string) api.Errno {
	e := m.atKey(c, object, key, true, 1)
	if e == api.OK {
		m.write(c, modelOp{kind: "take", object: object, key: key})
	}
	return e
}

func (m *model) lay(c int, list api.Id, index int) api.Id {
	o := modelOp{kind: "lay", object: list}
	if index > 0 {
		o.element = m.document(c).seen(list)[index-1]
	}
	return m.write(c, o)
}

func (m *model) insert(c int, list api.Id, index, n int) (api.Id, api.Errno) {
	e := m.atIndex(c, list, index, 1, 2)
	if e != api.OK {
		return root, e
	}
	element := m.lay(c, list, index)
	m.write(c, modelOp{kind: "give", object: list, element: element, value: api.Value{Number: n}})
	return element, e
}

func (m *model) nestAt(c int, list api.Id, index int, asList bool) (api.Id, api.Errno) {
	e := m.atIndex(c, list, index, 1, 3)
	if e != api.OK {
		return root, e
	}
	made := m.makes(c, asList)
	m.write(c, modelOp{kind: "give", object: list, element: m.lay(c, list, index), value: api.Value{Object: made}})
	return made, e
}

// changeAt is SetAt or CutAt.
func (m *model) changeAt(c int, list api.Id, index int, kind string, n int) api.Errno {
	e := m.atIndex(c, list, index, 0, 1)
	if e == api.OK {
		m.write(c, modelOp{kind: kind, object: list, element: m.document(c).seen(list)[index], value: api.Value{Number: n}})
	}
	return e
}

func (m *model) elements(c int, list api.Id) ([]api.Id, api.Errno) {
	if e := m.refused(c, list, true, true, false, api.OK, 0); e != api.OK {
		return nil, e
	}
	return m.document(c).seen(list), api.OK
}

func (m *model) values(c int, object api.Id, key string) ([]api.Value, api.Errno) {
	e := m.atKey(c, object, key, false, 0)
	var values []api.Value
	if e == api.OK {
		for _, g := range m.document(c).at(modelOp{object: object, key: key}) {
			values = append(values, g.value)
		}
	}
	return values, e
}

func (m *model) noLink(from, to int) bool {
	n := len(m.came)
	return from < 0 || from >= n || to < 0 || to >= n || from == to
}

func (m *model) ask(from, to int) api.Errno {
	l := [2]int{from, to}
	switch {
	case m.noLink(from, to):
		return api.ErrLink
	case m.shut[l]:
		return api.ErrShut
	case len(m.links[l]) == api.MaxWaiting:
		return api.ErrFull
	}
	m.links[l] = append(m.links[l], modelMessage{asks: true, known: m.heard(from)})
	return api.OK
}

// used tells the first error of a call on a link that needs a message there.
func (m *model) used(from, to int) api.Errno {
	switch {
	case m.noLink(from, to):
		return api.ErrLink
	case len(m.links[[2]int{from, to}]) == 0:
		return api.ErrEmpty
	}
	return api.OK
}

// first takes the first message off a link.
func (m *model) first(from, to int) modelMessage {
	l := [2]int{from, to}
	first := m.links[l][0]
	m.links[l] = m.links[l][1:]
	return first
}

func (m *model) deliver(from, to int) api.Errno {
	e := m.used(from, to)
	if e == api.OK {
		m.arrive(m.first(from, to), from, to)
	}
	return e
}

func (m *model) arrive(message modelMessage, from, to int) {
	for _, o := range message.ops {
		m.came[to][[2]int{o.id.Copy, o.nth}] = o
	}
	if !message.asks {
		return
	}
	m.asked[[2]int{from, to}] = append(m.asked[[2]int{from, to}], message.known)
	var beyond []modelOp
	for _, o := range m.has(to) {
		if o.nth > message.known[o.id.Copy] {
			beyond = append(beyond, o)
		}
	}
	back := [2]int{to, from}
	for parts := 0; len(beyond) > 0 && parts < api.MaxParts; parts++ {
		part := slices.Clone(beyond[:min(len(beyond), api.MaxBatch)])
		beyond = beyond[len(part):]
		part = slices.DeleteFunc(part, func(o modelOp) bool { return m.forgot[to][o.id] })
		if !m.shut[back] && len(m.links[back]) < api.MaxWaiting {
			m.links[back] = append(m.links[back], modelMessage{ops: part})
		}
	}
}

func (m *model) lose(from, to int) api.Errno {
	e := m.used(from, to)
	if e == api.OK {
		m.first(from, to)
	}
	return e
}

func (m *model) again(from, to int) api.Errno {
	l := [2]int{from, to}
	e := m.used(from, to)
	switch {
	case e != api.OK:
		return e
	case m.shut[l]:
		return api.ErrShut
	case len(m.links[l]) == api.MaxWaiting:
		return api.ErrFull
	}
	m.links[l] = append(m.links[l], m.links[l][0])
	return api.OK
}

func (m *model) later(from, to int) api.Errno {
	l := [2]int{from, to}
	e := m.used(from, to)
	switch {
	case e != api.OK:
		return e
	case m.shut[l]:
		return api.ErrShut
	}
	first := m.first(from, to)
	m.links[l] = append(m.links[l], first)
	return api.OK
}

func (m *model) drain(from, to int) (int, api.Errno) {
	l := [2]int{from, to}
	switch {
	case m.noLink(from, to):
		return 0, api.ErrLink
	case !m.shut[l]:
		return 0, api.ErrOpen
	}
	waited := len(m.links[l])
	for range waited {
		m.deliver(from, to)
	}
	return waited, api.OK
}

func (m *model) shutLink(from, to int) api.Errno {
	switch l := [2]int{from, to}; {
	case m.noLink(from, to):
		return api.ErrLink
	case m.shut[l]:
		return api.ErrShut
	default:
		m.shut[l] = true
		return api.OK
	}
}

// newest is what a copy knows of another one: how many operations of a third one, or of one of them, that one had.
func (m *model) newest(c, other, third int) int {
	newest := 0
	for _, known := range m.asked[[2]int{other, c}] {
		newest = max(newest, known[third])
	}
	return newest
}

func (m *model) settled(c int, o modelOp) bool {
	for d := range m.came {
		if d != c && (m.newest(c, d, o.id.Copy) < o.nth || m.heard(c)[d] < m.newest(c, d, d)) {
			return false
		}
	}
	return true
}

func (m *model) trim(c int) (int, api.Errno) {
	if c < 0 || c >= len(m.came) {
		return 0, api.ErrCopy
	}
	remembered := m.remembers(c)
	for _, o := range m.byIds(c) {
		if !m.settled(c, o) {
			break
		}
		m.forgot[c][o.id] = true
	}
	return remembered - m.remembers(c), api.OK
}

func (m *model) remembers(c int) int {
	return len(m.has(c)) - len(m.forgot[c])
}

func (m *model) kept(c int) (int, api.Errno) {
	if c < 0 || c >= len(m.came) {
		return 0, api.ErrCopy
	}
	return m.remembers(c), api.OK
}

// pair is a room and the model of it, which are led through the same calls.
type pair struct {
	t       *testing.T
	rng     *rand.Rand
	room    *Room
	model   *model
	objects []api.Id
	writes  int // how many of ten calls write
	asks    int // how many of forty calls on links ask
	trims   int // ahead of one of how many calls a copy forgets
	shuts   bool
	forgot  int // operations that were forgotten, in all copies
}

func newPair(t *testing.T, seed int64, copies, spacing int) *pair {
	r, e := New(copies, spacing)
	wantErrno(t, "New", e, api.OK)
	rng := rand.New(rand.NewSource(seed))
	return &pair{
		t: t, rng: rng, room: r, model: newModel(copies), objects: []api.Id{root},
		writes: 1 + rng.Intn(7), asks: 6 + rng.Intn(12), trims: 1 + rng.Intn(20), shuts: seed%3 == 0,
	}
}

func (p *pair) copies() int { return len(p.model.came) }

// copy is now and then none.
func (p *pair) copy() int {
	if p.rng.Intn(50) == 0 {
		return []int{-1, p.copies(), 1 << 62}[p.rng.Intn(3)]
	}
	return p.rng.Intn(p.copies())
}

// other is now and then the same.
func (p *pair) other(c int) int {
	if d := p.copy(); d != c || p.rng.Intn(50) == 0 || p.copies() == 1 {
		return d
	}
	return p.other(c)
}

func (p *pair) object() api.Id {
	if p.rng.Intn(50) == 0 {
		return id(p.rng.Intn(20), p.rng.Intn(5))
	}
	return p.objects[p.rng.Intn(len(p.objects))]
}

func (p *pair) key() string {
	if p.rng.Intn(50) == 0 {
		return []string{"", "abcde", "A"}[p.rng.Intn(3)]
	}
	return []string{"a", "b", "ab", "zzzz"}[p.rng.Intn(4)]
}

func (p *pair) same(what string, got, want string) {
	p.t.Helper()
	if got != want {
		p.t.Fatalf("%s = %s, want %s", what, got, want)
	}
}

func (p *pair) step() {
	c := p.copy()
	if p.rng.Intn(p.trims) == 0 {
		p.trim(p.copy())
	}
	if p.rng.Intn(10) < p.writes {
		if p.rng.Intn(2) == 0 {
			p.writeKey(c)
		} else {
			p.writeIndex(c)
		}
		p.sameCopy(c)
		return
	}
	p.link(c, p.other(c))
}

func (p *pair) trim(c int) {
	n, e := p.room.Trim(c)
	p.forgot += n
	p.same("Trim", fmt.Sprint(n, e), fmt.Sprint(p.model.trim(c)))
	p.sameCopy(c)
}

func (p *pair) made(made api.Id) {
	if made != root {
		p.objects = append(p.objects, made)
	}
}

func (p *pair) writeKey(c int) {
	r, m, o, key, n, list := p.room, p.model, p.object(), p.key(), p.rng.Intn(100)-50, p.rng.Intn(2) == 0
	switch p.rng.Intn(6) {
	case 0, 1, 2:
		p.same("Put", fmt.Sprint(r.Put(c, o, key, n)), fmt.Sprint(m.put(c, o, key, n)))
	case 3, 4:
		made, e := m.nest(c, o, key, list)
		p.made(made)
		p.same("Nest", fmt.Sprint(r.Nest(c, o, key, list)), fmt.Sprint(made, e))
	default:
		p.same("Cut", fmt.Sprint(r.Cut(c, o, key)), fmt.Sprint(m.cut(c, o, key)))
	}
	p.same("Values", fmt.Sprint(r.Values(c, o, key)), fmt.Sprint(m.values(c, o, key)))
}

func (p *pair) writeIndex(c int) {
	r, m, o, index, n := p.room, p.model, p.object(), p.rng.Intn(6)-p.rng.Intn(2), p.rng.Intn(100)-50
	switch p.rng.Intn(6) {
	case 0, 1, 2:
		p.same("Insert", fmt.Sprint(r.Insert(c, o, index, n)), fmt.Sprint(m.insert(c, o, index, n)))
	case 3:
		made, e := m.nestAt(c, o, index, n > 0)
		p.made(made)
		p.same("NestAt", fmt.Sprint(r.NestAt(c, o, index, n > 0)), fmt.Sprint(made, e))
	case 4:
		p.same("SetAt", fmt.Sprint(r.SetAt(c, o, index, n)), fmt.Sprint(m.changeAt(c, o, index, "give", n)))
	default:
		p.same("CutAt", fmt.Sprint(r.CutAt(c, o, index)), fmt.Sprint(m.changeAt(c, o, index, "take", 0)))
	}
	p.same("Elements", fmt.Sprint(r.Elements(c, o)), fmt.Sprint(m.elements(c, o)))
}

func (p *pair) link(from, to int) {
	r, m := p.room, p.model
	switch n := p.rng.Intn(40); {
	case n < p.asks:
		p.same("Ask", fmt.Sprint(r.Ask(from, to)), fmt.Sprint(m.ask(from, to)))
	case n < 31:
		p.same("Deliver", fmt.Sprint(r.Deliver(from, to)), fmt.Sprint(m.deliver(from, to)))
	case n < 33:
		p.same("Lose", fmt.Sprint(r.Lose(from, to)), fmt.Sprint(m.lose(from, to)))
	case n < 35:
		p.same("Again", fmt.Sprint(r.Again(from, to)), fmt.Sprint(m.again(from, to)))
	case n < 37:
		p.same("Later", fmt.Sprint(r.Later(from, to)), fmt.Sprint(m.later(from, to)))
	case n < 39:
		p.same("Drain", fmt.Sprint(r.Drain(from, to)), fmt.Sprint(m.drain(from, to)))
	case p.shuts:
		p.same("Shut", fmt.Sprint(r.Shut(from, to)), fmt.Sprint(m.shutLink(from, to)))
	}
	if m.noLink(from, to) {
		p.same("Waiting", fmt.Sprint(r.Waiting(from, to)), fmt.Sprint(0, api.ErrLink))
		return
	}
	p.same("Waiting", fmt.Sprint(r.Waiting(from, to)), fmt.Sprint(len(m.links[[2]int{from, to}]), api.OK))
	p.same("Waiting back", fmt.Sprint(r.Waiting(to, from)), fmt.Sprint(len(m.links[[2]int{to, from}]), api.OK))
	p.sameCopy(to)
}

func (p *pair) sameCopy(c int) {
	p.t.Helper()
	p.same("Kept", fmt.Sprint(p.room.Kept(c)), fmt.Sprint(p.model.kept(c)))
	if c < 0 || c >= p.copies() {
		p.same("Show", fmt.Sprint(p.room.Show(c)), fmt.Sprint("", api.ErrCopy))
		p.same("Heard", fmt.Sprint(p.room.Heard(c)), fmt.Sprint([]int{}, api.ErrCopy))
		return
	}
	p.same("Show", fmt.Sprint(p.room.Show(c)), fmt.Sprint(p.model.document(c).text(root, 1), api.OK))
	p.same("Heard", fmt.Sprint(p.room.Heard(c)), fmt.Sprint(p.model.heard(c), api.OK))
}

// sameMessages compares what waits on all links, message by message, and takes it off there.
func (p *pair) sameMessages() {
	p.t.Helper()
	for e, l := range p.room.links {
		for l.waiting() > 0 {
			p.same("message", toldMessage(l.receive()), p.model.first(e.from, e.to).told())
		}
	}
}

func toldMessage(m message) string {
	b, operations := m.(batch)
	if !operations {
		return fmt.Sprint("question ", m)
	}
	var ids []api.Id
	for _, o := range b {
		ids = append(ids, o.Id)
	}
	return fmt.Sprint("operations ", ids)
}

func (m modelMessage) told() string {
	if m.asks {
		return fmt.Sprint("question ", m.known)
	}
	var ids []api.Id
	for _, o := range m.ops {
		ids = append(ids, o.id)
	}
	return fmt.Sprint("operations ", ids)
}

func (p *pair) sameAll() {
	p.t.Helper()
	for c := range p.copies() {
		p.sameCopy(c)
		for _, o := range p.objects {
			p.same("Elements", fmt.Sprint(p.room.Elements(c, o)), fmt.Sprint(p.model.elements(c, o)))
			p.same("Values", fmt.Sprint(p.room.Values(c, o, "a")), fmt.Sprint(p.model.values(c, o, "a")))
		}
	}
}

// P1 to P13, against the model, in long rows of calls.
func TestAgainstModel(t *testing.T) {
	forgot := make([]int, api.MaxCopies)
	for seed := range int64(100) {
		copies := 1 + int(seed)%api.MaxCopies
		p := newPair(t, seed, copies, 1+int(seed*7)%api.MaxSpacing)
		for range 150 * copies {
			p.step()
		}
		p.sameAll()
		p.sameMessages()
		forgot[copies-1] += p.forgot
	}
	for n, operations := range forgot {
		if operations < 100 {
			t.Errorf("in all rooms of %d copies only %d operations were forgotten", n+1, operations)
		}
	}
}
