package doc

import (
	"strconv"
	"strings"

	"quire/api"
)

// Text tells the root, and what is in it, as text.
func (d *Document) Text() string {
	return d.objectText(api.Id{}, 1)
}

func (d *Document) objectText(id api.Id, depth int) string {
	switch {
	case depth > api.MaxDepth:
		return "#"
	case d.IsList(id):
		return d.listText(id, depth)
	default:
		return d.mapText(id, depth)
	}
}

func (d *Document) listText(id api.Id, depth int) string {
	var parts []string
	for _, element := range d.Elements(id) {
		parts = append(parts, d.valuesText(ElementOf(id, element), depth))
	}
	return "[" + strings.Join(parts, ",") + "]"
}

func (d *Document) mapText(id api.Id, depth int) string {
	var parts []string
	for _, key := range d.Keys(id) {
		parts = append(parts, key+":"+d.valuesText(KeyOf(id, key), depth))
	}
	return "{" + strings.Join(parts, ",") + "}"
}

func (d *Document) valuesText(p Place, depth int) string {
	var parts []string
	for _, v := range d.Values(p) {
		parts = append(parts, d.valueText(v, depth))
	}
	return strings.Join(parts, "|")
}

func (d *Document) valueText(v api.Value, depth int) string {
	if v.Object == (api.Id{}) {
		return strconv.Itoa(v.Number)
	}
	return d.objectText(v.Object, depth+1)
}
