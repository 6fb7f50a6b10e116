package roster_test

import (
	"strings"
	"testing"

	"sluice/api"
	"sluice/roster"
)

// P0.1: what is handed in is not changed, spare room included.
func TestNothingIsChanged(t *testing.T) {
	ss, whole := guarded(list(sec("a", "x", " 1", "y", "\n"), sec("b"), sec("c", "z", "7")))
	var names []string
	names = roomy([]string{"no", "YES"}, "spare")
	roster.Print(ss...)
	roster.Valid(ss...)
	roster.Find(ss, "A", "X")
	roster.Int(ss, "C", "Z", 0, 9)
	roster.Real(ss, "C", "Z")
	roster.Word(ss, "C", "Z", names...)
	roster.Lay(ss, ss)
	for range roster.All(ss) {
	}
	if !whole() || strings.Join(names[:cap(names)], " ") != "no YES spare spare spare" {
		t.Error("something has changed")
	}
}

// P0.1: an answer is new memory, and no two of its lists share any.
func TestParseGivesNewMemory(t *testing.T) {
	text := "[a]\nx=1\ny=2\nz=3\n[b]\n[c]\nx=1\n"
	one, two := read(t, text), read(t, text)
	before := deep(two)
	spoilOneByOne(t, one)
	if !same(two, before) || !same(read(t, text), before) {
		t.Error("two answers share memory")
	}
	for i := range two {
		_ = append(two[i].Entries, api.Entry{Name: "more"})
	}
	if !same(two, before) {
		t.Error("what is appended to one list is seen in another")
	}
}

// P0.1: nil and empty lists mean the same, and no call panics.
func TestEmptyLists(t *testing.T) {
	none := []api.Section{}
	for _, ss := range [][]api.Section{nil, none, {{}}, {{Entries: []api.Entry{{}}}}} {
		roster.Print(ss...)
		roster.Valid(ss...)
		roster.Find(ss, "", "")
		roster.Int(ss, "", "", 1, -1)
		roster.Real(ss, "", "")
		roster.Word(ss, "", "")
		roster.Lay(ss, ss)
		roster.Graph(ss)
		roster.Jobs(ss)
		for range roster.All(ss) {
		}
	}
	if text, err := roster.Print(none...); text != "" || err != api.OK {
		t.Errorf("Print of an empty list: %q, %d", text, err)
	}
	if text, err := roster.Print(api.Section{Name: "a", Entries: []api.Entry{}}); text != "[a]\n" || err != api.OK {
		t.Errorf("Print of a section with an empty list: %q, %d", text, err)
	}
}
