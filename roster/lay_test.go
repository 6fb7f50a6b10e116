package roster_test

import (
	"math/rand"
	"testing"

	"sluice/api"
	"sluice/roster"
)

// P7.8.
func TestLay(t *testing.T) {
	rows := []struct{ under, over, want []api.Section }{
		{nil, nil, nil},
		{list(sec("a", "x", "1")), nil, list(sec("a", "x", "1"))},
		{nil, list(sec("a", "x", "1")), list(sec("a", "x", "1"))},
		{list(sec("a", "x", "1", "y", "2"), sec("b")), list(sec("c", "k", "9"), sec("a", "z", "3", "x", "4")), list(sec("a", "x", "4", "y", "2", "z", "3"), sec("b"), sec("c", "k", "9"))},
		{list(sec("a", "x", "1")), list(sec("a", "x", "")), list(sec("a", "x", ""))},
		{list(sec("a")), list(sec("a", "q", "1", "p", "2")), list(sec("a", "q", "1", "p", "2"))},
		{list(sec("b"), sec("a")), list(sec("d"), sec("c"), sec("a"), sec("b")), list(sec("b"), sec("a"), sec("d"), sec("c"))},
		// As they stand: capital letters are others.
		{list(sec("a", "x", "1")), list(sec("A", "x", "2"), sec("a", "X", "3")), list(sec("a", "x", "1", "X", "3"), sec("A", "x", "2"))},
		// The first section and the first entry of a name; what is twice in over, where under has it not, stays twice.
		{list(sec("a", "x", "1")), list(sec("a", "x", "2", "x", "3", "y", "4", "y", "5"), sec("a", "x", "6", "z", "7")), list(sec("a", "x", "2", "y", "4", "y", "5"))},
		{list(sec("a", "x", "1", "x", "2"), sec("a", "y", "3")), list(sec("a", "x", "4")), list(sec("a", "x", "4", "x", "4"), sec("a", "y", "3", "x", "4"))},
		{nil, list(sec("c", "x", "1", "x", "2"), sec("c", "x", "3")), list(sec("c", "x", "1", "x", "2"), sec("c", "x", "3"))},
		{list(sec("", "", "1")), list(sec("", "", "2")), list(sec("", "", "2"))},
	}
	for _, r := range rows {
		if got := roster.Lay(r.under, r.over); !same(got, r.want) {
			t.Errorf("Lay(%v, %v): %v, not %v", r.under, r.over, got, r.want)
		}
	}
}

// laid is P7.8 by its words, name by name.
func laid(under, over []api.Section) []api.Section {
	var out []api.Section
	sectionOf := func(ss []api.Section, name string) *api.Section {
		for i := range ss {
			if ss[i].Name == name {
				return &ss[i]
			}
		}
		return nil
	}
	entryOf := func(s api.Section, name string) *api.Entry {
		for i := range s.Entries {
			if s.Entries[i].Name == name {
				return &s.Entries[i]
			}
		}
		return nil
	}
	for _, s := range under {
		n := api.Section{Name: s.Name}
		o := sectionOf(over, s.Name)
		for _, e := range s.Entries {
			if o != nil && entryOf(*o, e.Name) != nil {
				e.Value = entryOf(*o, e.Name).Value
			}
			n.Entries = append(n.Entries, e)
		}
		if o != nil {
			for _, e := range o.Entries {
				if entryOf(s, e.Name) == nil {
					n.Entries = append(n.Entries, e)
				}
			}
		}
		out = append(out, n)
	}
	for _, s := range over {
		if sectionOf(under, s.Name) == nil {
			out = append(out, s)
		}
	}
	return out
}

// P7.8: sections of all sorts; neither is changed, and nothing is shared.
func TestLayBesideItsWords(t *testing.T) {
	loose := func(r *rand.Rand) []api.Section {
		var ss []api.Section
		for range r.Intn(4) {
			s := api.Section{Name: pick(r, []string{"a", "b", "c", "A"})}
			for range r.Intn(5) {
				s.Entries = append(s.Entries, api.Entry{Name: pick(r, []string{"x", "y", "z", "X"}), Value: pick(r, []string{"1", "2", "3", ""})})
			}
			ss = append(ss, s)
		}
		return ss
	}
	r := dice(8)
	for range 20000 {
		under, whole := guarded(loose(r))
		over, whole2 := guarded(loose(r))
		want := deep(laid(under, over))
		got := roster.Lay(under, over)
		if !same(got, want) {
			t.Fatalf("Lay(%v, %v): %v, not %v", under, over, got, want)
		}
		spoilOneByOne(t, got)
		if !whole() || !whole2() {
			t.Fatalf("Lay(%v, %v) changes them, or shares their memory", under, over)
		}
	}
}

// spoilOneByOne spoils each list of an answer, and looks whether another one sees it.
func spoilOneByOne(t *testing.T, ss []api.Section) {
	t.Helper()
	for i := range ss {
		before := deep(ss)
		es := ss[i].Entries[:cap(ss[i].Entries)]
		for j := range es {
			es[j] = api.Entry{Name: "spoilt", Value: "spoilt"}
		}
		before[i].Entries = deep(ss)[i].Entries
		if !same(ss, before) {
			t.Fatal("two lists of one answer share memory")
		}
	}
	spoil(ss)
}
