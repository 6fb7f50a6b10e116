package roster_test

import (
	"math/rand"
	"slices"
	"strconv"
	"strings"
	"testing"

	"sluice/api"
	"sluice/roster"
)

// sec is a section of these names and values.
func sec(name string, namesAndValues ...string) api.Section {
	s := api.Section{Name: name}
	for i := 0; i < len(namesAndValues); i += 2 {
		s.Entries = append(s.Entries, api.Entry{Name: namesAndValues[i], Value: namesAndValues[i+1]})
	}
	return s
}

// list is some sections.
func list(ss ...api.Section) []api.Section { return ss }

func same(a, b []api.Section) bool {
	return slices.EqualFunc(a, b, func(x, y api.Section) bool {
		return x.Name == y.Name && slices.Equal(x.Entries, y.Entries)
	})
}

// deep is a copy that shares nothing.
func deep(ss []api.Section) []api.Section {
	var c []api.Section
	for _, s := range ss {
		c = append(c, api.Section{Name: s.Name, Entries: append([]api.Entry(nil), s.Entries...)})
	}
	return c
}

// lines joins lines, each ended by a byte 10.
func lines(ls ...string) string { return strings.Join(ls, "\n") + "\n" }

// read parses a text that is right.
func read(t *testing.T, text string) []api.Section {
	t.Helper()
	ss, err, at := roster.Parse(text)
	if err != api.OK {
		t.Fatalf("Parse(%.200q): %v at %v", text, err, at)
	}
	return ss
}

// roomy is a list with spare room behind it, in which marks lie.
func roomy[T any](l []T, mark T) []T {
	r := make([]T, 0, len(l)+3)
	r = append(append(r, l...), mark, mark, mark)
	return r[:len(l)]
}

// guarded is sections with spare room everywhere, and a function that tells whether all of it is as it was.
func guarded(ss []api.Section) ([]api.Section, func() bool) {
	mark := api.Entry{Name: "spare", Value: "room"}
	g := roomy(deep(ss), sec("spare"))
	for i := range g {
		g[i].Entries = roomy(g[i].Entries, mark)
	}
	whole := func(ss []api.Section) []api.Section {
		all := deep(ss[:cap(ss)])
		for i := range ss {
			all[i].Entries = slices.Clone(ss[i].Entries[:cap(ss[i].Entries)])
		}
		return all
	}
	before := whole(g)
	return g, func() bool { return same(whole(g), before) }
}

// spoil writes into every place of sections, spare room included.
func spoil(ss []api.Section) {
	ss = ss[:cap(ss)]
	for i := range ss {
		es := ss[i].Entries[:cap(ss[i].Entries)]
		for j := range es {
			es[j] = api.Entry{Name: "spoilt", Value: "spoilt"}
		}
		ss[i].Name = "spoilt"
	}
}

// numbered are so many names: the word, and a number.
func numbered(word string, n int) []string {
	var names []string
	for i := range n {
		names = append(names, word+strconv.Itoa(i))
	}
	return names
}

func dice(seed int64) *rand.Rand { return rand.New(rand.NewSource(seed)) }

func pick[T any](r *rand.Rand, from []T) T { return from[r.Intn(len(from))] }
