package roster

import (
	"slices"

	"sluice/api"
)

// Lay lays sections over others (P7.8).
func Lay(under, over []api.Section) []api.Section {
	above, below := firsts(over, sectionName), firsts(under, sectionName)
	var laid []api.Section
	for _, s := range under {
		entries := slices.Clone(s.Entries)
		if at, there := above[s.Name]; there {
			entries = layEntries(s.Entries, over[at].Entries)
		}
		laid = append(laid, api.Section{Name: s.Name, Entries: entries})
	}
	for _, s := range over {
		if _, there := below[s.Name]; !there {
			laid = append(laid, api.Section{Name: s.Name, Entries: slices.Clone(s.Entries)})
		}
	}
	return laid
}

func layEntries(under, over []api.Entry) []api.Entry {
	above, below := firsts(over, entryName), firsts(under, entryName)
	var laid []api.Entry
	for _, e := range under {
		if at, there := above[e.Name]; there {
			e.Value = over[at].Value
		}
		laid = append(laid, e)
	}
	for _, e := range over {
		if _, there := below[e.Name]; !there {
			laid = append(laid, e)
		}
	}
	return laid
}

func sectionName(s api.Section) string { return s.Name }

func entryName(e api.Entry) string { return e.Name }

// firsts tells where each name stands first.
func firsts[T any](list []T, name func(T) string) map[string]int {
	places := make(map[string]int)
	for i, t := range list {
		if _, there := places[name(t)]; !there {
			places[name(t)] = i
		}
	}
	return places
}
