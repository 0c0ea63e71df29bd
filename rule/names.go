package rule

import (
	"slices"

	"viaticum/api"
)

// Names tells the names of l's variables, rising, each once.
func Names(l []api.Pred) []string {
	var names []string
	for _, p := range l {
		for _, t := range p.Terms {
			if t.Kind == api.TVar {
				names = append(names, t.S)
			}
		}
	}
	slices.Sort(names)
	return slices.Compact(names)
}

// bound tells whether whatever answers body binds all the names.
func bound(names []string, body []api.Pred) bool {
	given := Names(body)
	for _, name := range names {
		if _, ok := slices.BinarySearch(given, name); !ok {
			return false
		}
	}
	return true
}
