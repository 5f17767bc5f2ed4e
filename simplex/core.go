package simplex

import (
	"slices"

	"sherd/api"
	"sherd/rat"
)

// core returns the groups that are left, if each of them, in order, is left out where the others are still contradictory.
func core(p api.Program, groups []int) ([]int, api.Errno) {
	list := without(sorted(groups), -1)
	used, found := contradiction(p, groups, list)
	if !found {
		return nil, api.ErrNone
	}
	for _, g := range slices.Clone(list) {
		others := without(list, g)
		// The last contradiction may be one without this group, and then no other one is needed.
		if !slices.Contains(used, g) {
			list = others
		} else if less, found := contradiction(p, groups, others); found {
			list, used = others, less
		}
	}
	return list, api.OK
}

// contradiction reports whether a list of groups is contradictory, and returns the groups of a contradiction.
func contradiction(p api.Program, groups, list []int) ([]int, bool) {
	part := api.Program{Vars: p.Vars}
	var of []int
	for i, g := range groups {
		if g < 0 || slices.Contains(list, g) {
			part.Lines = append(part.Lines, p.Lines[i])
			of = append(of, g)
		}
	}
	proof := begin(part).proof
	var used []int
	for i, a := range proof {
		if rat.Sign(a) > 0 {
			used = append(used, of[i])
		}
	}
	return used, proof != nil
}

// sorted returns all elements of l in increasing order, each once.
func sorted(l []int) []int { return slices.Compact(slices.Sorted(slices.Values(l))) }

// without returns the elements of l but g.
func without(l []int, g int) []int {
	return slices.DeleteFunc(slices.Clone(l), func(x int) bool { return x == g })
}
