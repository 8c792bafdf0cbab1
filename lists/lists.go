// Package lists makes lists of other ones.
package lists

import (
	"slices"

	"holloway/api"
)

// Merge are the parts of two lists, in order, those that are equal once; no two of them that differ may have one place in the order, and there may be at most so many.
func Merge[T comparable](a, b []T, most int, compare func(x, y T) int) ([]T, api.Errno) {
	all := slices.Concat(a, b)
	slices.SortFunc(all, compare)
	all = slices.Compact(all)
	for i := 1; i < len(all); i++ {
		if compare(all[i-1], all[i]) == 0 {
			return nil, api.ErrConflict
		}
	}
	if len(all) > most {
		return nil, api.ErrLarge
	}
	return all, api.OK
}

// Map is a list of what f makes of the parts of a list.
func Map[T, U any](l []T, f func(x T) U) []U {
	out := make([]U, 0, len(l))
	for _, x := range l {
		out = append(out, f(x))
	}
	return out
}

// Gather are the parts of a list in order, with one that join makes in the place of all that have one place in the order; what it makes must have it, too.
func Gather[T any](l []T, compare func(x, y T) int, join func(x, y T) T) []T {
	var out []T
	for _, x := range slices.SortedStableFunc(slices.Values(l), compare) {
		if n := len(out); n > 0 && compare(out[n-1], x) == 0 {
			out[n-1] = join(out[n-1], x)
		} else {
			out = append(out, x)
		}
	}
	return out
}
