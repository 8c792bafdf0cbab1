// Package times has moments, and windows of them.
package times

import (
	"cmp"
	"iter"
	"slices"

	"holloway/api"
)

// IsMoment says whether a number is a moment.
func IsMoment(at int) bool { return 0 <= at && at < api.End }

// IsWindow says whether a window is of moments; it can be empty.
func IsWindow(w api.Window) bool { return 0 <= w.From && w.From <= w.To && w.To <= api.End }

// Has says whether a moment is in a window.
func Has(w api.Window, at int) bool { return w.From <= at && at < w.To }

// Shared is how many moments are in both of two windows.
func Shared(v, w api.Window) int { return max(0, min(v.To, w.To)-max(v.From, w.From)) }

// Within is how many moments of a window are in one of some windows that are apart.
func Within(l []api.Window, w api.Window) int {
	sum := 0
	for _, v := range l {
		sum += Shared(v, w)
	}
	return sum
}

// Join is the least list of windows that have the moments of some windows: they rise, and there is a moment between each two that is in none.
func Join(l []api.Window) []api.Window {
	sorted := slices.DeleteFunc(slices.Clone(l), func(w api.Window) bool { return w.From >= w.To })
	slices.SortFunc(sorted, func(v, w api.Window) int { return cmp.Compare(v.From, w.From) })
	var out []api.Window
	for _, w := range sorted {
		if n := len(out); n == 0 || out[n-1].To < w.From {
			out = append(out, w)
		} else {
			out[n-1].To = max(out[n-1].To, w.To)
		}
	}
	return out
}

// Next is the least moment later than another one at which a window begins, or has ended; api.End if there is none.
func Next(l []api.Window, at int) int {
	next := api.End
	for _, w := range l {
		for _, change := range [2]int{w.From, w.To} {
			if change > at {
				next = min(next, change)
			}
		}
	}
	return next
}

// Moments goes through the moments of a list that is in their order, each one with all that the list tells at it.
func Moments[T any](l []T, at func(x T) int) iter.Seq2[int, []T] {
	return func(yield func(int, []T) bool) {
		for rest := l; len(rest) > 0; {
			now := at(rest[0])
			n := slices.IndexFunc(rest, func(x T) bool { return at(x) != now })
			if n < 0 {
				n = len(rest)
			}
			if !yield(now, rest[:n]) {
				return
			}
			rest = rest[n:]
		}
	}
}
