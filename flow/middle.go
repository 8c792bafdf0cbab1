package flow

import (
	"slices"

	"holloway/api"
	"holloway/checks"
	"holloway/lists"
)

// fraction is a quotient of a number that is not below 0 and one above 0, in lowest terms.
func fraction(num, den int) api.Fraction {
	a, b := num, den
	for b != 0 {
		a, b = b, a%b
	}
	return api.Fraction{Num: num / a, Den: den / a}
}

// twiceMedian is twice the median of numbers, of which there is one at least.
func twiceMedian(l []int) int {
	sorted := slices.Sorted(slices.Values(l))
	n := len(sorted)
	return sorted[(n-1)/2] + sorted[n/2]
}

// fourSpreads is four times the spread of numbers, of which there is one at least.
func fourSpreads(l []int) int {
	middle := twiceMedian(l)
	return twiceMedian(lists.Map(l, func(n int) int { return max(2*n-middle, middle-2*n) }))
}

// checkNumbers is what is wrong with numbers of which the median is asked for.
func checkNumbers(l []int) api.Errno {
	if len(l) == 0 {
		return api.ErrNone
	}
	return checks.Each(l, api.MaxReports, func(n int) api.Errno { return checks.Number(n, 0, 2*api.MaxBytes) })
}

// Median is the middle of numbers.
func Median(l []int) (api.Fraction, api.Errno) {
	if e := checkNumbers(l); e != api.OK {
		return api.Fraction{}, e
	}
	return fraction(twiceMedian(l), 2), api.OK
}

// Spread is the median of what numbers differ from their median.
func Spread(l []int) (api.Fraction, api.Errno) {
	if e := checkNumbers(l); e != api.OK {
		return api.Fraction{}, e
	}
	return fraction(fourSpreads(l), 4), api.OK
}
