package ports

import (
	"math"
	"math/rand"
	"reflect"
	"slices"
	"testing"

	"holloway/api"
)

func is(t *testing.T, name string, got, want any) {
	t.Helper()
	if !reflect.DeepEqual(got, want) {
		t.Errorf("%s: got %+v, want %+v", name, got, want)
	}
}

// P3.2
func TestUsedBy(t *testing.T) {
	for proto := -1; proto <= api.MaxProto+1; proto++ {
		is(t, "UsedBy", UsedBy(proto), proto == 6 || proto == 17)
	}
}

// P3.2, Z6
func TestIsRight(t *testing.T) {
	for _, p := range []api.Ports{All(), {}, {From: 7, To: 7}, {From: 7, To: 8}, {From: api.MaxPort, To: api.MaxPort}} {
		is(t, "IsRight", IsRight(p), true)
	}
	for _, p := range []api.Ports{{From: -1}, {From: 1}, {From: 8, To: 7}, {From: -2, To: -1}, {To: api.MaxPort + 1}, {From: api.MaxPort + 1, To: api.MaxPort + 1}, {From: math.MinInt, To: math.MaxInt}, {From: math.MaxInt, To: math.MinInt}} {
		is(t, "IsRight", IsRight(p), false)
	}
}

// some are ranges of a few ports at an end of all that there are.
func some(r *rand.Rand, first int) []api.Ports {
	var out []api.Ports
	for range r.Intn(5) {
		from := r.Intn(16)
		out = append(out, api.Ports{From: first + from, To: first + from + r.Intn(16-from)})
	}
	return out
}

func inOne(l []api.Ports, port int) bool {
	for _, p := range l {
		if p.From <= port && port <= p.To {
			return true
		}
	}
	return false
}

// P3.4: lists of ports are held against the ports one by one.
func TestLists(t *testing.T) {
	r := rand.New(rand.NewSource(3))
	for i := range 5_000 {
		first := []int{0, api.MaxPort - 15}[i%2]
		a, b := some(r, first), some(r, first)
		before := slices.Clone(a)
		joined := Join(a)
		is(t, "Join", a, before)
		wantPort, want := 0, false
		for port := first + 15; port >= first; port-- {
			is(t, "Has", Has(a, port), inOne(a, port))
			is(t, "Join", inOne(joined, port), inOne(a, port))
			if inOne(a, port) != inOne(b, port) {
				wantPort, want = port, true
			}
		}
		for k, p := range joined {
			is(t, "Join", IsRight(p) && (k == 0 || joined[k-1].To+1 < p.From), true)
		}
		port, ok := Differ(a, b)
		is(t, "Differ", []any{port, ok}, []any{wantPort, want})
	}
	is(t, "Join", len(Join(nil)), 0)
}
