package ports

import (
	"math"
	"math/rand"
	"reflect"
	"slices"
	"testing"

	"holloway/api"
)

func is(t *testing.T, name string, got, want any) {
	t.Helper()
	if !reflect.DeepEqual(got, want) {
		t.Errorf("%s: got %+v, want %+v", name, got, want)
	}
}

// P3.2
func TestUsedBy(t *testing.T) {
	for proto := -1; proto <= api.MaxProto+1; proto++ {
		is(t, "UsedBy", UsedBy(proto), proto == 6 || proto == 17)
	}
}

// P3.2, Z6
func TestIsRight(t *testing.T) {
	for _, p := range []api.Ports{All(), {}, {From: 7, To: 7}, {From: 7, To: 8}, {From: api.MaxPort, To: api.MaxPort}} {
		is(t, "IsRight", IsRight(p), true)
	}
	for _, p := range []api.Ports{{From: -1}, {From: 1}, {From: 8, To: 7}, {From: -2, To: -1}, {To: api.MaxPort + 1}, {From: api.MaxPort + 1, To: api.MaxPort + 1}, {From: math.MinInt, To: math.MaxInt}, {From: math.MaxInt, To: math.MinInt}} {
		is(t, "IsRight", IsRight(p), false)
	}
}

// some are ranges of a few ports at an end of all that there are.
func some(r *rand.Rand, first int) []api.Ports {
	var out []api.Ports
	for range r.Intn(5) {
		from := r.Intn(16)
		out = append(out, api.Ports{From: first + from, To: first + from + r.Intn(16-from)})
	}
	return out
}

func inOne(l []api.Ports, port int) bool {
	for _, p := range l {
		if p.From <= port && port <= p.To {
			return true
		}
	}
	return false
}

// P3.4: lists of ports are held against the ports one by one.
func TestLists(t *testing.T) {
	r := rand.New(rand.NewSource(3))
	for i := range 5_000 {
		first := []int{0, api.MaxPort - 15}[i%2]
		a, b := some(r, first), some(r, first)
		before := slices.Clone(a)
		joined := Join(a)
		is(t, "Join", a, before)
		wantPort, want := 0, false
		for port := first + 15; port >= first; port-- {
			is(t, "Has", Has(a, port), inOne(a, port))
			is(t, "Join", inOne(joined, port), inOne(a, port))
			if inOne(a, port) != inOne(b, port) {
				wantPort, want = port, true
			}
		}
		for k, p := range joined {
			is(t, "Join", IsRight(p) && (k == 0 || joined[k-1].To+1 < p.From), true)
		}
		port, ok := Differ(a, b)
		is(t, "Differ", []any{port, ok}, []any{wantPort, want})
	}
	is(t, "Join", len(Join(nil)), 0)
}

// P4.3: least lists are held against the ports one by one.
func TestCovers(t *testing.T) {
	r := rand.New(rand.NewSource(4))
	count := map[bool]int{}
	for i := range 5_000 {
		first := []int{0, api.MaxPort - 15}[i%2]
		a, b := Join(some(r, first)), Join(some(r, first))
		want := true
		for port := first; port <= first+15; port++ {
			want = want && (inOne(a, port) || !inOne(b, port))
		}
		is(t, "Covers", Covers(a, b), want)
		is(t, "Covers", Covers(a, a), true)
		count[want]++
	}
	is(t, "Covers", count[true] > 500 && count[false] > 500, true)
}

// P3.6, P4.4, Z10
func TestText(t *testing.T) {
	for _, c := range []struct {
		p api.Ports
		s string
	}{
		{api.Ports{}, "0"}, {api.Ports{From: 80, To: 80}, "80"}, {api.Ports{From: 80, To: 90}, "80-90"}, {api.Ports{From: 90, To: 80}, "90-80"}, {All(), "0-65535"}, {api.Ports{To: 999_999_999}, "0-999999999"},
	} {
		is(t, "Text", Text(c.p), c.s)
		p, ok := Read(c.s)
		is(t, "Read", []any{p, ok}, []any{c.p, true})
	}
	for _, s := range []string{"", "-", "80-", "-80", "80-80", "080", "80-090", "080-90", "80--90", "80-90-99", "80 ", " 80", "80,90", "+80", "x", "80-x", "x-80", "1000000000", "80-1000000000"} {
		_, ok := Read(s)
		is(t, s, ok, false)
	}
}
