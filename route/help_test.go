package route_test

import (
	"cmp"
	"fmt"
	"math/rand"
	"reflect"
	"slices"
	"strconv"
	"strings"
	"testing"

	"holloway/addr"
	"holloway/api"
)

// is compares two values by what is shown of them, so that nil and empty lists are the same (Z5).
func is(t *testing.T, name string, got, want any) {
	t.Helper()
	if reflect.DeepEqual(got, want) {
		return
	}
	if g, w := fmt.Sprintf("%+v", got), fmt.Sprintf("%+v", want); g != w {
		t.Errorf("%s: got %s, want %s", name, g, w)
	}
}

// all makes one value of the results of a call.
func all(results ...any) []any { return results }

// words are those of a string with blanks between.
func words(s string) []string { return strings.Fields(s) }

// repeat makes a list of n parts.
func repeat[T any](n int, part func(i int) T) []T {
	var out []T
	for i := range n {
		out = append(out, part(i))
	}
	return out
}

// parts makes a list of a string with `; ` between the parts, each one of words.
func parts[T any](s string, part func(w []string) T) []T {
	var out []T
	for line := range strings.SplitSeq(s, ";") {
		if w := words(line); len(w) > 0 {
			out = append(out, part(w))
		}
	}
	return out
}

// key is a key for a number; they rise.
func key(i int) string { return fmt.Sprintf("k%04d", i) }

// lines makes a text of lines with `; ` between.
func lines(s string) string {
	if s == "" {
		return ""
	}
	return strings.ReplaceAll(s, "; ", "\n") + "\n"
}

// number reads a number for a test; it stops the test if there is none.
func number(s string) int {
	n, err := strconv.Atoi(s)
	if err != nil {
		panic(s)
	}
	return n
}

// ip reads an address for a test; it stops the test if there is none.
func ip(s string) api.Addr {
	a, e := addr.Loose(s)
	if e != api.OK {
		panic(s)
	}
	return a
}

// net reads a prefix for a test; it stops the test if there is none.
func net(s string) api.Prefix {
	p, e := addr.ParsePrefix(s)
	if e != api.OK {
		panic(s)
	}
	return p
}

// routers makes routers of a prefix, a node and a weight each.
func routers(s string) []api.Router {
	return parts(s, func(w []string) api.Router {
		return api.Router{Prefix: net(w[0]), Node: w[1], Weight: number(w[2])}
	})
}

// health makes what is told of health of a moment, and a node with + or - ahead each.
func health(s string) []api.Health {
	return parts(s, func(w []string) api.Health {
		return api.Health{At: number(w[0]), Node: w[1][1:], Up: w[1][0] == '+'}
	})
}

// probes makes probes of a moment, a node, a relay and milliseconds each.
func probes(s string) []api.Probe {
	return parts(s, func(w []string) api.Probe {
		return api.Probe{At: number(w[0]), Node: w[1], Relay: w[2], Millis: number(w[3])}
	})
}

// links makes links of two relays and milliseconds each.
func links(s string) []api.Link {
	return parts(s, func(w []string) api.Link { return api.Link{A: w[0], B: w[1], Millis: number(w[2])} })
}

// samples makes samples of a moment, a path and milliseconds each.
func samples(s string) []api.Sample {
	return parts(s, func(w []string) api.Sample {
		return api.Sample{At: number(w[0]), Path: w[1], Millis: number(w[2])}
	})
}

// turns makes times of who, and one or two moments each; the second one is the end of all if it is not there.
func turns(s string) []api.Turn {
	return parts(s, func(w []string) api.Turn {
		t := api.Turn{Who: w[0], From: number(w[1]), To: api.End}
		if len(w) > 2 {
			t.To = number(w[2])
		}
		return t
	})
}

// turnsOf are the times of a telling second by second: who has something at each second, up to the last one, which goes on.
func turnsOf(seconds []string) []api.Turn {
	var out []api.Turn
	before := ""
	for at, who := range seconds {
		if who == before {
			continue
		}
		if before != "" {
			out[len(out)-1].To = at
		}
		if who != "" {
			out = append(out, api.Turn{Who: who, From: at, To: api.End})
		}
		before = who
	}
	return out
}

func window(from, to int) api.Window { return api.Window{From: from, To: to} }

// A spoiler makes a value wrong, with an error.
type spoiler[T any] struct {
	name string
	do   func(x *T)
	e    api.Errno
}

// checked spoils each part of a list that is right, also ahead of other errors of this part, and of a later one. (The spoilers are in the order of their errors.)
func checked[T any](t *testing.T, right []T, check func(l []T) api.Errno, spoilers []spoiler[T]) {
	t.Helper()
	is(t, "right", check(right), api.OK)
	is(t, "none", check(nil), api.OK)
	for i := range right {
		for k, s := range spoilers {
			l := slices.Clone(right)
			s.do(&l[i])
			is(t, fmt.Sprint(i, ": ", s.name), check(l), s.e)
			for _, later := range spoilers[k:] {
				l = slices.Concat(right, right)
				later.do(&l[i])
				s.do(&l[i])
				is(t, fmt.Sprint(i, ": ", s.name, ", then ", later.name), check(l), s.e)
				l[i] = right[i]
				s.do(&l[i])
				later.do(&l[len(right)+i])
				is(t, fmt.Sprint(i, ": ", s.name, ", and one with ", later.name), check(l), s.e)
			}
		}
	}
	for i := 1; i < len(right); i++ {
		l := slices.Clone(right)
		l[i-1], l[i] = l[i], l[i-1]
		is(t, fmt.Sprint(i, ": exchanged"), check(l), api.ErrOrder)
		l[i] = l[i-1]
		is(t, fmt.Sprint(i, ": the same twice"), check(l), api.ErrOrder)
		for _, s := range spoilers {
			l = slices.Clone(right)
			l[i] = l[i-1]
			s.do(&l[i])
			is(t, fmt.Sprint(i, ": out of order, and ", s.name), check(l), s.e)
		}
	}
}

// A step mends the first thing that is wrong with an input, which had an error.
type step struct {
	e    api.Errno
	mend func(in *input)
}

// ladder looks at the errors of a call with an input that is wrong throughout, and is mended step by step.
func ladder(t *testing.T, name string, f func(in input) []any, steps ...step) {
	t.Helper()
	in := wrongInput()
	for i, s := range steps {
		is(t, fmt.Sprint(name, ", step ", i), errnoOf(f(in)), s.e)
		s.mend(&in)
	}
	is(t, name+", mended", errnoOf(f(in)), api.OK)
}

// chance makes random values.
type chance struct{ *rand.Rand }

func newChance(seed int64) chance { return chance{rand.New(rand.NewSource(seed))} }

func pick[T any](r chance, l []T) T { return l[r.Intn(len(l))] }

// some are some of a list, in its order.
func some[T any](r chance, l []T) []T {
	var out []T
	for _, x := range l {
		if r.Intn(3) == 0 {
			out = append(out, x)
		}
	}
	return out
}

// What random values are made of. Prefixes and keys are in order.
var (
	someNets   = parts("0.0.0.0/0; 10.0.0.0/8; 10.0.0.0/16; 10.0.3.0/24; 10.1.0.0/16; ::/0; fd00::/8; fd00::/128", func(w []string) api.Prefix { return net(w[0]) })
	someAddrs  = parts("1.2.3.4; 10.0.0.0; 10.0.3.5; 10.1.2.3; 10.2.0.0; ::a00:1; fd00::; fd00::1", func(w []string) api.Addr { return ip(w[0]) })
	someNodes  = words("na nb nc nd")
	someRelays = words("ra rb rc rd re")
	somePaths  = words("pa pb pc pd")
)

// until is behind the last random moment.
const until = 30

func (r chance) routers() []api.Router {
	var out []api.Router
	for _, p := range someNets {
		for _, node := range some(r, someNodes) {
			out = append(out, api.Router{Prefix: p, Node: node, Weight: pick(r, []int{0, 1, 1, 2})})
		}
	}
	return out
}

// told makes a list of what is told at some moments by some of a list.
func told[T any](r chance, by []string, tell func(at int, who string) T) []T {
	var out []T
	for at := range until {
		if r.Intn(3) > 0 {
			continue
		}
		for _, who := range some(r, by) {
			out = append(out, tell(at, who))
		}
	}
	return out
}

func (r chance) health() []api.Health {
	return told(r, someNodes, func(at int, who string) api.Health {
		return api.Health{At: at, Node: who, Up: r.Intn(5) > 1}
	})
}

// millis are few, so that some are equal; sometimes there was no answer.
func (r chance) millis() int { return max(-1, r.Intn(14)-3) }

func (r chance) probes() []api.Probe {
	out := slices.Concat(repeat(2, func(i int) []api.Probe {
		return told(r, someRelays, func(at int, who string) api.Probe {
			return api.Probe{At: at, Node: someNodes[i], Relay: who, Millis: r.millis()}
		})
	})...)
	slices.SortStableFunc(out, func(x, y api.Probe) int { return cmp.Compare(x.At, y.At) })
	return out
}

func (r chance) links() []api.Link {
	var out []api.Link
	for i, a := range someRelays {
		for _, b := range someRelays[i+1:] {
			if r.Intn(5) > 1 {
				out = append(out, api.Link{A: a, B: b, Millis: r.Intn(4)})
			}
		}
	}
	return out
}

func (r chance) samples() []api.Sample {
	return told(r, somePaths, func(at int, who string) api.Sample {
		return api.Sample{At: at, Path: who, Millis: r.millis()}
	})
}

func (r chance) nat() api.Nat {
	return api.Nat{Maps: 1 + r.Intn(3), Lets: 1 + r.Intn(3), Timeout: 1 + r.Intn(4), First: pick(r, []int{1, 5_000, 65_530}), Ports: 1 + r.Intn(6), Outer: api.Addr{Lo: 99}}
}
