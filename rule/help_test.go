package rule_test

import (
	"fmt"
	"reflect"
	"strings"
	"testing"

	"holloway/addr"
	"holloway/api"
	"holloway/rule"
)

// is compares two values by what is shown of them, so that nil and empty lists are the same (Z5).
func is(t *testing.T, name string, got, want any) {
	t.Helper()
	if reflect.DeepEqual(got, want) {
		return
	}
	if g, w := fmt.Sprintf("%+v", got), fmt.Sprintf("%+v", want); g != w {
		t.Errorf("%s: got %s, want %s", name, g, w)
	}
}

// all makes one value of the results of a call.
func all(results ...any) []any { return results }

// words are those of a string with blanks between.
func words(s string) []string { return strings.Fields(s) }

// repeat makes a list of n parts.
func repeat[T any](n int, part func(i int) T) []T {
	var out []T
	for i := range n {
		out = append(out, part(i))
	}
	return out
}

// key is a key for a number; they rise.
func key(i int) string { return fmt.Sprintf("k%04d", i) }

// keys are n keys, rising.
func keys(n int) []string { return repeat(n, key) }

// lines makes a text of lines with `; ` between.
func lines(s string) string {
	if s == "" {
		return ""
	}
	return strings.ReplaceAll(s, "; ", "\n") + "\n"
}

// ip reads an address for a test; it stops the test if there is none.
func ip(s string) api.Addr {
	a, e := addr.Loose(s)
	if e != api.OK {
		panic(s)
	}
	return a
}

// net reads a prefix for a test; it stops the test if there is none.
func net(s string) api.Prefix {
	p, e := addr.ParsePrefix(s)
	if e != api.OK {
		panic(s)
	}
	return p
}

// nets reads prefixes with blanks between.
func nets(s string) []api.Prefix {
	var out []api.Prefix
	for _, x := range words(s) {
		out = append(out, net(x))
	}
	return out
}

// nodes makes nodes of lines with a key, the user or # and tags, and addresses.
func nodes(s string) []api.Node {
	var out []api.Node
	for line := range strings.Lines(lines(s)) {
		w := words(line)
		n := api.Node{Key: w[0], Name: w[0], User: w[1]}
		if tags, ok := strings.CutPrefix(w[1], "#"); ok {
			n.User, n.Tags = "", strings.Split(tags, ",")
		}
		for _, a := range w[2:] {
			n.Addrs = append(n.Addrs, ip(a))
		}
		out = append(out, n)
	}
	return out
}

// facts makes facts of a string with NODE/POSTURE and blanks between.
func facts(s string) []api.Fact {
	var out []api.Fact
	for _, x := range words(s) {
		node, posture, _ := strings.Cut(x, "/")
		out = append(out, api.Fact{Node: node, Posture: posture})
	}
	return out
}

// policy reads a policy of lines for a test; it stops the test if it is wrong.
func policy(s string) api.Policy {
	p, _, e := rule.Read(lines(s))
	if e != api.OK {
		panic(s)
	}
	return p
}

func scene(who, what, known string) api.Scene {
	return api.Scene{Nodes: nodes(who), Policy: policy(what), Facts: facts(known)}
}

// flow makes a flow of its protocol, its addresses and ToPort.
func flow(proto int, from, to string, port int) api.Flow {
	return api.Flow{Proto: proto, From: ip(from), To: ip(to), ToPort: port}
}

// people are nodes of users, and with tags; d has no address, e and x have both lengths.
const people = "a ann 100.64.0.1; b bob 100.64.0.2; c ann 100.64.0.3; d dan; e eve 100.64.0.5 fd00::5; w #web 100.64.0.9; x #db,web 100.64.0.10 fd00::10"

var longKey = strings.Repeat("a", api.MaxName)

// notKeys are strings that are no keys.
var notKeys = []string{"", "A", "aA", "1", "1a", "-", "-a", "_a", "a@", "a b", " a", "a ", "a.b", "a,b", "a;b", "é", "a\n", "a\x00", longKey + "a"}
