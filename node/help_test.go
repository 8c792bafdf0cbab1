package node_test

import (
	"cmp"
	"fmt"
	"reflect"
	"slices"
	"strconv"
	"strings"
	"testing"

	"holloway/api"
)

// is compares two values by what is shown of them, so that nil and empty lists are the same (Z5).
func is(t *testing.T, name string, got, want any) {
	t.Helper()
	if reflect.DeepEqual(got, want) {
		return
	}
	if g, w := fmt.Sprintf("%+v", got), fmt.Sprintf("%+v", want); g != w {
		t.Errorf("%s: got %s, want %s", name, g, w)
	}
}

// all makes one value of the results of a call.
func all(results ...any) []any { return results }

// words are those of a string with blanks between.
func words(s string) []string { return strings.Fields(s) }

// repeat makes a list of n parts.
func repeat[T any](n int, part func(i int) T) []T {
	var out []T
	for i := range n {
		out = append(out, part(i))
	}
	return out
}

// keys are n keys, rising.
func keys(n int) []string { return repeat(n, func(i int) string { return fmt.Sprintf("k%04d", i) }) }

// number reads a number for a test; it stops the test if there is none.
func number(s string) int {
	n, err := strconv.Atoi(s)
	if err != nil {
		panic(s)
	}
	return n
}

// directory makes a directory of users, and owners as TAG=USER,USER.
func directory(users, owners string, life int, approve bool) api.Directory {
	d := api.Directory{Users: words(users), Life: life, Approve: approve}
	for _, x := range words(owners) {
		tag, list, _ := strings.Cut(x, "=")
		o := api.Owner{Tag: tag}
		if list != "" {
			o.Users = strings.Split(list, ",")
		}
		d.Owners = append(d.Owners, o)
	}
	return d
}

// office is a directory in which ann owns web, bob owns db, both own ops, and nobody owns old.
func office(life int, approve bool) api.Directory {
	return directory("ann bob cid", "db=bob old= ops=ann,bob web=ann", life, approve)
}

// step makes a step, right or not, of its moment, its kind and its fields, with an empty one as `-`.
func step(line string) api.Step {
	w := words(line)
	for i := range w {
		if w[i] == "-" {
			w[i] = ""
		}
	}
	s := api.Step{At: number(w[0]), Server: "s", No: 1, By: w[2]}
	kinds := words("key revoke join approve renew name tag expire gone")
	s.Kind = slices.Index(kinds, w[1]) + 1
	switch f := w[3:]; w[1] {
	case "key":
		s.Join, s.Tags, s.Until, s.Uses, s.Ready = f[0], tags(f[1]), number(f[2]), number(f[3]), f[4] == "yes"
	case "revoke":
		s.Join = f[0]
	case "join":
		s.Node, s.Join, s.Public, s.Name = f[0], f[1], f[2], f[3]
	case "approve", "expire", "gone":
		s.Node = f[0]
	case "renew":
		s.Node, s.Public = f[0], f[1]
	case "name":
		s.Node, s.Name = f[0], f[1]
	case "tag":
		s.Node, s.Tags = f[0], tags(f[1])
	default:
		panic(line)
	}
	return s
}

func tags(s string) []string {
	if s == "" {
		return nil
	}
	return strings.Split(s, ",")
}

// log makes a log of steps that one server has written down.
func log(lines ...string) []api.Step {
	var out []api.Step
	for i, line := range lines {
		s := step(line)
		s.No = i + 1
		out = append(out, s)
	}
	return out
}

// by is a step that another server has written down as another number.
func by(server string, no int, line string) api.Step {
	s := step(line)
	s.Server, s.No = server, no
	return s
}

// inOrder are steps as a log has them.
func inOrder(l []api.Step) []api.Step {
	out := slices.Clone(l)
	slices.SortFunc(out, func(x, y api.Step) int {
		return cmp.Or(cmp.Compare(x.At, y.At), cmp.Compare(x.Server, y.Server), cmp.Compare(x.No, y.No))
	})
	return out
}

// window is from a moment on, and before another one.
func window(from, to int) api.Window { return api.Window{From: from, To: to} }

var longKey = strings.Repeat("a", api.MaxName)

// notKeys are strings that are no keys.
var notKeys = []string{"", "A", "aA", "1", "1a", "-", "-a", "_a", "@a", "a b", " a", "a ", "a.b", "a,b", "é", "a\n", "a\x00", longKey + "a"}

// notPublics are strings that are no public keys.
var notPublics = []string{"", "g", "0g", "A", "0A", "-", "0 ", " 0", "0x1", "é", "0\n", strings.Repeat("0", api.MaxPublic+1), "/", ":", "`"}
