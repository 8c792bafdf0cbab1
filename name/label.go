package name

import (
	"cmp"
	"slices"
	"strconv"
	"strings"

	"holloway/api"
	"holloway/checks"
)

const (
	maxWish = 200    // bytes of a name that is wished
	noLabel = "node" // if nothing is left of it
)

// Label makes a label of a string.
func Label(s string) string {
	var out []byte
	for i := range len(s) {
		b := s[i]
		if 'A' <= b && b <= 'Z' {
			b += 'a' - 'A'
		}
		if isInner(b) {
			out = append(out, b)
		} else if len(out) == 0 || out[len(out)-1] != '-' {
			out = append(out, '-')
		}
	}
	// A `-` that is taken away at the beginning has had its place: cutting comes first.
	label := strings.Trim(string(out[:min(len(out), api.MaxLabel)]), "-")
	return cmp.Or(label, noLabel)
}

// checkWish is what is wrong with a wish, behind its node.
func checkWish(w api.Wish) api.Errno {
	return cmp.Or(checks.Need(len(w.Name) <= maxWish, api.ErrForm), checks.Moment(w.Joined))
}

// checkWishes is what is wrong with wishes.
func checkWishes(l []api.Wish) api.Errno {
	key := func(w api.Wish) api.Errno { return checks.Key(w.Node) }
	byNode := func(x, y api.Wish) int { return strings.Compare(x.Node, y.Node) }
	return checks.Rising(l, api.MaxNodes, key, byNode, checkWish)
}

// numbered is a label with a number behind it, which can cost it its last bytes.
func numbered(label string, n int) string {
	behind := "-" + strconv.Itoa(n)
	return label[:min(len(label), api.MaxLabel-len(behind))] + behind
}

// Call gives each node a label.
func Call(l []api.Wish) ([]api.Called, api.Errno) {
	if e := checkWishes(l); e != api.OK {
		return nil, e
	}
	// Those that joined at once stay in the order of their nodes.
	first := slices.SortedStableFunc(slices.Values(l), func(x, y api.Wish) int { return cmp.Compare(x.Joined, y.Joined) })
	taken := map[string]bool{}
	var out []api.Called
	for _, w := range first {
		wanted := Label(w.Name)
		label := wanted
		for n := 1; taken[label]; n++ {
			label = numbered(wanted, n)
		}
		taken[label] = true
		out = append(out, api.Called{Node: w.Node, Label: label})
	}
	slices.SortFunc(out, compareCalled)
	return out, api.OK
}

func compareCalled(x, y api.Called) int { return strings.Compare(x.Node, y.Node) }
