package netmap

import (
	"cmp"
	"slices"
	"strconv"
	"strings"

	"holloway/addr"
	"holloway/api"
	"holloway/checks"
	"holloway/filter"
	"holloway/notation"
)

// The words ahead of lines.
const (
	wordSelf   = "self"
	wordTag    = "tag"
	wordPeer   = "peer"
	wordAddr   = "addr"
	wordRoute  = "route"
	wordSuffix = "suffix"
	wordFilter = "filter"
)

const noUser = "-"

// Kinds of lines, in such an order that those behind which a kind can stand are next to each other.
const (
	atStart = iota // no line
	atSelf
	atTag
	atPeer
	atAddr
	atRoute
	atSuffix
	atFilter
)

// A form is how lines of a kind look: how many words stand behind the word of the kind; the line before is of a kind from after to last.
type form struct {
	word               string
	words, after, last int
}

// forms are those of the kinds, from atSelf on.
var forms = [...]form{
	{wordSelf, 3, atStart, atStart},
	{wordTag, 1, atSelf, atTag},
	{wordPeer, 2, atSelf, atRoute},
	{wordAddr, 1, atSelf, atAddr},
	{wordRoute, 1, atSelf, atRoute},
	{wordSuffix, 1, atSelf, atRoute},
	{wordFilter, 4, atSuffix, atFilter},
}

// kindOf is the kind of lines with a word; atStart if there is none.
func kindOf(word string) int {
	for i, f := range forms {
		if f.word == word {
			return atSelf + i
		}
	}
	return atStart
}

// nodeLines are the lines of a node, behind the first one.
func nodeLines(n api.Node) []string {
	var out []string
	for _, tag := range n.Tags {
		out = append(out, wordTag+" "+tag)
	}
	for _, a := range n.Addrs {
		text, _ := addr.Text(a)
		out = append(out, wordAddr+" "+text)
	}
	for _, p := range n.Routes {
		text, _ := addr.PrefixText(p)
		out = append(out, wordRoute+" "+text)
	}
	return out
}

// Text writes a map.
func Text(m api.Map) (string, api.Errno) {
	if e := CheckMap(m); e != api.OK {
		return "", e
	}
	rows, e := filter.Text(m.Filters)
	if e != api.OK {
		return "", e
	}
	lines := []string{strings.Join([]string{wordSelf, m.Self.Key, m.Self.Name, cmp.Or(m.Self.User, noUser)}, " ")}
	lines = append(lines, nodeLines(m.Self)...)
	for _, p := range m.Peers {
		lines = append(lines, strings.Join([]string{wordPeer, p.Key, p.Name}, " "))
		lines = append(lines, nodeLines(api.Node{Addrs: p.Addrs, Routes: p.Routes})...)
	}
	lines = append(lines, wordSuffix+" "+m.Suffix)
	for row := range strings.Lines(rows) {
		lines = append(lines, wordFilter+" "+strings.TrimSuffix(row, "\n"))
	}
	return notation.Lines(lines, func(line string) string { return line })
}

// A reader reads the lines of a map, one after the other.
type reader struct {
	kind   int        // of the line before
	nodes  []api.Node // the node itself, then the peers
	suffix string
	rows   strings.Builder
}

// take reads a line; what it says need not be right.
func (r *reader) take(line string) bool {
	words := strings.Split(line, " ")
	kind := kindOf(words[0])
	if kind == atStart {
		return false
	}
	f := forms[kind-atSelf]
	if r.kind < f.after || r.kind > f.last {
		return false
	}
	rest := words[1:]
	if len(rest) != f.words || slices.Contains(rest, "") {
		return false
	}
	r.kind = kind
	switch r.kind {
	case atSelf:
		r.nodes = append(r.nodes, api.Node{Key: rest[0], Name: rest[1], User: readUser(rest[2])})
	case atPeer:
		r.nodes = append(r.nodes, api.Node{Key: rest[0], Name: rest[1]})
	case atSuffix:
		r.suffix = rest[0]
	case atFilter:
		return r.takeRow(strings.Join(rest, " ") + "\n")
	default:
		return r.takePart(rest[0])
	}
	return true
}

// readUser reads the user of a node, if it has one.
func readUser(word string) string {
	if word == noUser {
		return ""
	}
	return word
}

// takeRow reads a line of a row.
func (r *reader) takeRow(line string) bool {
	r.rows.WriteString(line)
	_, _, e := filter.Read(line)
	return e != api.ErrSyntax
}

// takePart reads a tag, an address or a route of the last node.
func (r *reader) takePart(word string) bool {
	n := &r.nodes[len(r.nodes)-1]
	switch r.kind {
	case atTag:
		n.Tags = append(n.Tags, word)
	case atAddr:
		a, e := addr.Parse(word)
		n.Addrs = append(n.Addrs, a)
		return e == api.OK
	case atRoute:
		p, e := addr.ParsePrefix(word)
		n.Routes = append(n.Routes, p)
		return e == api.OK
	}
	return true
}

// result is the map of all lines.
func (r *reader) result() (api.Map, api.Errno) {
	m := api.Map{Self: r.nodes[0], Suffix: r.suffix}
	for _, n := range r.nodes[1:] {
		m.Peers = append(m.Peers, api.Peer{Key: n.Key, Name: n.Name, Addrs: n.Addrs, Routes: n.Routes})
	}
	// There are no rows beside an error of theirs, which comes in the middle of those of a map.
	rows, _, wrong := filter.Read(r.rows.String())
	m.Filters = rows
	e := cmp.Or(checkSelf(m.Self), checkPeers(m.Peers, m.Self.Key), wrong, checks.Suffix(m.Suffix))
	if e != api.OK {
		return api.Map{}, e
	}
	return m, api.OK
}

// Read reads a map.
func Read(text string) (api.Map, int, api.Errno) {
	var r reader
	n, e := notation.ReadLines(text, r.take)
	if e == api.OK && r.kind < atSuffix {
		n, e = strings.Count(text, "\n"), api.ErrSyntax
	}
	if e != api.OK {
		return api.Map{}, n, e
	}
	m, e := r.result()
	return m, 0, e
}

// Digest is the sum of the text of a map.
func Digest(m api.Map) (string, api.Errno) {
	text, e := Text(m)
	if e != api.OK {
		return "", e
	}
	digits := strconv.FormatUint(notation.Sum(text), 16)
	return strings.Repeat("0", 16-len(digits)) + digits, api.OK
}
