package rule

import (
	"slices"
	"strings"

	"holloway/addr"
	"holloway/api"
	"holloway/notation"
	"holloway/ports"
)

const maxDigits = 9

// Kinds of lines, in their order.
const (
	lineGroup = iota
	lineHost
	lineGrant
	lineTest
)

// A reader has the policy of some lines, and the kind of the last one.
type reader struct {
	policy api.Policy
	last   int
}

// comes says whether a line of a kind may come behind the last one.
func (r *reader) comes(kind int) bool {
	ok := r.last <= kind
	r.last = kind
	return ok
}

// take reads a line; what it says need not be right.
func (r *reader) take(line string) bool {
	words := strings.Split(line, " ")
	if slices.Contains(words, "") {
		return false
	}
	switch words[0] {
	case wordGroup:
		return r.comes(lineGroup) && r.takeGroup(words[1:])
	case wordHost:
		return r.comes(lineHost) && r.takeHost(words[1:])
	case wordGrant:
		return r.comes(lineGrant) && r.takeGrant(words[1:])
	case wordAccept, wordDeny:
		return r.comes(lineTest) && r.takeTest(words[0] == wordAccept, words[1:])
	}
	return false
}

func (r *reader) takeGroup(words []string) bool {
	if len(words) == 0 {
		return false
	}
	r.policy.Groups = append(r.policy.Groups, api.Group{Name: words[0], Members: words[1:]})
	return true
}

func (r *reader) takeHost(words []string) bool {
	if len(words) != 2 {
		return false
	}
	net, e := addr.ParsePrefix(words[1])
	r.policy.Hosts = append(r.policy.Hosts, api.Host{Name: words[0], Net: net})
	return e == api.OK
}

func (r *reader) takeGrant(words []string) bool {
	if len(words) < 3 || words[1] != wordArrow {
		return false
	}
	src, srcOK := notation.ReadList(words[0], readWhat)
	dst, dstOK := notation.ReadList(words[2], readTarget)
	g := api.Grant{Src: src, Dst: dst}
	rest, protoOK := readOption(words[3:], wordProto, func(word string) bool {
		n, ok := notation.Signed(word, maxDigits)
		g.Proto = n
		return ok && n != api.ProtoAll
	})
	rest, postureOK := readOption(rest, wordPosture, func(word string) bool {
		l, ok := notation.ReadList(word, readName)
		g.Postures = l
		return ok
	})
	r.policy.Grants = append(r.policy.Grants, g)
	return srcOK && dstOK && protoOK && postureOK && len(rest) == 0
}

// readOption reads the word behind a word that can be missing, and returns the words that are left.
func readOption(words []string, name string, read func(word string) bool) ([]string, bool) {
	if len(words) < 2 || words[0] != name {
		return words, true
	}
	return words[2:], read(words[1])
}

func (r *reader) takeTest(accept bool, words []string) bool {
	if len(words) != 5 {
		return false
	}
	var numbers [3]int
	for i, word := range [3]string{words[0], words[3], words[4]} {
		n, ok := notation.Signed(word, maxDigits)
		if !ok {
			return false
		}
		numbers[i] = n
	}
	from, fromError := addr.Parse(words[1])
	to, toError := addr.Parse(words[2])
	f := api.Flow{Proto: numbers[0], From: from, To: to, FromPort: numbers[1], ToPort: numbers[2]}
	r.policy.Tests = append(r.policy.Tests, api.Test{Flow: f, Accept: accept})
	return fromError == api.OK && toError == api.OK
}

// readName reads a name, which need not be a key.
func readName(s string) (string, bool) { return s, s != "" && !strings.ContainsAny(s, ",;") }

// kindOf is the kind of whats that has a word, and a part behind it or none.
func kindOf(word string, more bool) (int, bool) {
	for i, f := range forms {
		if f.word == word && more == (f.hasName || f.hasNet) {
			return i + 1, true
		}
	}
	return 0, false
}

// readWhat reads a what.
func readWhat(s string) (api.What, bool) {
	word, rest, more := strings.Cut(s, ":")
	kind, ok := kindOf(word, more)
	if !ok {
		return api.What{}, false
	}
	w := api.What{Kind: kind}
	switch f := forms[kind-1]; {
	case f.hasName:
		w.Name, ok = readName(rest)
	case f.hasNet:
		net, e := addr.ParsePrefix(rest)
		w.Net, ok = net, e == api.OK
	}
	return w, ok
}

// readTarget reads a what with its ports.
func readTarget(s string) (api.Target, bool) {
	word, text, some := strings.Cut(s, ";")
	w, ok := readWhat(word)
	t := api.Target{What: w, Ports: ports.All()}
	if !ok || !some {
		return t, ok
	}
	t.Ports, ok = ports.Read(text)
	return t, ok && t.Ports != ports.All()
}

// Read reads a policy.
func Read(text string) (api.Policy, int, api.Errno) {
	var r reader
	n, e := notation.ReadLines(text, r.take)
	if e == api.OK {
		e = CheckPolicy(r.policy)
	}
	if e != api.OK {
		return api.Policy{}, n, e
	}
	return r.policy, 0, api.OK
}
