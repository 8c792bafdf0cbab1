package control

import (
	"cmp"
	"strconv"
	"strings"

	"holloway/addr"
	"holloway/api"
	"holloway/netmap"
	"holloway/node"
)

// listed is the answer with a line for each part of a list.
func listed[T any](l []T, line func(x T) string) string {
	var out strings.Builder
	for _, x := range l {
		out.WriteString(line(x) + "\n")
	}
	out.WriteString(done)
	return out.String()
}

// orDash is the answer with one word, or none.
func orDash(word string, is bool) string {
	if !is {
		word = "-"
	}
	return word + "\n"
}

func (c *Console) live([]string) (string, api.Errno) {
	l, e := node.Live(c.book.Setting.Directory, c.book.Steps, c.now)
	return listed(l, func(key string) string { return key }), e
}

func (c *Console) facts([]string) (string, api.Errno) {
	w, e := WorldAt(c.book, c.now)
	return listed(w.Scene.Facts, func(f api.Fact) string { return f.Node + " " + f.Posture }), e
}

func (c *Console) can(w []string) (string, api.Errno) {
	f, ok := readFlow(w)
	if !ok {
		return "", api.ErrSyntax
	}
	permitted, e := Permitted(c.book, f, c.now)
	if permitted {
		return "yes\n", e
	}
	return "no\n", e
}

func (c *Console) peers(w []string) (string, api.Errno) {
	m, e := MapOf(c.book, w[0], c.now)
	return listed(m.Peers, func(p api.Peer) string { return p.Key }), e
}

func (c *Console) way(w []string) (string, api.Errno) {
	a, ok := address(w[1])
	if !ok {
		return "", api.ErrSyntax
	}
	m, e := MapOf(c.book, w[0], c.now)
	if e != api.OK {
		return "", e
	}
	key, is, e := netmap.Way(m, a)
	return orDash(key, is), e
}

func (c *Console) resolve(w []string) (string, api.Errno) {
	l, e := Resolve(c.book, w[0], c.now)
	return listed(l, addressText), e
}

// addressText is the text of an address that is right.
func addressText(a api.Addr) string {
	text, _ := addr.Text(a)
	return text
}

func (c *Console) who(w []string) (string, api.Errno) {
	a, ok := address(w[0])
	if !ok {
		return "", api.ErrSyntax
	}
	m, is, e := WhoIs(c.book, a, c.now)
	return orDash(m.Node, is), e
}

func (c *Console) next([]string) (string, api.Errno) {
	at, is, e := NextChange(c.book, c.now)
	return orDash(strconv.Itoa(at), is), e
}

func (c *Console) refused([]string) (string, api.Errno) {
	l, e := Audit(c.book)
	return listed(l, noteText), e
}

// noteText writes a note.
func noteText(n api.Note) string {
	words := []string{strconv.Itoa(n.At), strconv.Itoa(n.Kind), strconv.Itoa(n.Number), cmp.Or(n.By, "-"), strconv.Itoa(int(n.Why))}
	return strings.Join(words, " ")
}
