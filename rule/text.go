package rule

import (
	"slices"
	"strconv"
	"strings"

	"holloway/addr"
	"holloway/api"
	"holloway/notation"
	"holloway/ports"
)

// Words of lines.
const (
	wordGroup   = "group"
	wordHost    = "host"
	wordGrant   = "allow"
	wordArrow   = "->"
	wordProto   = "proto"
	wordPosture = "if"
	wordAccept  = "accept"
	wordDeny    = "deny"
)

// netText writes a prefix that is right.
func netText(p api.Prefix) string {
	s, _ := addr.PrefixText(p)
	return s
}

// addrText writes an address that is right.
func addrText(a api.Addr) string {
	s, _ := addr.Text(a)
	return s
}

// whatText writes a what of a kind that there is.
func whatText(w api.What) string {
	f := forms[w.Kind-1]
	switch {
	case f.hasName:
		return f.word + ":" + w.Name
	case f.hasNet:
		return f.word + ":" + netText(w.Net)
	}
	return f.word
}

func targetText(t api.Target) string {
	if t.Ports == ports.All() {
		return whatText(t.What)
	}
	return whatText(t.What) + ";" + ports.Text(t.Ports)
}

// grantWords are the words of the line of a grant.
func grantWords(g api.Grant) []string {
	out := []string{wordGrant, notation.List(g.Src, whatText), wordArrow, notation.List(g.Dst, targetText)}
	if g.Proto != api.ProtoAll {
		out = append(out, wordProto, strconv.Itoa(g.Proto))
	}
	if len(g.Postures) > 0 {
		out = append(out, wordPosture, strings.Join(g.Postures, ","))
	}
	return out
}

// testWords are the words of the line of a test.
func testWords(t api.Test) []string {
	word := wordDeny
	if t.Accept {
		word = wordAccept
	}
	f := t.Flow
	return []string{word, strconv.Itoa(f.Proto), addrText(f.From), addrText(f.To), strconv.Itoa(f.FromPort), strconv.Itoa(f.ToPort)}
}

// Text writes a policy.
func Text(p api.Policy) (string, api.Errno) {
	if e := CheckPolicy(p); e != api.OK {
		return "", e
	}
	var out strings.Builder
	write := func(words ...string) { out.WriteString(strings.Join(words, " ") + "\n") }
	for _, g := range p.Groups {
		write(slices.Concat([]string{wordGroup, g.Name}, g.Members)...)
	}
	for _, h := range p.Hosts {
		write(wordHost, h.Name, netText(h.Net))
	}
	for _, g := range p.Grants {
		write(grantWords(g)...)
	}
	for _, t := range p.Tests {
		write(testWords(t)...)
	}
	if out.Len() > api.MaxText {
		return "", api.ErrLarge
	}
	return out.String(), api.OK
}
