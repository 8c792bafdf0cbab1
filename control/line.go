package control

import (
	"slices"
	"strings"

	"holloway/addr"
	"holloway/api"
	"holloway/notation"
)

const maxDigits = 9

// A form is how a line can look: a word, and so many words behind it. What it does with these has an answer.
type form struct {
	word  string
	words int
	do    func(w []string) (string, api.Errno)
}

// forms are those of all lines but steps and claims.
func (c *Console) forms() []form {
	return []form{
		{"at", 1, writes(c.wait)},
		{"ask", 5, writes(c.ask)},
		{"yes", 2, writes(c.says(api.AskYes))},
		{"no", 2, writes(c.says(api.AskNo))},
		{"stop", 2, writes(c.says(api.AskStop))},
		{"up", 1, writes(c.isUp(true))},
		{"down", 1, writes(c.isUp(false))},
		{"live", 0, c.live},
		{"facts", 0, c.facts},
		{"can", 5, c.can},
		{"peers", 1, c.peers},
		{"way", 2, c.way},
		{"name", 1, c.resolve},
		{"who", 1, c.who},
		{"next", 0, c.next},
		{"refused", 0, c.refused},
	}
}

// writes is what a line does that only writes something down.
func writes(do func(w []string) api.Errno) func(w []string) (string, api.Errno) {
	return func(w []string) (string, api.Errno) { return done, do(w) }
}

// answer is the answer to a line, if there is no error.
func (c *Console) answer(line string) (string, api.Errno) {
	if strings.Contains(line, "\n") {
		return "", api.ErrSyntax
	}
	// Blanks in a value are not those between words.
	if claim, is := strings.CutPrefix(line, "claim "); is {
		return done, c.claim(claim)
	}
	words := strings.Split(line, " ")
	if slices.Contains(words, "") {
		return "", api.ErrSyntax
	}
	for _, f := range c.forms() {
		if f.word == words[0] && f.words == len(words)-1 {
			return f.do(words[1:])
		}
	}
	return done, c.step(words)
}

// number reads a number.
func number(word string) (int, bool) { return notation.Signed(word, maxDigits) }

// address reads an address.
func address(word string) (api.Addr, bool) {
	a, e := addr.Parse(word)
	return a, e == api.OK
}

// readFlow reads a protocol and two ends, each one with its port.
func readFlow(w []string) (api.Flow, bool) {
	proto, protoOK := number(w[0])
	from, fromOK := address(w[1])
	fromPort, fromPortOK := number(w[2])
	to, toOK := address(w[3])
	toPort, toPortOK := number(w[4])
	f := api.Flow{Proto: proto, From: from, To: to, FromPort: fromPort, ToPort: toPort}
	return f, protoOK && fromOK && fromPortOK && toOK && toPortOK
}
