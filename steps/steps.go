// Package steps has the forms of steps: what their kinds use, and how that is written and read.
package steps

import (
	"strings"

	"holloway/api"
	"holloway/checks"
	"holloway/notation"
)

const maxNo = 1_000_000

// What a kind of steps does with a column.
const (
	unused   = '.'
	optional = '?'
)

// A form is the word of a kind, and what it does with each column (+ uses it).
type form struct{ word, cells string }

// forms are those of the kinds, from StepKey on.
var forms = [...]form{
	{"key", "+.+..++++"},
	{"revoke", "+.+......"},
	{"join", "?+?++...."},
	{"approve", "++......."},
	{"renew", "++.+....."},
	{"name", "++..+...."},
	{"tag", "++...+..."},
	{"expire", "++......."},
	{"gone", "++......."},
}

// kindOf is the kind with a word; 0 if there is none.
func kindOf(word string) int {
	for i, f := range forms {
		if f.word == word {
			return i + 1
		}
	}
	return 0
}

// cellsOf is what a kind that there is does with each column.
func cellsOf(kind int) string { return forms[kind-1].cells }

// A Table has the columns of steps, in the order of the document's table.
type Table []column

// Check is what is wrong with the form of a step.
func (t Table) Check(s *api.Step) api.Errno {
	if e := checks.Moment(s.At); e != api.OK {
		return e
	}
	if e := checks.Key(s.Server); e != api.OK {
		return e
	}
	if e := checks.Number(s.No, 1, maxNo); e != api.OK {
		return e
	}
	if s.Kind < 1 || s.Kind > len(forms) {
		return api.ErrKind
	}
	return t.checkCells(s)
}

// checkCells is what is wrong with the columns of a step: with those that it uses, then with the others.
func (t Table) checkCells(s *api.Step) api.Errno {
	cells := cellsOf(s.Kind)
	for i, c := range t {
		if cells[i] == unused || cells[i] == optional && c.zero(s) {
			continue
		}
		if e := c.check(s); e != api.OK {
			return e
		}
	}
	for i, c := range t {
		if cells[i] == unused && !c.zero(s) {
			return api.ErrForm
		}
	}
	return api.OK
}

// Text writes a step that is right, from the word of its kind on.
func (t Table) Text(s *api.Step) string {
	words := []string{forms[s.Kind-1].word}
	for i, c := range t {
		if cellsOf(s.Kind)[i] != unused {
			words = append(words, c.write(s))
		}
	}
	return strings.Join(words, " ")
}

// Read reads the words of a step from that of its kind on; the step need not be right.
func (t Table) Read(words []string) (api.Step, bool) {
	if len(words) == 0 {
		return api.Step{}, false
	}
	kind := kindOf(words[0])
	if kind == 0 {
		return api.Step{}, false
	}
	s := api.Step{Kind: kind}
	rest := words[1:]
	for i, c := range t {
		if cellsOf(kind)[i] == unused {
			continue
		}
		if len(rest) == 0 || !c.read(rest[0], &s) {
			return api.Step{}, false
		}
		rest = rest[1:]
	}
	return s, len(rest) == 0
}

// Number reads a number of a step.
func Number(word string) (int, bool) { return notation.Signed(word, maxDigits) }
