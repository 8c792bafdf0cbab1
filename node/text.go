package node

import (
	"slices"
	"strconv"
	"strings"

	"holloway/api"
	"holloway/notation"
)

// textOf writes a step that is right.
func textOf(table []column, s *api.Step) string {
	words := []string{strconv.Itoa(s.At), s.Server, strconv.Itoa(s.No), forms[s.Kind-1].word}
	for i, c := range table {
		if cellsOf(s.Kind)[i] != unused {
			words = append(words, c.write(s))
		}
	}
	return strings.Join(words, " ")
}

// Text writes a log.
func Text(l []api.Step) (string, api.Errno) {
	if e := Check(l); e != api.OK {
		return "", e
	}
	table := columns()
	return notation.Lines(l, func(s api.Step) string { return textOf(table, &s) })
}

// kindOf is the kind of a word, if there is one.
func kindOf(word string) (int, bool) {
	for i, f := range forms {
		if f.word == word {
			return i + 1, true
		}
	}
	return 0, false
}

// readStep reads a line; the step need not be right.
func readStep(table []column, line string) (api.Step, bool) {
	words := strings.Split(line, " ")
	if len(words) < 4 || slices.Contains(words, "") {
		return api.Step{}, false
	}
	at, atOK := notation.Signed(words[0], maxDigits)
	no, noOK := notation.Signed(words[2], maxDigits)
	kind, kindOK := kindOf(words[3])
	if !atOK || !noOK || !kindOK {
		return api.Step{}, false
	}
	s := api.Step{At: at, Server: words[1], No: no, Kind: kind}
	ok := readCells(table, words[4:], &s)
	return s, ok
}

// readCells reads the words of the columns of a step.
func readCells(table []column, words []string, s *api.Step) bool {
	n := 0
	for i, c := range table {
		if cellsOf(s.Kind)[i] == unused {
			continue
		}
		if n == len(words) || !c.read(words[n], s) {
			return false
		}
		n++
	}
	return n == len(words)
}

// Read reads a log.
func Read(text string) ([]api.Step, int, api.Errno) {
	table := columns()
	return notation.ReadParts(text, func(line string) (api.Step, bool) { return readStep(table, line) }, Check)
}
