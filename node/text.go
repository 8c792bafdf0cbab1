package node

import (
	"strconv"
	"strings"

	"holloway/api"
	"holloway/notation"
	"holloway/steps"
)

// lineOf writes a step that is right.
func lineOf(table steps.Table, s *api.Step) string {
	return strings.Join([]string{strconv.Itoa(s.At), s.Server, strconv.Itoa(s.No), table.Text(s)}, " ")
}

// Text writes a log.
func Text(l []api.Step) (string, api.Errno) {
	if e := Check(l); e != api.OK {
		return "", e
	}
	table := steps.Columns()
	return notation.Lines(l, func(s api.Step) string { return lineOf(table, &s) })
}

// readStep reads a line; the step need not be right.
func readStep(table steps.Table, line string) (api.Step, bool) {
	words := strings.Split(line, " ")
	if len(words) < 4 {
		return api.Step{}, false
	}
	at, atOK := steps.Number(words[0])
	no, noOK := steps.Number(words[2])
	s, ok := table.Read(words[3:])
	s.At, s.Server, s.No = at, words[1], no
	return s, ok && atOK && noOK && s.Server != ""
}

// Read reads a log.
func Read(text string) ([]api.Step, int, api.Errno) {
	table := steps.Columns()
	return notation.ReadParts(text, func(line string) (api.Step, bool) { return readStep(table, line) }, Check)
}
