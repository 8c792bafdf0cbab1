package flow

import (
	"strconv"
	"strings"

	"holloway/addr"
	"holloway/api"
	"holloway/notation"
)

const maxDigits = 13

// The words for the end that tells of a flow.
const (
	wordOut = "out"
	wordIn  = "in"
)

func endText(out bool) string {
	if out {
		return wordOut
	}
	return wordIn
}

// Text writes reports.
func Text(l []api.Report) (string, api.Errno) {
	if e := Check(l); e != api.OK {
		return "", e
	}
	return notation.Lines(l, func(r api.Report) string {
		f := r.Flow
		from, _ := addr.Text(f.From)
		to, _ := addr.Text(f.To)
		words := []string{strconv.Itoa(r.Hour), r.Node, endText(r.Out), strconv.Itoa(f.Proto), from, to}
		for _, n := range [4]int{f.FromPort, f.ToPort, r.Packets, r.Bytes} {
			words = append(words, strconv.Itoa(n))
		}
		return strings.Join(words, " ")
	})
}

// readReport reads a line; the report need not be right.
func readReport(line string) (api.Report, bool) {
	words := strings.Split(line, " ")
	if len(words) != 10 || words[1] == "" || words[2] != wordOut && words[2] != wordIn {
		return api.Report{}, false
	}
	r := api.Report{Node: words[1], Out: words[2] == wordOut}
	f := &r.Flow
	for i, number := range [10]*int{0: &r.Hour, 3: &f.Proto, 6: &f.FromPort, 7: &f.ToPort, 8: &r.Packets, 9: &r.Bytes} {
		if number == nil {
			continue
		}
		n, ok := notation.Signed(words[i], maxDigits)
		if !ok {
			return api.Report{}, false
		}
		*number = n
	}
	var from, to api.Errno
	f.From, from = addr.Parse(words[4])
	f.To, to = addr.Parse(words[5])
	return r, from == api.OK && to == api.OK
}

// Read reads reports.
func Read(text string) ([]api.Report, int, api.Errno) {
	return notation.ReadParts(text, readReport, Check)
}
