package name

import (
	"strconv"
	"strings"

	"holloway/addr"
	"holloway/api"
	"holloway/notation"
)

const (
	wordZone  = "zone"
	maxDigits = 9
)

// valueText is what a record has.
func valueText(r api.Record) string {
	switch hasOf(r) {
	case hasName:
		return r.To
	case hasWords:
		return r.Words
	}
	s, _ := addr.Text(r.Addr)
	return s
}

// recordText is the line of a record that is right.
func recordText(r api.Record) string {
	return strings.Join([]string{r.Name, formOfKind(r.Kind).word, strconv.Itoa(r.Life), valueText(r)}, " ")
}

// Text writes a zone.
func Text(z api.Zone) (string, api.Errno) {
	if e := CheckZone(z); e != api.OK {
		return "", e
	}
	lines := []string{wordZone + " " + z.Root}
	for _, r := range z.Records {
		lines = append(lines, recordText(r))
	}
	return notation.Lines(lines, func(line string) string { return line })
}

// isWord says whether a string can stand between blanks.
func isWord(s string) bool { return s != "" && !strings.Contains(s, " ") }

// readRoot reads the first line.
func readRoot(line string) (string, bool) {
	root, ok := strings.CutPrefix(line, wordZone+" ")
	return root, ok && isWord(root)
}

// readValue reads what a record has.
func readValue(s string, r *api.Record) bool {
	switch hasOf(*r) {
	case hasName:
		r.To = s
		return isWord(s)
	case hasWords:
		r.Words = s
		return true
	}
	a, e := addr.Parse(s)
	r.Addr = a
	return e == api.OK
}

// readRecord reads a line; the record need not be right.
func readRecord(line string) (api.Record, bool) {
	parts := strings.SplitN(line, " ", 4)
	if len(parts) < 4 || parts[0] == "" {
		return api.Record{}, false
	}
	f := formOf(func(f form) bool { return f.word == parts[1] })
	life, ok := notation.Signed(parts[2], maxDigits)
	r := api.Record{Name: parts[0], Kind: f.kind, Life: life}
	ok = ok && f.kind != 0 && readValue(parts[3], &r)
	return r, ok
}

// Read reads a zone.
func Read(text string) (api.Zone, int, api.Errno) {
	var z api.Zone
	n, e := notation.ReadLines(text, func(line string) bool {
		if z.Root == "" {
			root, ok := readRoot(line)
			z.Root = root
			return ok
		}
		r, ok := readRecord(line)
		z.Records = append(z.Records, r)
		return ok
	})
	if e == api.OK && z.Root == "" {
		e = api.ErrSyntax
	}
	if e == api.OK {
		e = CheckZone(z)
	}
	if e != api.OK {
		return api.Zone{}, n, e
	}
	return z, 0, api.OK
}
