package name

import (
	"cmp"
	"strings"

	"holloway/addr"
	"holloway/api"
	"holloway/checks"
	"holloway/notation"
)

const (
	wild     = "*." // ahead of the name of a record that is for names below it
	maxWords = 200  // bytes of Words
)

// What a record has beside its Name, Kind and Life.
const (
	hasFour  = iota + 1 // an address of 32 bits
	hasSix              // one of 128 bits
	hasName             // To
	hasWords            // Words
)

// A form is the word of a kind, and what a record of it has.
type form struct {
	kind int
	word string
	has  int
}

var forms = [...]form{
	{api.RecordA, "a", hasFour},
	{api.RecordAlias, "alias", hasName},
	{api.RecordBack, "back", hasName},
	{api.RecordWords, "words", hasWords},
	{api.RecordAAAA, "aaaa", hasSix},
}

// formOf is the form that fits; the zero one, if none does.
func formOf(fits func(f form) bool) form {
	for _, f := range forms {
		if fits(f) {
			return f
		}
	}
	return form{}
}

// formOfKind is the form of a kind; the zero one, if there is no such kind.
func formOfKind(kind int) form { return formOf(func(f form) bool { return f.kind == kind }) }

// hasOf is what a record has; 0 if there is no such kind.
func hasOf(r api.Record) int { return formOfKind(r.Kind).has }

func checkKind(kind int) api.Errno { return checks.Need(formOfKind(kind).has != 0, api.ErrKind) }

// bare is the name of a record without what stands ahead of it for names below it.
func bare(name string) string { return strings.TrimPrefix(name, wild) }

// checkOwner is what is wrong with the name of a record.
func checkOwner(name string) api.Errno {
	return checks.Need(len(name) <= api.MaxDomain && isDomain(bare(name)), api.ErrName)
}

// checkAddr is what is wrong with the address of a record.
func checkAddr(r api.Record) api.Errno {
	right := r.Addr == api.Addr{}
	switch hasOf(r) {
	case hasFour:
		right = !r.Addr.Six && addr.CheckAddr(r.Addr) == api.OK
	case hasSix:
		right = r.Addr.Six
	}
	return checks.Need(right, api.ErrForm)
}

// checkTo is what is wrong with the name to which a record leads.
func checkTo(r api.Record) api.Errno {
	if hasOf(r) == hasName {
		return checks.Need(isDomain(r.To), api.ErrName)
	}
	return checks.Need(r.To == "", api.ErrForm)
}

// checkWords is what is wrong with the words of a record.
func checkWords(r api.Record) api.Errno {
	right := r.Words == "" || hasOf(r) == hasWords && len(r.Words) <= maxWords && notation.IsPlain(r.Words)
	return checks.Need(right, api.ErrForm)
}

func checkLife(life int) api.Errno { return checks.Number(life, 0, api.MaxLife) }

// checkRecord is what is wrong with a record.
func checkRecord(r api.Record) api.Errno {
	return cmp.Or(checkOwner(r.Name), checkKind(r.Kind), checkAddr(r), checkTo(r), checkWords(r), checkLife(r.Life))
}

// compareRecords orders records by all that they say but their Lives.
func compareRecords(x, y api.Record) int {
	if c := strings.Compare(x.Name, y.Name); c != 0 {
		return c
	}
	return cmp.Or(cmp.Compare(x.Kind, y.Kind), cmp.Compare(x.Addr.Hi, y.Addr.Hi), cmp.Compare(x.Addr.Lo, y.Addr.Lo), strings.Compare(x.To, y.To), strings.Compare(x.Words, y.Words))
}

// ofKind are the records of a kind.
func ofKind(l []api.Record, kind int) []api.Record {
	var out []api.Record
	for _, r := range l {
		if r.Kind == kind {
			out = append(out, r)
		}
	}
	return out
}
