package posture

import (
	"cmp"
	"slices"
	"strconv"
	"strings"

	"holloway/api"
	"holloway/checks"
)

const maxNumber = 100_000_000

// flag is an attribute that is true, or false.
func flag(is bool) api.Attr {
	a := api.Attr{Kind: api.AttrFlag}
	if is {
		a.Number = 1
	}
	return a
}

// inWords says whether a byte can be in words.
func inWords(b byte) bool { return ' ' <= b && b <= '~' }

// checkNumber is what is wrong with the number of an attribute.
func checkNumber(a api.Attr) api.Errno {
	switch a.Kind {
	case api.AttrNumber:
		return checks.Number(a.Number, -maxNumber, maxNumber)
	case api.AttrFlag:
		return checks.Number(a.Number, 0, 1)
	}
	return checks.Need(a.Number == 0, api.ErrForm)
}

// checkWords is what is wrong with the words of an attribute.
func checkWords(a api.Attr) api.Errno {
	if a.Kind != api.AttrWords {
		return checks.Need(a.Words == "", api.ErrForm)
	}
	return checks.Need(len(a.Words) <= api.MaxWords && runOf(a.Words, inWords) == len(a.Words), api.ErrForm)
}

// checkVersion is what is wrong with the version of an attribute.
func checkVersion(a api.Attr) api.Errno {
	if a.Kind != api.AttrVersion {
		return checks.Need(a.Version == [api.MaxParts]int{}, api.ErrForm)
	}
	return checks.Each(a.Version[:], api.MaxParts, func(n int) api.Errno { return checks.Number(n, 0, api.MaxPart) })
}

// checkAttr is what is wrong with an attribute.
func checkAttr(a api.Attr) api.Errno {
	known := api.AttrNumber <= a.Kind && a.Kind <= api.AttrVersion
	return cmp.Or(checks.Need(known, api.ErrKind), checkNumber(a), checkWords(a), checkVersion(a))
}

// compareAttrs orders right attributes of one kind: what the kind does not use is equal.
func compareAttrs(a, b api.Attr) int {
	return cmp.Or(cmp.Compare(a.Number, b.Number), strings.Compare(a.Words, b.Words), slices.Compare(a.Version[:], b.Version[:]))
}

// Order compares two attributes.
func Order(a, b api.Attr) (int, bool, api.Errno) {
	if e := cmp.Or(checkAttr(a), checkAttr(b)); e != api.OK {
		return 0, false, e
	}
	if a.Kind != b.Kind {
		return 0, false, api.OK
	}
	return compareAttrs(a, b), true, api.OK
}

// attrText writes an attribute that is right.
func attrText(a api.Attr) string {
	switch a.Kind {
	case api.AttrNumber:
		return strconv.Itoa(a.Number)
	case api.AttrWords:
		return `"` + strings.NewReplacer(`\`, `\\`, `"`, `\"`).Replace(a.Words) + `"`
	case api.AttrFlag:
		return strconv.FormatBool(a == flag(true))
	}
	var parts []string
	for _, n := range a.Version {
		parts = append(parts, strconv.Itoa(n))
	}
	return "v" + strings.Join(parts, ".")
}
