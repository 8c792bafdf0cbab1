// Package notation has the forms of strings that the chapters share: keys, numbers and lines.
package notation

import (
	"strings"
	"unicode/utf8"

	"holloway/api"
)

// IsKey says whether a string is a key.
func IsKey(s string) bool {
	if s == "" || len(s) > api.MaxName || !IsSmall(s[0]) {
		return false
	}
	for i := range len(s) {
		if !InKey(s[i]) {
			return false
		}
	}
	return true
}

// InKey says whether a byte can be in a key.
func InKey(b byte) bool { return IsSmall(b) || IsDigit(b) || b == '-' || b == '_' }

// IsSmall says whether a byte is a small letter.
func IsSmall(b byte) bool { return 'a' <= b && b <= 'z' }

// IsDigit says whether a byte is a decimal digit.
func IsDigit(b byte) bool { return '0' <= b && b <= '9' }

// IsPlain says whether a string is plain.
func IsPlain(s string) bool {
	for i := range len(s) {
		if s[i] < ' ' || s[i] == 127 {
			return false
		}
	}
	return utf8.ValidString(s) && strings.Trim(s, " ") == s && !strings.Contains(s, "  ")
}

// Number reads a number that is not below 0 and has at most so many digits (18 at the most, so that no sum overflows).
func Number(s string, digits int) (int, bool) {
	if s == "" || len(s) > digits || s[0] == '0' && len(s) > 1 {
		return 0, false
	}
	n := 0
	for i := range len(s) {
		if !IsDigit(s[i]) {
			return 0, false
		}
		n = n*10 + int(s[i]-'0')
	}
	return n, true
}

// Signed reads a number, also one below 0, with at most so many digits (18 at the most).
func Signed(s string, digits int) (int, bool) {
	rest, below := strings.CutPrefix(s, "-")
	n, ok := Number(rest, digits)
	if below {
		return -n, ok && n != 0
	}
	return n, ok
}

// Sum is the sum of the bytes of a string: other strings have mostly another one.
func Sum(s string) uint64 {
	h := uint64(14695981039346656037)
	for i := range len(s) {
		h = (h ^ uint64(s[i])) * 1099511628211
	}
	return h
}

// ReadLines hands the lines of a text to take, until it says that one has not its form; the int is the number of a line that has not, or that is not ended.
func ReadLines(text string, take func(line string) bool) (int, api.Errno) {
	if len(text) > api.MaxText {
		return 0, api.ErrLarge
	}
	for n := 0; text != ""; n++ {
		line, rest, ended := strings.Cut(text, "\n")
		if !ended || !take(line) {
			return n, api.ErrSyntax
		}
		text = rest
	}
	return 0, api.OK
}

// Lines writes a line for each part of a list, if that is not too long for a text.
func Lines[T any](l []T, line func(x T) string) (string, api.Errno) {
	var out strings.Builder
	for _, x := range l {
		out.WriteString(line(x) + "\n")
	}
	if out.Len() > api.MaxText {
		return "", api.ErrLarge
	}
	return out.String(), api.OK
}

// ReadParts reads a part of a list from each line of a text, and checks the list; the int is the number of a line that has not its form.
func ReadParts[T any](text string, read func(line string) (T, bool), check func(l []T) api.Errno) ([]T, int, api.Errno) {
	var out []T
	n, e := ReadLines(text, func(line string) bool {
		x, ok := read(line)
		out = append(out, x)
		return ok
	})
	if e == api.OK {
		e = check(out)
	}
	if e != api.OK {
		return nil, n, e
	}
	return out, 0, api.OK
}

// List writes the parts of a list with commas between.
func List[T any](l []T, text func(x T) string) string {
	var parts []string
	for _, x := range l {
		parts = append(parts, text(x))
	}
	return strings.Join(parts, ",")
}

// ReadList reads parts with commas between, one at the least.
func ReadList[T any](s string, read func(part string) (T, bool)) ([]T, bool) {
	var out []T
	for part := range strings.SplitSeq(s, ",") {
		x, ok := read(part)
		if !ok {
			return nil, false
		}
		out = append(out, x)
	}
	return out, true
}
