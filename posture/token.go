package posture

import (
	"strings"

	"holloway/api"
	"holloway/notation"
)

const maxDigits = 9

// A token is a sign, a name or a value (of a kind that there is); it has none of these where none begins.
type token struct {
	at, size int
	sign     string
	name     string
	value    api.Attr
}

// signs are those of conditions, longer ones ahead of those with which they begin.
var signs = [...]string{"==", "!=", "<=", ">=", "&&", "||", "<", ">", "!", "(", ")"}

// runOf is with how many such bytes a string begins.
func runOf(s string, has func(b byte) bool) int {
	n := 0
	for n < len(s) && has(s[n]) {
		n++
	}
	return n
}

// beginsNumber says whether a string begins with a digit, or with `-` and one.
func beginsNumber(s string) bool {
	digits := strings.TrimPrefix(s, "-")
	return digits != "" && notation.IsDigit(digits[0])
}

// beginsVersion says whether a string begins with `v` and a digit.
func beginsVersion(s string) bool {
	return len(s) > 1 && s[0] == 'v' && notation.IsDigit(s[1])
}

// tokenOf is the token with which a string begins.
func tokenOf(s string) token {
	for _, sign := range signs {
		if strings.HasPrefix(s, sign) {
			return token{size: len(sign), sign: sign}
		}
	}
	switch {
	case strings.HasPrefix(s, `"`):
		return wordsToken(s)
	case beginsNumber(s):
		return numberToken(s)
	case beginsVersion(s):
		return versionToken(s)
	}
	return nameToken(s)
}

func numberToken(s string) token {
	size := 1 + runOf(s[1:], notation.IsDigit)
	n, ok := notation.Signed(s[:size], maxDigits)
	if !ok {
		return token{}
	}
	return token{size: size, value: api.Attr{Kind: api.AttrNumber, Number: n}}
}

func wordsToken(s string) token {
	var words []byte
	for i := 1; i < len(s) && inWords(s[i]); i++ {
		if s[i] == '"' {
			return token{size: i + 1, value: api.Attr{Kind: api.AttrWords, Words: string(words)}}
		}
		if s[i] == '\\' {
			i++
			if i == len(s) || s[i] != '"' && s[i] != '\\' {
				break
			}
		}
		words = append(words, s[i])
	}
	return token{}
}

func versionToken(s string) token {
	size := 1 + runOf(s[1:], func(b byte) bool { return notation.IsDigit(b) || b == '.' })
	numbers := strings.Split(s[1:size], ".")
	if len(numbers) > api.MaxParts {
		return token{}
	}
	value := api.Attr{Kind: api.AttrVersion}
	for i, text := range numbers {
		n, ok := notation.Number(text, maxDigits)
		if !ok {
			return token{}
		}
		value.Version[i] = n
	}
	return token{size: size, value: value}
}

// nameToken is a name, `true` or `false`, if a string begins with one.
func nameToken(s string) token {
	size := runOf(s, notation.InKey)
	name := s[:size]
	switch {
	case size == 0 || !notation.IsSmall(s[0]):
		return token{}
	case name == wordTrue || name == wordFalse:
		return token{size: size, value: flag(name == wordTrue)}
	}
	return token{size: size, name: name}
}
