package steps

import (
	"slices"
	"strconv"
	"strings"

	"holloway/api"
	"holloway/checks"
	"holloway/notation"
)

const (
	maxNumber = 999_999_999 // of Until and Uses
	maxDigits = 9
)

// A column is a field of steps that some kinds use.
type column struct {
	check func(s *api.Step) api.Errno // what is wrong with it, if the kind uses it
	zero  func(s *api.Step) bool
	write func(s *api.Step) string
	read  func(word string, s *api.Step) bool
}

// Columns makes the table of all columns.
func Columns() Table {
	return Table{
		wordColumn(func(s *api.Step) *string { return &s.By }, notation.IsKey),
		wordColumn(func(s *api.Step) *string { return &s.Node }, notation.IsKey),
		wordColumn(func(s *api.Step) *string { return &s.Join }, notation.IsKey),
		wordColumn(func(s *api.Step) *string { return &s.Public }, IsPublic),
		wordColumn(func(s *api.Step) *string { return &s.Name }, notation.IsKey),
		tagsColumn(),
		numberColumn(func(s *api.Step) *int { return &s.Until }),
		numberColumn(func(s *api.Step) *int { return &s.Uses }),
		readyColumn(),
	}
}

// IsPublic says whether a string can be a public key.
func IsPublic(s string) bool {
	for i := range len(s) {
		if strings.IndexByte("0123456789abcdef", s[i]) < 0 {
			return false
		}
	}
	return s != "" && len(s) <= api.MaxPublic
}

// wordColumn is a field that is a string.
func wordColumn(of func(s *api.Step) *string, right func(word string) bool) column {
	return column{
		check: func(s *api.Step) api.Errno {
			return checks.Need(right(*of(s)), api.ErrName)
		},
		zero:  func(s *api.Step) bool { return *of(s) == "" },
		write: func(s *api.Step) string { return orDash(*of(s)) },
		read: func(word string, s *api.Step) bool {
			if word != "-" {
				*of(s) = word
			}
			return word != ""
		},
	}
}

func orDash(s string) string {
	if s == "" {
		return "-"
	}
	return s
}

// tagsColumn is the field Tags.
func tagsColumn() column {
	return column{
		check: func(s *api.Step) api.Errno {
			if len(s.Tags) > api.MaxTags {
				return api.ErrLarge
			}
			return checks.Keys(s.Tags)
		},
		zero:  func(s *api.Step) bool { return len(s.Tags) == 0 },
		write: func(s *api.Step) string { return orDash(strings.Join(s.Tags, ",")) },
		read: func(word string, s *api.Step) bool {
			if word != "-" {
				s.Tags = strings.Split(word, ",")
			}
			return !slices.Contains(s.Tags, "")
		},
	}
}

// numberColumn is a field that is a number.
func numberColumn(of func(s *api.Step) *int) column {
	return column{
		check: func(s *api.Step) api.Errno {
			return checks.Number(*of(s), 0, maxNumber)
		},
		zero:  func(s *api.Step) bool { return *of(s) == 0 },
		write: func(s *api.Step) string { return strconv.Itoa(*of(s)) },
		read: func(word string, s *api.Step) bool {
			n, ok := Number(word)
			*of(s) = n
			return ok
		},
	}
}

// readyColumn is the field Ready.
func readyColumn() column {
	return column{
		check: func(*api.Step) api.Errno { return api.OK },
		zero:  func(s *api.Step) bool { return !s.Ready },
		write: func(s *api.Step) string {
			if s.Ready {
				return "yes"
			}
			return "no"
		},
		read: func(word string, s *api.Step) bool {
			s.Ready = word == "yes"
			return s.Ready || word == "no"
		},
	}
}
