package control

import (
	"cmp"
	"strconv"
	"strings"

	"holloway/api"
	"holloway/checks"
	"holloway/values"
)

// Console is a server that does what lines say.
type Console struct {
	name string
	now  int
	book api.Book // it is right
}

// New is a console with a setting, and nothing written down.
func New(s api.Setting, key string) (*Console, api.Errno) {
	if e := cmp.Or(CheckSetting(s), checks.Key(key)); e != api.OK {
		return nil, e
	}
	return &Console{name: key, book: api.Book{Setting: values.CopySetting(s)}}, api.OK
}

// Take merges a book into that of a console.
func (c *Console) Take(b api.Book) api.Errno {
	merged, e := Merge(c.book, b)
	if e == api.OK {
		c.book = merged
	}
	return e
}

// Book is the book of a console.
func (c *Console) Book() api.Book { return copyBook(c.book) }

const done = "ok\n"

// failed is the answer for an error.
func failed(e api.Errno) string { return "error " + strconv.Itoa(int(e)) + "\n" }

// Do does what a line says.
func (c *Console) Do(line string) string {
	answer, e := c.answer(line)
	if e != api.OK {
		return failed(e)
	}
	return answer
}

// Session does the lines of a script.
func Session(s api.Setting, key, script string) string {
	if len(script) > api.MaxText {
		return failed(api.ErrLarge)
	}
	c, e := New(s, key)
	if e != api.OK {
		return failed(e)
	}
	var out strings.Builder
	for line := range strings.SplitSeq(script, "\n") {
		if line != "" {
			out.WriteString(c.Do(line))
		}
	}
	return out.String()
}
