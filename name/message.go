package name

import (
	"bytes"
	"cmp"
	"strings"

	"holloway/api"
	"holloway/checks"
	"holloway/wire"
)

const (
	maxId     = 1<<16 - 1
	maxCode   = 15
	markReply = 128
	reference = 192 // the first byte of a reference, if its offset is less than 256
)

// checkQuestion is what is wrong with a question.
func checkQuestion(q api.Question) api.Errno { return cmp.Or(CheckDomain(q.Name), checkKind(q.Kind)) }

// checkGot is what is wrong with a record of a message.
func checkGot(r api.Record) api.Errno {
	return cmp.Or(checkRecord(r), checks.Need(bare(r.Name) == r.Name, api.ErrName))
}

// checkMessage is what is wrong with a message.
func checkMessage(m api.Message) api.Errno {
	return cmp.Or(checks.Number(m.Id, 0, maxId), checks.Number(m.Code, 0, maxCode), checks.Each(m.Asked, api.MaxAsked, checkQuestion), checks.Each(m.Got, api.MaxGot, checkGot))
}

// A writer writes the bytes of a message.
type writer struct {
	b     []byte
	known map[string]int // the offsets at which endings of names were written label by label
}

func (w *writer) number(size, n int) { w.b = wire.Number(w.b, size, uint64(n)) }

// name writes a name; an ending that was written before is written as a reference.
func (w *writer) name(s string) {
	for ending := range endings(s) {
		if at, is := w.known[ending]; is {
			w.number(2, reference<<8+at)
			return
		}
		w.known[ending] = len(w.b)
		label, _, _ := strings.Cut(ending, ".")
		w.number(1, len(label))
		w.b = append(w.b, label...)
	}
	w.number(1, 0)
}

func (w *writer) question(q api.Question) {
	w.name(q.Name)
	w.number(1, q.Kind)
}

func (w *writer) record(r api.Record) {
	w.question(api.Question{Name: r.Name, Kind: r.Kind})
	w.number(4, r.Life)
	switch hasOf(r) {
	case hasFour, hasSix:
		w.b = wire.Addr(w.b, r.Addr)
	case hasName:
		w.name(r.To)
	case hasWords:
		w.number(1, len(r.Words))
		w.b = append(w.b, r.Words...)
	}
}

func (w *writer) message(m api.Message) {
	w.number(2, m.Id)
	mark := 0
	if m.Reply {
		mark = markReply
	}
	w.number(1, mark)
	w.number(1, m.Code)
	w.number(1, len(m.Asked))
	w.number(1, len(m.Got))
	for _, q := range m.Asked {
		w.question(q)
	}
	for _, r := range m.Got {
		w.record(r)
	}
}

// Encode writes a message as bytes.
func Encode(m api.Message) ([]byte, api.Errno) {
	if e := checkMessage(m); e != api.OK {
		return nil, e
	}
	w := writer{known: map[string]int{}}
	w.message(m)
	if len(w.b) > api.MaxPacket {
		return nil, api.ErrLarge
	}
	return w.b, api.OK
}

// A reader reads bytes as a message, that need not be right.
type reader struct {
	b      []byte
	at     int
	broken bool // the bytes have not the form of a message
}

// need breaks off if what must be so is not.
func (r *reader) need(so bool) { r.broken = r.broken || !so }

// take are the next bytes. Behind what is broken all of them are 0, which ends every name.
func (r *reader) take(n int) []byte {
	r.need(n <= len(r.b)-r.at)
	if r.broken {
		return make([]byte, n)
	}
	out := r.b[r.at : r.at+n]
	r.at += n
	return out
}

func (r *reader) number(size int) int { return wire.IntOf(r.take(size)) }

// name reads a name: references lead further and further back.
func (r *reader) name() string {
	var out []byte
	begin, behind := r.at, 0
	n := r.number(1)
	for ; n != 0; n = r.number(1) {
		if n <= api.MaxLabel {
			label := r.take(n)
			// Of a name that is too long already no more is kept: a few bytes of references can lead to very many.
			if len(out) <= api.MaxDomain+1 {
				out = append(append(out, label...), '.')
			}
			continue
		}
		r.need(n >= reference)
		to := (n-reference)<<8 + r.number(1)
		r.need(to < begin)
		behind = cmp.Or(behind, r.at)
		begin, r.at = to, to
	}
	r.at = cmp.Or(behind, r.at)
	return strings.TrimSuffix(string(out), ".")
}

func (r *reader) question() api.Question {
	name := r.name()
	return api.Question{Name: name, Kind: r.number(1)}
}

func (r *reader) record() api.Record {
	q := r.question()
	out := api.Record{Name: q.Name, Kind: q.Kind, Life: r.number(4)}
	switch hasOf(out) {
	case hasFour:
		out.Addr = wire.AddrOf(r.take(4))
	case hasSix:
		out.Addr = wire.AddrOf(r.take(16))
	case hasName:
		out.To = r.name()
	case hasWords:
		out.Words = string(r.take(r.number(1)))
	default:
		r.need(false)
	}
	return out
}

func (r *reader) message() api.Message {
	m := api.Message{Id: r.number(2)}
	mark := r.number(1)
	m.Reply = mark == markReply
	r.need(m.Reply || mark == 0)
	m.Code = r.number(1)
	asked := r.number(1)
	got := r.number(1)
	for range asked {
		m.Asked = append(m.Asked, r.question())
	}
	for range got {
		m.Got = append(m.Got, r.record())
	}
	return m
}

// Decode reads a message.
func Decode(b []byte) (api.Message, api.Errno) {
	if len(b) > api.MaxPacket {
		return api.Message{}, api.ErrLarge
	}
	r := reader{b: b}
	m := r.message()
	if r.broken || r.at < len(b) {
		return api.Message{}, api.ErrSyntax
	}
	if again, e := Encode(m); e != api.OK || !bytes.Equal(again, b) {
		return api.Message{}, api.ErrForm
	}
	return m, api.OK
}
