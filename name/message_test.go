package name_test

import (
	"bytes"
	"fmt"
	"math"
	"slices"
	"strings"
	"testing"

	"holloway/api"
	"holloway/name"
)

// bytesOf makes bytes of numbers, and of signs in single quotes, with blanks between.
func bytesOf(s string) []byte {
	var out []byte
	for _, w := range words(s) {
		if text, is := strings.CutPrefix(w, "'"); is {
			out = append(out, text...)
			continue
		}
		out = append(out, byte(number(w)))
	}
	return out
}

// asks is a question for a name and a kind.
func asks(s string, kind int) api.Question { return api.Question{Name: s, Kind: kind} }

// P6.9: messages and their bytes, made by hand.
func TestMessages(t *testing.T) {
	for _, c := range []struct {
		m api.Message
		b string
	}{
		{api.Message{}, "0 0 0 0 0 0"},
		{api.Message{Id: 65_535, Reply: true, Code: 15}, "255 255 128 15 0 0"},
		{api.Message{Id: 258, Asked: []api.Question{asks("a", 28), asks("_b.a", 16)}}, "1 2 0 0 2 0  1 'a 0 28  2 '_b 192 6 16"},
		// A record of each kind.
		{api.Message{Id: 1, Reply: true, Got: records("a a 1 1.2.3.4")}, "0 1 128 0 0 1  1 'a 0 1 0 0 0 1  1 2 3 4"},
		{api.Message{Id: 1, Reply: true, Got: records("a aaaa 258 102:304:506:708:90a:b0c:d0e:ff10")}, "0 1 128 0 0 1  1 'a 0 28 0 0 1 2  1 2 3 4 5 6 7 8 9 10 11 12 13 14 255 16"},
		{api.Message{Id: 1, Reply: true, Got: records("a alias 1000000 b.a")}, "0 1 128 0 0 1  1 'a 0 5 0 15 66 64  1 'b 192 6"},
		{api.Message{Id: 1, Reply: true, Got: records("a back 0 b")}, "0 1 128 0 0 1  1 'a 0 12 0 0 0 0  1 'b 0"},
		{api.Message{Id: 1, Reply: true, Got: records("a words 65536 x y é")}, "0 1 128 0 0 1  1 'a 0 16 0 1 0 0  6 'x 32 'y 32 'é"},
		{api.Message{Id: 1, Reply: true, Got: records("a words 0")}, "0 1 128 0 0 1  1 'a 0 16 0 0 0 0  0"},
		// References: to whole names, to their ends, to the end of a name that ends with a reference itself, but not within a name.
		{api.Message{Asked: []api.Question{asks("a.a", 1), asks("a.a", 1), asks("a", 1), asks("b.a.a", 1), asks("b.a", 1), asks("c.b.a", 1), asks("c.b.a.a", 1), asks("a.a.a", 1)}},
			"0 0 0 0 8 0  1 'a 1 'a 0 1  192 6 1  192 8 1  1 'b 192 6 1  1 'b 192 8 1  1 'c 192 23 1  1 'c 192 18 1  1 'a 192 6 1"},
		{api.Message{Asked: []api.Question{asks("ab.cd", 1)}, Got: records("x.cd alias 7 ab.cd; cd back 8 d; b.cd words 9 d.cd")},
			"0 0 0 0 1 3  2 'ab 2 'cd 0 1  1 'x 192 9 5 0 0 0 7 192 6  192 9 12 0 0 0 8 1 'd 0  1 'b 192 9 16 0 0 0 9 4 'd.cd"},
	} {
		b := bytesOf(c.b)
		is(t, fmt.Sprint(c.m), all(name.Encode(c.m)), all(b, api.OK))
		is(t, c.b, all(name.Decode(b)), all(c.m, api.OK))
	}
	// An offset of more than a byte, and the longest label.
	m := api.Message{Asked: []api.Question{asks(long(253, "x"), 1), asks(label63, 1), asks("y", 1), asks("z.y", 1), asks("q."+label63, 1)}}
	b, e := name.Encode(m)
	is(t, "long", all(len(b), e, b[6], b[6+253], b[6+254], b[262], b[328:]), all(342, api.OK, byte(7), byte('x'), byte(0), byte(63), bytesOf("1 'y 0 1  1 'z 193 72 1  1 'q 193 6 1")))
	is(t, "long", all(name.Decode(b)), all(m, api.OK))
}

// P6.9, Z4, Z6
func TestEncodeErrors(t *testing.T) {
	check := func(m api.Message) api.Errno { _, e := name.Encode(m); return e }
	ladder(t, "Encode", api.Message{Id: -1, Code: 16, Asked: make([]api.Question, api.MaxAsked+1), Got: make([]api.Record, api.MaxGot+1)}, check,
		step[api.Message]{api.ErrArg, func(m *api.Message) { m.Id = 1<<16 - 1 }},
		step[api.Message]{api.ErrArg, func(m *api.Message) { m.Id, m.Code = -1, 15 }},
		step[api.Message]{api.ErrArg, func(m *api.Message) { m.Id = 1<<16 - 1 }},
		step[api.Message]{api.ErrLarge, func(m *api.Message) { m.Asked = []api.Question{asks("a", 1), asks("*.a", 0), asks(tooLong, 1)} }},
		step[api.Message]{api.ErrName, func(m *api.Message) { m.Asked = []api.Question{asks("a", 1), asks(tooLong, 0), asks("a.", 1)} }},
		step[api.Message]{api.ErrLarge, func(m *api.Message) { m.Asked = []api.Question{asks("a", 2), asks("a.", 1)} }},
		step[api.Message]{api.ErrKind, func(m *api.Message) {
			m.Asked = repeat(api.MaxAsked, func(i int) api.Question { return asks("a", 1) })
		}},
		step[api.Message]{api.ErrLarge, func(m *api.Message) { m.Got = records("a a 5 0.0.0.0; *.a a -1 0.0.0.0; A a 5 0.0.0.0") }},
		step[api.Message]{api.ErrArg, func(m *api.Message) { m.Got = records("a a 5 0.0.0.0; *.a a 5 0.0.0.0; a a -1 0.0.0.0") }},
		step[api.Message]{api.ErrName, func(m *api.Message) {
			m.Got = repeat(api.MaxGot, func(i int) api.Record { return record(words("a a 5 0.0.0.0")) })
		}})
	for _, n := range []int{math.MinInt, -1, 1 << 16, math.MaxInt} {
		is(t, fmt.Sprint("Id ", n), check(api.Message{Id: n}), api.ErrArg)
	}
	for _, n := range []int{math.MinInt, -1, 16, math.MaxInt} {
		is(t, fmt.Sprint("Code ", n), check(api.Message{Code: n}), api.ErrArg)
	}
	for kind := -2; kind < 40; kind++ {
		want := api.ErrKind
		if slices.Contains(kinds, kind) {
			want = api.OK
		}
		is(t, fmt.Sprint(kind), check(api.Message{Asked: []api.Question{asks("a", kind)}}), want)
	}
	for _, size := range []int{api.MaxPacket, api.MaxPacket + 1} {
		m := api.Message{Got: repeat(20, func(i int) api.Record {
			return api.Record{Name: "a", Kind: api.RecordWords, Words: strings.Repeat("w", 200)}
		})}
		m.Got[19].Words = m.Got[19].Words[:size-(6+20*8+1+19*200)]
		full := written(m)
		is(t, "the size", len(full), size)
		if size > api.MaxPacket {
			is(t, "too long", all(name.Encode(m)), all([]byte{}, api.ErrLarge))
			continue
		}
		is(t, "full", all(name.Encode(m)), all(full, api.OK))
		is(t, "full", all(name.Decode(full)), all(m, api.OK))
	}
}

// P6.9
func TestDecodeErrors(t *testing.T) {
	for _, c := range []struct {
		b    string
		want api.Errno
	}{
		// They end too early.
		{"", api.ErrSyntax},
		{"0 0 0 0 0", api.ErrSyntax},
		{"0 0 0 0 1 0", api.ErrSyntax},
		{"0 0 0 0 0 1", api.ErrSyntax},
		{"0 0 0 0 1 0 1", api.ErrSyntax},
		{"0 0 0 0 1 0 1 'a", api.ErrSyntax},
		{"0 0 0 0 1 0 1 'a 0", api.ErrSyntax},
		{"0 0 0 0 2 0 1 'a 0 1 192", api.ErrSyntax},
		{"0 0 0 0 0 1 1 'a 0 1 0 0 0 1 1 2 3", api.ErrSyntax},
		{"0 0 0 0 0 1 1 'a 0 28 0 0 0 1 1 2 3 4 5 6 7 8 9 10 11 12 13 14 15", api.ErrSyntax},
		{"0 0 0 0 0 1 1 'a 0 16 0 0 0 1 3 'xy", api.ErrSyntax},
		{"0 0 0 0 0 1 1 'a 0 16 0 0 0 1", api.ErrSyntax},
		{"0 0 0 0 0 1 1 'a 0 16 0 0 0", api.ErrSyntax},
		{"0 0 0 0 0 1 1 'a 0 5 0 0 0 1", api.ErrSyntax},
		{"0 0 0 0 1 1 1 'a 0 1", api.ErrSyntax},
		// They are more than the message has.
		{"0 0 0 0 0 0 0", api.ErrSyntax},
		{"0 0 0 0 1 0 1 'a 0 1 0", api.ErrSyntax},
		// The third byte.
		{"0 0 1 0 0 0", api.ErrSyntax},
		{"0 0 127 0 0 0", api.ErrSyntax},
		{"0 0 129 0 0 0", api.ErrSyntax},
		{"0 0 255 0 0 0", api.ErrSyntax},
		// A record of another kind; a question of one has its form.
		{"0 0 0 0 0 1 1 'a 0 0 0 0 0 1", api.ErrSyntax},
		{"0 0 0 0 0 1 1 'a 0 2 0 0 0 1 1 2 3 4", api.ErrSyntax},
		{"0 0 0 0 0 1 1 'a 0 255 0 0 0 1 0", api.ErrSyntax},
		{"0 0 0 0 1 0 1 'a 0 2", api.ErrForm},
		{"0 0 0 0 1 0 1 'a 0 0", api.ErrForm},
		// Bytes that begin labels.
		{"0 0 0 0 1 0 64 'aaaaaaaaaaaaaaaaaaaaaaaaaaaaaaaaaaaaaaaaaaaaaaaaaaaaaaaaaaaaaaaa 0 1", api.ErrSyntax},
		{"0 0 0 0 1 0 1 'a 64 0 1", api.ErrSyntax},
		{"0 0 0 0 1 0 128 0 1", api.ErrSyntax},
		{"0 0 0 0 2 0 1 'a 0 1 191 6 1", api.ErrSyntax},
		{"0 0 0 0 2 0 1 'a 0 1 192 6 1", api.OK},
		// References must lead back, each one further than the one before.
		{"0 0 0 0 1 0 192 6 1", api.ErrSyntax},
		{"0 0 0 0 1 0 192 7 1", api.ErrSyntax},
		{"0 0 0 0 1 0 192 255 1", api.ErrSyntax},
		{"0 0 0 0 1 0 255 255 1", api.ErrSyntax},
		{"0 0 0 0 1 0 1 'a 192 6 1", api.ErrSyntax},
		{"0 0 0 0 1 0 1 'a 192 8 1", api.ErrSyntax},
		{"0 0 0 0 2 0 1 'a 0 1 192 10 1", api.ErrSyntax},
		{"0 0 0 0 2 0 1 'a 0 1 1 'b 192 10 1", api.ErrSyntax},
		{"0 0 0 0 2 0 1 'a 0 1 1 'b 192 9 1", api.ErrSyntax},
		{"0 0 0 0 2 0 1 'a 0 1 1 'b 192 8 1", api.ErrForm},
		{"0 0 0 0 2 0 1 'a 0 1 1 'b 193 6 1", api.ErrSyntax},
		// A part that goes on in bytes that come later: back to itself, or to an end.
		{"0 0 0 0 3 0 2 3 'y 0 1 192 7 1 1 'a 0 1", api.ErrSyntax},
		{"0 0 0 0 3 0 2 6 'y 0 1 192 7 1 1 'a 0 1", api.ErrForm},
		{"0 0 0 0 3 0 2 7 'y 0 1 192 7 1 1 'a 0 1", api.ErrSyntax},
		// Names and references that have the form, but are not written so.
		{"0 0 0 0 1 0 0 1", api.ErrForm},
		{"0 0 0 0 1 0 1 'A 0 1", api.ErrForm},
		{"0 0 0 0 1 0 1 '. 0 1", api.ErrForm},
		{"0 0 0 0 1 0 3 'a.b 0 1", api.ErrForm},
		{"0 0 0 0 1 0 1 '- 0 1", api.ErrForm},
		{"0 0 0 0 2 0 1 'a 0 1 1 'a 0 1", api.ErrForm},
		{"0 0 0 0 2 0 1 'b 1 'a 0 1 1 'a 0 1", api.ErrForm},
		{"0 0 0 0 3 0 1 'a 0 1 192 6 1 192 10 1", api.ErrForm},
		{"0 0 0 0 1 0 192 0 1", api.ErrForm},
		{"0 1 0 0 1 0 192 0 1", api.ErrForm},
		{"1 'a 0 0 1 0 192 0 1", api.ErrForm},
		{"1 'a 0 0 2 0 1 'a 0 1 192 0 1", api.ErrForm},
		{"0 0 0 0 1 1 1 'a 0 1 1 'b 0 5 0 0 0 9 1 'a 0", api.ErrForm},
		// Numbers out of their range, and records that are not right.
		{"0 0 0 16 0 0", api.ErrForm},
		{"0 0 128 255 0 0", api.ErrForm},
		{"0 0 0 0 0 1 1 'a 0 1 0 15 66 65 0 0 0 0", api.ErrForm},
		{"0 0 0 0 0 1 1 'a 0 1 255 255 255 255 0 0 0 0", api.ErrForm},
		{"0 0 0 0 0 1 1 '* 1 'a 0 1 0 0 0 5 0 0 0 0", api.ErrForm},
		{"0 0 0 0 0 1 1 'a 0 16 0 0 0 5 1 32", api.ErrForm},
		{"0 0 0 0 0 1 1 'a 0 16 0 0 0 5 1 255", api.ErrForm},
		{"0 0 0 0 0 1 1 'a 0 5 0 0 0 5 0", api.ErrForm},
		{"0 0 0 0 0 1 1 'a 0 12 0 0 0 5 1 '* 0", api.ErrForm},
		// Both: the form of all bytes is asked for first.
		{"0 0 0 16 0 0 0", api.ErrSyntax},
		{"0 0 0 16 1 0 0 1 0", api.ErrSyntax},
	} {
		want := api.Message{}
		if c.want == api.OK {
			want.Asked = []api.Question{asks("a", 1), asks("a", 1)}
		}
		is(t, c.b, all(name.Decode(bytesOf(c.b))), all(want, c.want))
	}
	// More questions and records than there can be, and names and words that are too long.
	counts := func(asked, got int) []byte {
		b := []byte{0, 0, 0, 0, byte(asked), byte(got)}
		for i := range asked {
			if i == 0 {
				b = append(b, 1, 'a', 0, 1)
				continue
			}
			b = append(b, 192, 6, 1)
		}
		for range got {
			b = append(b, 192, 6, 16, 0, 0, 0, 5, 1, 'w')
		}
		return b
	}
	for _, c := range []struct {
		asked, got int
		want       api.Errno
	}{{10, 0, api.OK}, {10, 50, api.OK}, {11, 0, api.ErrForm}, {1, 51, api.ErrForm}, {255, 255, api.ErrForm}} {
		_, e := name.Decode(counts(c.asked, c.got))
		is(t, fmt.Sprint(c), e, c.want)
		_, e = name.Decode(counts(c.asked, c.got)[:6])
		is(t, fmt.Sprint(c, " cut"), e, api.ErrSyntax)
	}
	longName := slices.Concat([]byte{0, 0, 0, 0, 1, 0}, bytes.Repeat([]byte{1, 'a'}, 127), []byte{0, 1})
	m, e := name.Decode(longName)
	is(t, "a long name", all(m, e), all(api.Message{Asked: []api.Question{asks(strings.Repeat("a.", 126)+"a", 1)}}, api.OK))
	for _, more := range []int{128, 252, 253, 254, 255, 2_000} {
		b := slices.Concat([]byte{0, 0, 0, 0, 1, 0}, bytes.Repeat([]byte{1, 'a'}, more), []byte{0, 1})
		is(t, "a longer name", all(name.Decode(b)), all(api.Message{}, api.ErrForm))
		b = append(b, 0)
		is(t, "a longer name, and more", all(name.Decode(b)), all(api.Message{}, api.ErrSyntax))
	}
	for size, want := range map[int]api.Errno{200: api.OK, 201: api.ErrForm, 255: api.ErrForm} {
		b := slices.Concat([]byte{0, 0, 0, 0, 0, 1, 1, 'a', 0, 16, 0, 0, 0, 5, byte(size)}, bytes.Repeat([]byte("w"), size))
		_, e := name.Decode(b)
		is(t, fmt.Sprint(size, " words"), e, want)
	}
	is(t, "at the limit", all(name.Decode(make([]byte, api.MaxPacket))), all(api.Message{}, api.ErrSyntax))
	is(t, "too many bytes", all(name.Decode(make([]byte, api.MaxPacket+1))), all(api.Message{}, api.ErrLarge))
}

// written is a second telling of Encode, for messages that are right.
func written(m api.Message) []byte {
	b := []byte{byte(m.Id / 256), byte(m.Id % 256), 0, byte(m.Code), byte(len(m.Asked)), byte(len(m.Got))}
	if m.Reply {
		b[2] = 128
	}
	type spot struct {
		at  int
		end string
	}
	var known []spot
	putName := func(s string) {
		var own []spot
		defer func() { known = append(known, own...) }()
		for labels := strings.Split(s, "."); len(labels) > 0; labels = labels[1:] {
			end := strings.Join(labels, ".")
			for _, k := range known {
				if k.end == end {
					b = append(b, byte(192+k.at/256), byte(k.at%256))
					return
				}
			}
			own = append(own, spot{len(b), end})
			b = append(append(b, byte(len(labels[0]))), labels[0]...)
		}
		b = append(b, 0)
	}
	putNumber := func(size int, n uint64) {
		for i := range size {
			b = append(b, byte(n>>(8*(size-1-i))))
		}
	}
	for _, q := range m.Asked {
		putName(q.Name)
		putNumber(1, uint64(q.Kind))
	}
	for _, r := range m.Got {
		putName(r.Name)
		putNumber(1, uint64(r.Kind))
		putNumber(4, uint64(r.Life))
		switch r.Kind {
		case api.RecordA:
			putNumber(4, r.Addr.Lo)
		case api.RecordAAAA:
			putNumber(8, r.Addr.Hi)
			putNumber(8, r.Addr.Lo)
		case api.RecordWords:
			putNumber(1, uint64(len(r.Words)))
			b = append(b, r.Words...)
		default:
			putName(r.To)
		}
	}
	return b
}

// A telling tells again how bytes are read; it panics if they have not the form of a message.
type telling struct {
	b  []byte
	at int
}

func (x *telling) next(n int) []byte {
	x.at += n
	return x.b[x.at-n : x.at : len(x.b)]
}

func (x *telling) number(size int) int {
	n := 0
	for _, b := range x.next(size) {
		n = n*256 + int(b)
	}
	return n
}

// nameFrom are the labels of a name that begins somewhere, and where it ends.
func (x *telling) nameFrom(begin int) ([]string, int) {
	part := telling{x.b, begin}
	var out []string
	for {
		switch n := part.number(1); {
		case n == 0:
			return out, part.at
		case n < 64:
			out = append(out, string(part.next(n)))
		case n < 192:
			panic("no label")
		default:
			to := (n-192)*256 + part.number(1)
			if to >= begin {
				panic("not back")
			}
			more, _ := x.nameFrom(to)
			return append(out, more...), part.at
		}
	}
}

func (x *telling) name() string {
	labels, at := x.nameFrom(x.at)
	x.at = at
	return strings.Join(labels, ".")
}

func (x *telling) message() api.Message {
	m := api.Message{Id: x.number(2), Reply: map[int]bool{0: false, 128: true}[int(x.b[2])]}
	if mark := x.number(1); mark != 0 && mark != 128 {
		panic("no mark")
	}
	m.Code = x.number(1)
	asked, got := x.number(1), x.number(1)
	for range asked {
		s := x.name()
		m.Asked = append(m.Asked, asks(s, x.number(1)))
	}
	for range got {
		s := x.name()
		r := api.Record{Name: s, Kind: x.number(1), Life: x.number(4)}
		switch r.Kind {
		case api.RecordA:
			r.Addr.Lo = uint64(x.number(4))
		case api.RecordAAAA:
			r.Addr = api.Addr{Six: true, Hi: uint64(x.number(8)), Lo: uint64(x.number(8))}
		case api.RecordWords:
			r.Words = string(x.next(x.number(1)))
		case api.RecordAlias, api.RecordBack:
			r.To = x.name()
		default:
			panic("no kind")
		}
		m.Got = append(m.Got, r)
	}
	if x.at < len(x.b) {
		panic("more bytes")
	}
	return m
}

// told is a second telling of Decode.
func told(b []byte) (m api.Message, e api.Errno) {
	defer func() {
		if recover() != nil {
			m, e = api.Message{}, api.ErrSyntax
		}
	}()
	x := telling{b: slices.Clip(b)}
	m = x.message()
	if _, wrong := name.Encode(m); wrong != api.OK || !bytes.Equal(written(m), b) {
		return api.Message{}, api.ErrForm
	}
	return m, api.OK
}

// mangled are bytes with some of them changed, taken out or put in.
func (r chance) mangled(b []byte) []byte {
	for range 1 + r.Intn(2) {
		i := r.Intn(len(b))
		x := pick(r, []byte{0, 1, 2, 5, 28, 63, 64, 128, 191, 192, 255, 'a', byte(6 + r.Intn(len(b))), byte(r.Intn(256))})
		switch r.Intn(8) {
		case 0:
			b = slices.Delete(b, i, i+1)
		case 1:
			b = slices.Insert(b, i, x)
		case 2:
			b = append(b[:i], 192, x)
		default:
			b[i] = x
		}
	}
	return b
}

// P6.9
func TestMessagesAgain(t *testing.T) {
	r := newChance(10)
	count := map[api.Errno]int{}
	for range 4_000 {
		m := r.message()
		b := written(m)
		is(t, fmt.Sprint(m), all(name.Encode(m)), all(b, api.OK))
		is(t, fmt.Sprint(b), all(name.Decode(b)), all(m, api.OK))
		for range 5 {
			c := r.mangled(slices.Clone(b))
			want, e := told(c)
			is(t, fmt.Sprint(c), all(name.Decode(c)), all(want, e))
			count[e]++
		}
	}
	if count[api.OK] < 300 || count[api.ErrForm] < 300 || count[api.ErrSyntax] < 300 {
		t.Errorf("%v", count)
	}
}

// P6.9, Z1: references that lead from one to the next make very long names of few bytes, which are read but not kept.
func TestManyReferences(t *testing.T) {
	// From wherever one begins among bytes of 63, each label ends behind 64 bytes, up to a label of references, each one of which leads two bytes further back.
	const rows = 40
	b := slices.Concat([]byte{0, 0, 0, 0, 255, 0}, bytes.Repeat([]byte{63}, 64*rows+1))
	for i := range 31 {
		b = append(b, 192, byte(max(6, 5+2*i)))
	}
	b = append(b, '-', 0, 1)
	for range 254 {
		b = append(b, 192, 67, 1)
	}
	_, e := told(b)
	is(t, "it has the form", e, api.ErrForm)
	is(t, "Decode", all(name.Decode(b)), all(api.Message{}, api.ErrForm))
	is(t, "with more", all(name.Decode(append(b, 0))), all(api.Message{}, api.ErrSyntax))
}
