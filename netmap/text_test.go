package netmap_test

import (
	"fmt"
	"hash/fnv"
	"regexp"
	"slices"
	"strings"
	"testing"

	"holloway/addr"
	"holloway/api"
	"holloway/filter"
	"holloway/netmap"
)

// example is a map, and its text.
const example = `self m mac -
tag db
tag web
addr 10.0.0.1
addr fd00::1
route 10.0.0.0/8
route ::/0
peer a pad
peer b box
addr fd00::2
addr 10.0.0.2
route 10.1.0.0/16
route fd00::/8
peer c pad
route 10.0.0.0/32
suffix corp.net
filter 6 10.0.0.0/8,fd00::/8 10.0.0.1/32 80,443-444
filter any 10.0.0.0/8 10.0.0.1/32 0-65535
`

func exampleMap() api.Map {
	return told("m mac #db,web 10.0.0.1 fd00::1 10.0.0.0/8 ::/0", "a pad; b box fd00::2 10.0.0.2 10.1.0.0/16 fd00::/8; c pad 10.0.0.0/32", "6 10.0.0.0/8,fd00::/8 10.0.0.1/32 80,443-444; any 10.0.0.0/8 10.0.0.1/32 0-65535")
}

// P8.4
func TestText(t *testing.T) {
	is(t, "Text", all(netmap.Text(exampleMap())), all(example, api.OK))
	is(t, "Read", all(netmap.Read(example)), all(exampleMap(), 0, api.OK))
	little := api.Map{Self: node("a b ann"), Suffix: "x"}
	is(t, "Text", all(netmap.Text(little)), all("self a b ann\nsuffix x\n", api.OK))
	is(t, "Read", all(netmap.Read("self a b ann\nsuffix x\n")), all(little, 0, api.OK))
}

// P8.4: the errors of Read, and the numbers of lines
func TestReadErrors(t *testing.T) {
	for _, c := range []struct {
		text string
		n    int
		e    api.Errno
	}{
		{"", 0, api.ErrSyntax},
		{"\n", 0, api.ErrSyntax},
		{"self a b ann", 0, api.ErrSyntax},
		// There is no line of suffix.
		{"self a b ann\n", 1, api.ErrSyntax},
		{"self a b ann\naddr ::\npeer c d\n", 3, api.ErrSyntax},
		{"self a b ann\naddr ::\npeer c d", 2, api.ErrSyntax},
		{"self A b ann\n", 1, api.ErrSyntax},
		{"self a b ann\nsuffix x", 1, api.ErrSyntax},
		{"self a b ann\nsuffix x\nfilter any ::/0 ::/0 1", 2, api.ErrSyntax},
		// Lines stand where they cannot.
		{"suffix x\n", 0, api.ErrSyntax},
		{"peer a b\nsuffix x\n", 0, api.ErrSyntax},
		{"tag a\n", 0, api.ErrSyntax},
		{"addr ::\n", 0, api.ErrSyntax},
		{"route ::/0\n", 0, api.ErrSyntax},
		{"filter any ::/0 ::/0 1\n", 0, api.ErrSyntax},
		{"self a b ann\nself a b ann\nsuffix x\n", 1, api.ErrSyntax},
		{"self a b ann\nsuffix x\nself a b ann\n", 2, api.ErrSyntax},
		{"self a b ann\nsuffix x\nsuffix x\n", 2, api.ErrSyntax},
		{"self a b ann\nsuffix x\npeer c d\n", 2, api.ErrSyntax},
		{"self a b ann\nsuffix x\ntag d\n", 2, api.ErrSyntax},
		{"self a b ann\nsuffix x\naddr ::\n", 2, api.ErrSyntax},
		{"self a b ann\nsuffix x\nroute ::/0\n", 2, api.ErrSyntax},
		{"self a b ann\nfilter any ::/0 ::/0 1\nsuffix x\n", 1, api.ErrSyntax},
		{"self a b ann\nsuffix x\nfilter any ::/0 ::/0 1\nsuffix x\n", 3, api.ErrSyntax},
		{"self a b ann\nsuffix x\nfilter any ::/0 ::/0 1\npeer c d\n", 3, api.ErrSyntax},
		{"self a b ann\naddr ::\ntag d\nsuffix x\n", 2, api.ErrSyntax},
		{"self a b ann\nroute ::/0\ntag d\nsuffix x\n", 2, api.ErrSyntax},
		{"self a b ann\nroute ::/0\naddr ::\nsuffix x\n", 2, api.ErrSyntax},
		{"self a b ann\npeer c d\nroute ::/0\naddr ::\nsuffix x\n", 3, api.ErrSyntax},
		{"self a b ann\npeer c d\ntag e\nsuffix x\n", 2, api.ErrSyntax},
		{"self a b ann\npeer c d\naddr ::\ntag e\nsuffix x\n", 3, api.ErrSyntax},
		{"self a b ann\nsuffix x\n\n", 2, api.ErrSyntax},
		{"\nself a b ann\nsuffix x\n", 0, api.ErrSyntax},
		// The first one counts.
		{"self a b ann\npeer c\nfoo\n", 1, api.ErrSyntax},
		{"self a b ann\nsuffix x\nfilter any ::/0 ::/0 -\nfoo", 2, api.ErrSyntax},
		// Behind the forms of all lines come the errors of the map, in its order.
		{"self A b ann\nsuffix x\nfoo\n", 2, api.ErrSyntax},
		{"self a b -\nsuffix x\n", 0, api.ErrForm},
		{"self a b ann\ntag d\nsuffix x\n", 0, api.ErrForm},
		{"self a b --\nsuffix x\n", 0, api.ErrName},
		{"self a b -ann\nsuffix x\n", 0, api.ErrName},
		{"self a b Ann\nsuffix x\n", 0, api.ErrName},
		{"self a b ann\ntag D\nsuffix x\n", 0, api.ErrName},
		{"self a - ann\nsuffix x\n", 0, api.ErrName},
		{"self a b ann\npeer C d\nsuffix x\n", 0, api.ErrName},
		{"self a b ann\npeer c d\npeer c d\nsuffix x\n", 0, api.ErrOrder},
		{"self a b ann\npeer a d\nsuffix x\n", 0, api.ErrTwice},
		{"self a b ann\npeer c d\nroute ::/1\nroute ::/0\nsuffix x\n", 0, api.ErrOrder},
		{"self a b ann\naddr ::\naddr ::\nsuffix x\n", 0, api.ErrTwice},
		{"self a b ann\nsuffix x.\n", 0, api.ErrForm},
		{"self a b ann\nsuffix x\nfilter 256 ::/0 ::/0 1\n", 0, api.ErrArg},
		{"self a b ann\nsuffix x\nfilter any ::/1,::/0 ::/0 1\n", 0, api.ErrOrder},
		{"self a b ann\nsuffix x\n" + strings.Repeat("filter any ::/0 ::/0 1\n", api.MaxFilters+1), 0, api.ErrLarge},
		{"self a b -\npeer C d\nsuffix .\nfilter 256 ::/0 ::/0 1\n", 0, api.ErrForm},
		{"self a b ann\npeer C d\nsuffix .\nfilter 256 ::/0 ::/0 1\n", 0, api.ErrName},
		{"self a b ann\npeer c d\nsuffix .\nfilter 256 ::/0 ::/0 1\n", 0, api.ErrArg},
		{"self a b ann\npeer c d\nsuffix .\nfilter any ::/0 ::/0 1\n", 0, api.ErrForm},
		{"self a b ann\n" + strings.Join(repeat(api.MaxPeers+1, func(i int) string { return "peer " + key(i) + " d\n" }), "") + "suffix x\n", 0, api.ErrLarge},
	} {
		is(t, fmt.Sprintf("%.120q", c.text), all(netmap.Read(c.text)), all(api.Map{}, c.n, c.e))
	}
}

// P8.4: lines that have not the form of any
func TestReadOfOtherLines(t *testing.T) {
	right := strings.Split(strings.TrimSuffix(example, "\n"), "\n")
	for _, line := range strings.Split(`foo
Self m mac -
self
self m
self m mac
self m mac - x
self  mac -
self m  -
self m mac 
 self m mac -
self  m mac -
self m mac - 
selfm mac -
tag
tag 
tag a b
tag a 
tag  a
tags a
addr
addr 
addr 10.0.0.1 
addr 10.0.0.1 10.0.0.2
addr 10.0.0.01
addr 10.0.0.1/32
addr FD00::1
addr 0:0::1
addr x
route
route 
route ::/0 ::/0
route ::
route 10.0.0.1/8
route 10.0.0.0/08
route 10.0.0.0/33
route fd00::0/8
route x
peer
peer 
peer a
peer a 
peer  a
peer a b c
peer a b ann
peer a b 
suffix
suffix 
suffix a b
suffix a 
suffix  a
filter
filter 
filter 6 ::/0 ::/0
filter 6 ::/0 ::/0 80 80
filter 6 ::/0 ::/0 80 
filter  6 ::/0 ::/0 80
filter 6  ::/0 80
filter 0 ::/0 ::/0 80
filter 6 ::/0 ::/0 80,
filter 6 ::/0 ::/0 080
filter 6 ::/0 ::0/0 80
filter all ::/0 ::/0 80
6 ::/0 ::/0 80`, "\n") {
		for i := range right {
			text := slices.Concat(right[:i], []string{line}, right[i+1:])
			is(t, fmt.Sprintf("%q as line %d", line, i), all(netmap.Read(strings.Join(text, "\n")+"\n")), all(api.Map{}, i, api.ErrSyntax))
		}
	}
}

// long is a map with a text of 200,000 bytes and more by so many.
func long(more int) api.Map {
	m := told("m mac ann", "", "")
	for i := range api.MaxPeers {
		p := api.Peer{Key: key(i), Name: "a"}
		for k := range 14 {
			p.Routes = append(p.Routes, api.Prefix{Addr: api.Addr{Lo: 200<<24 + 200<<16 + 200<<8 + 200 + uint64(k)}, Bits: 32})
		}
		m.Peers = append(m.Peers, p)
	}
	text, _ := netmap.Text(m)
	for i := range m.Peers {
		free := api.MaxText + more - len(text)
		add := min(free, api.MaxName-1)
		m.Peers[i].Name += strings.Repeat("b", add)
		text += strings.Repeat("b", add)
	}
	return m
}

// P8.4: limits
func TestLongTexts(t *testing.T) {
	m := long(0)
	text, e := netmap.Text(m)
	is(t, "full", all(len(text), e), all(api.MaxText, api.OK))
	is(t, "full", all(netmap.Read(text)), all(m, 0, api.OK))
	sum, e := netmap.Digest(m)
	is(t, "full", all(sum == sumOf(text), e), all(true, api.OK))
	is(t, "Read", all(netmap.Read(text+"x")), all(api.Map{}, 0, api.ErrLarge))
	is(t, "Read", all(netmap.Read("x"+text)), all(api.Map{}, 0, api.ErrLarge))
	m = long(1)
	is(t, "CheckMap", netmap.CheckMap(m), api.OK)
	is(t, "Text", all(netmap.Text(m)), all("", api.ErrLarge))
	is(t, "Digest", all(netmap.Digest(m)), all("", api.ErrLarge))
	// The rows alone can be too long, too.
	set := repeat(api.MaxSet, func(i int) api.Prefix { return api.Prefix{Addr: api.Addr{Lo: 2 * uint64(i)}, Bits: 32} })
	m = told("m mac ann", "", "")
	m.Filters = repeat(20, func(i int) api.Filter {
		return api.Filter{Src: set, Dst: nets("::/0"), Ports: []api.Ports{{From: i, To: i}}}
	})
	is(t, "rows", all(netmap.Text(m)), all("", api.ErrLarge))
	is(t, "rows", all(netmap.Digest(m)), all("", api.ErrLarge))
}

// sumOf is what another library says of a text.
func sumOf(text string) string {
	h := fnv.New64a()
	h.Write([]byte(text))
	return fmt.Sprintf("%016x", h.Sum64())
}

// P8.4: 16 digits, also with zeros ahead
func TestDigest(t *testing.T) {
	is(t, "Digest", all(netmap.Digest(exampleMap())), all(sumOf(example), api.OK))
	short := 0
	for i := range 2_000 {
		m := told("m mac ann", "", "")
		m.Suffix = key(i)
		got, e := netmap.Digest(m)
		is(t, "Digest", all(got, e), all(sumOf("self m mac ann\nsuffix "+m.Suffix+"\n"), api.OK))
		if strings.HasPrefix(got, "00") {
			short++
		}
	}
	if short == 0 {
		t.Error("no zeros ahead")
	}
}

// letters are the kinds of lines, as letters, and their forms.
var letters = []struct {
	letter string
	form   *regexp.Regexp
}{
	{"s", regexp.MustCompile(`^self [^ ]+ [^ ]+ [^ ]+$`)},
	{"t", regexp.MustCompile(`^tag [^ ]+$`)},
	{"a", regexp.MustCompile(`^addr [^ ]+$`)},
	{"r", regexp.MustCompile(`^route [^ ]+$`)},
	{"p", regexp.MustCompile(`^peer [^ ]+ [^ ]+$`)},
	{"x", regexp.MustCompile(`^suffix [^ ]+$`)},
	{"f", regexp.MustCompile(`^filter [^ ]+ [^ ]+ [^ ]+ [^ ]+$`)},
}

var begun = regexp.MustCompile(`^(st*a*r*(pa*r*)*(xf*)?)?$`)

// letterOf is the letter of a line; `!` if it has no form.
func letterOf(line string) string {
	_, rest, _ := strings.Cut(line, " ")
	for _, l := range letters {
		if !l.form.MatchString(line) {
			continue
		}
		var e api.Errno
		switch l.letter {
		case "a":
			_, e = addr.Parse(rest)
		case "r":
			_, e = addr.ParsePrefix(rest)
		case "f":
			_, _, e = filter.Read(rest + "\n")
		}
		if e != api.ErrSyntax {
			return l.letter
		}
	}
	return "!"
}

// readOf is what Read says of a text that is not too long: the number of a line, and the error, if it is not the map's.
func readOf(text string) (int, api.Errno) {
	all, n := "", 0
	for line := range strings.Lines(text) {
		bare, ended := strings.CutSuffix(line, "\n")
		all += letterOf(bare)
		if !ended || !begun.MatchString(all) {
			return n, api.ErrSyntax
		}
		n++
	}
	if !strings.Contains(all, "x") {
		return n, api.ErrSyntax
	}
	return 0, api.OK
}

// change makes a text another one: lines go, come twice, or change their places, or a byte is another one.
func (r chance) change(text string) string {
	l := strings.SplitAfter(text, "\n")
	i, k := r.Intn(len(l)), r.Intn(len(l))
	switch r.Intn(6) {
	case 0:
		l = slices.Delete(l, i, i+1)
	case 1:
		l = slices.Insert(l, i, l[k])
	case 2:
		l[i], l[k] = l[k], l[i]
	case 3:
		l = l[:i]
	case 4:
		w := strings.Split(l[i], " ")
		w[r.Intn(len(w))] = pick(r, words("- A a 10.0.0.9 fd00::9 ::/9 self tag addr route peer suffix filter"))
		l[i] = strings.Join(w, " ")
	default:
		if b := []byte(text); len(b) > 0 {
			b[r.Intn(len(b))] = pick(r, []byte(" \n-,./:0a1Az\x00\xff"))
			return string(b)
		}
	}
	return strings.Join(l, "")
}

// P8.4: random texts, right and wrong; what is written is read, and nothing else.
func TestReadOfMany(t *testing.T) {
	r := newChance(6)
	count := map[api.Errno]int{}
	for range 10_000 {
		m := r.told()
		text, e := netmap.Text(m)
		is(t, "Text", e, api.OK)
		is(t, "Read", all(netmap.Read(text)), all(m, 0, api.OK))
		for range 1 + r.Intn(3) {
			text = r.change(text)
		}
		n, want := readOf(text)
		got, line, e := netmap.Read(text)
		if want == api.ErrSyntax || e == api.ErrSyntax {
			is(t, fmt.Sprintf("%q", text), all(line, e), all(n, want))
		} else if e == api.OK {
			is(t, fmt.Sprintf("%q", text), all(netmap.Text(got)), all(text, api.OK))
		}
		if e != api.OK {
			is(t, "Read", got, api.Map{})
		}
		count[e]++
	}
	for _, e := range []api.Errno{api.OK, api.ErrSyntax, api.ErrName, api.ErrForm, api.ErrTwice, api.ErrOrder} {
		if count[e] < 20 {
			t.Errorf("%d texts with %v", count[e], e)
		}
	}
}
