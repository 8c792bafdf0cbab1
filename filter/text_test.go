package filter_test

import (
	"fmt"
	"strings"
	"testing"

	"holloway/api"
	"holloway/filter"
)

const example = `6 100.64.0.1/32,100.64.0.2/32 100.64.0.9/32 80,443
any 0.0.0.0/0,::/0 10.0.0.0/8,fd00::/8 0-65535
17 10.0.0.0/8 ::1/128 0,2-3,65535
1 10.0.0.0/8 10.0.0.0/8 0-65535
255 10.0.0.0/8 10.0.0.0/8 0-65535
any 10.0.0.0/8 10.0.0.0/8 7
`

func exampleRows() []api.Filter {
	eight := nets("10.0.0.0/8")
	return []api.Filter{
		{Proto: 6, Src: nets("100.64.0.1/32 100.64.0.2/32"), Dst: nets("100.64.0.9/32"), Ports: []api.Ports{{From: 80, To: 80}, {From: 443, To: 443}}},
		{Src: nets("0.0.0.0/0 ::/0"), Dst: nets("10.0.0.0/8 fd00::/8"), Ports: allPorts},
		{Proto: 17, Src: eight, Dst: nets("::1/128"), Ports: []api.Ports{{}, {From: 2, To: 3}, {From: 65_535, To: 65_535}}},
		{Proto: 1, Src: eight, Dst: eight, Ports: allPorts},
		{Proto: 255, Src: eight, Dst: eight, Ports: allPorts},
		{Src: eight, Dst: eight, Ports: ports(7, 7)},
	}
}

// P4.4
func TestText(t *testing.T) {
	is(t, "Text", all(filter.Text(exampleRows())), all(example, api.OK))
	is(t, "Read", all(filter.Read(example)), all(exampleRows(), 0, api.OK))
	is(t, "Text", all(filter.Text(nil)), all("", api.OK))
	is(t, "Read", all(filter.Read("")), all([]api.Filter{}, 0, api.OK))
}

// P4.4
func TestReadOfOtherLines(t *testing.T) {
	for _, line := range strings.Split(`
|6
|6 10.0.0.0/8
|6 10.0.0.0/8 10.0.0.0/8
|6 10.0.0.0/8 10.0.0.0/8 80 80
| 6 10.0.0.0/8 10.0.0.0/8 80
|6 10.0.0.0/8 10.0.0.0/8 80 
|6  10.0.0.0/8 10.0.0.0/8 80
|6  10.0.0.0/8 80
|6 10.0.0.0/8  80
|6 10.0.0.0/8 10.0.0.0/8 
|6	10.0.0.0/8 10.0.0.0/8 80
|0 10.0.0.0/8 10.0.0.0/8 80
|all 10.0.0.0/8 10.0.0.0/8 80
|Any 10.0.0.0/8 10.0.0.0/8 80
|06 10.0.0.0/8 10.0.0.0/8 80
|-6 10.0.0.0/8 10.0.0.0/8 80
|-0 10.0.0.0/8 10.0.0.0/8 80
|+6 10.0.0.0/8 10.0.0.0/8 80
|6,17 10.0.0.0/8 10.0.0.0/8 80
|1000000000 10.0.0.0/8 10.0.0.0/8 80
|6 10.0.0.0 10.0.0.0/8 80
|6 10.0.0.0/8, 10.0.0.0/8 80
|6 ,10.0.0.0/8 10.0.0.0/8 80
|6 10.0.0.0/8,,11.0.0.0/8 10.0.0.0/8 80
|6 10.0.0.0/8;11.0.0.0/8 10.0.0.0/8 80
|6 10.0.0.1/8 10.0.0.0/8 80
|6 10.0.0.0/33 10.0.0.0/8 80
|6 10.0.0.0/08 10.0.0.0/8 80
|6 * 10.0.0.0/8 80
|6 10.0.0.0/8 10.0.0.0 80
|6 10.0.0.0/8 fd00::0/8 80
|6 10.0.0.0/8 10.0.0.0/8,x 80
|6 10.0.0.0/8 10.0.0.0/8 any
|6 10.0.0.0/8 10.0.0.0/8 *
|6 10.0.0.0/8 10.0.0.0/8 080
|6 10.0.0.0/8 10.0.0.0/8 -80
|6 10.0.0.0/8 10.0.0.0/8 80-
|6 10.0.0.0/8 10.0.0.0/8 -
|6 10.0.0.0/8 10.0.0.0/8 80-80
|6 10.0.0.0/8 10.0.0.0/8 80-090
|6 10.0.0.0/8 10.0.0.0/8 80--90
|6 10.0.0.0/8 10.0.0.0/8 80-90-99
|6 10.0.0.0/8 10.0.0.0/8 80,
|6 10.0.0.0/8 10.0.0.0/8 ,80
|6 10.0.0.0/8 10.0.0.0/8 80,x
|6 10.0.0.0/8 10.0.0.0/8 1000000000
|6 10.0.0.0/8 10.0.0.0/8 1-1000000000`, "\n|") {
		line = strings.TrimPrefix(line, "\n")
		is(t, line, all(filter.Read(line+"\n")), all([]api.Filter{}, 0, api.ErrSyntax))
		is(t, line+" behind others", all(filter.Read(example+line+"\n"+line+"\n")), all([]api.Filter{}, 6, api.ErrSyntax))
	}
	is(t, "not ended", all(filter.Read(strings.TrimSuffix(example, "\n"))), all([]api.Filter{}, 5, api.ErrSyntax))
	is(t, "CR", all(filter.Read(strings.ReplaceAll(example, "\n", "\r\n"))), all([]api.Filter{}, 0, api.ErrSyntax))
}

// P4.4: what has the form, but is not right, has the error of Check, without a line; ErrSyntax of any line is ahead of it.
func TestReadOfWrongRows(t *testing.T) {
	for _, c := range []struct {
		line string
		e    api.Errno
	}{
		{"256 10.0.0.0/8 10.0.0.0/8 80", api.ErrArg},
		{"999999999 10.0.0.0/8 10.0.0.0/8 80", api.ErrArg},
		{"6 11.0.0.0/8,10.0.0.0/8 10.0.0.0/8 80", api.ErrOrder},
		{"6 10.0.0.0/8,11.0.0.0/8 10.0.0.0/8 80", api.ErrRule},
		{"6 10.0.0.0/8 10.0.0.0/8,10.0.0.0/8 80", api.ErrOrder},
		{"6 10.0.0.0/8 10.0.0.0/8 65536", api.ErrArg},
		{"6 10.0.0.0/8 10.0.0.0/8 999999999", api.ErrArg},
		{"6 10.0.0.0/8 10.0.0.0/8 90-80", api.ErrArg},
		{"6 10.0.0.0/8 10.0.0.0/8 80,80", api.ErrOrder},
		{"6 10.0.0.0/8 10.0.0.0/8 80,81", api.ErrRule},
		{"1 10.0.0.0/8 10.0.0.0/8 80", api.ErrRule},
	} {
		is(t, c.line, all(filter.Read(example+c.line+"\n")), all([]api.Filter{}, 0, c.e))
		is(t, c.line, all(filter.Read(c.line+"\nx\n")), all([]api.Filter{}, 1, api.ErrSyntax))
	}
	line := "6 10.0.0.0/8 10.0.0.0/8 80\n"
	l, n, e := filter.Read(strings.Repeat(line, api.MaxFilters))
	is(t, "full", all(len(l), n, e), all(api.MaxFilters, 0, api.OK))
	is(t, "many", all(filter.Read(strings.Repeat(line, api.MaxFilters+1))), all([]api.Filter{}, 0, api.ErrLarge))
}

// sized are 30 rows whose Text has 199,980 bytes, and some more.
func sized(more int) []api.Filter {
	src := repeat(350, func(i int) api.Prefix { return net(fmt.Sprintf("200.100.%d.%d/32", 100+i/70, 100+i%70*2)) })
	return repeat(30, func(i int) api.Filter {
		f := api.Filter{Proto: 6, Src: src, Dst: nets("10.0.0.0/8"), Ports: ports(80, 80)}
		if i < more {
			f.Proto = 17
		}
		return f
	})
}

// P4.4
func TestLongTexts(t *testing.T) {
	text, e := filter.Text(sized(20))
	is(t, "Text", all(len(text), e), all(api.MaxText, api.OK))
	is(t, "Read", all(filter.Read(text)), all(sized(20), 0, api.OK))
	is(t, "Text", all(filter.Text(sized(21))), all("", api.ErrLarge))
	is(t, "Text", all(filter.Text(fullRows())), all("", api.ErrLarge))
	is(t, "Read", all(filter.Read("x\n"+text)), all([]api.Filter{}, 0, api.ErrLarge))
	is(t, "Read", all(filter.Read(text[:api.MaxText-1]+"x")), all([]api.Filter{}, 29, api.ErrSyntax))
}

// P4.4, Z10: what is written is read to an equal value, and nothing else is read.
func TestWritersAndReaders(t *testing.T) {
	r := newChance(7)
	signs := []byte("0123456789abcdef:./,- any\n")
	read := 0
	for range 3_000 {
		l := r.rows(r.Intn(4))
		text, e := filter.Text(l)
		is(t, "Text", e, api.OK)
		is(t, text, all(filter.Read(text)), all(l, 0, api.OK))
		b := []byte(text)
		for range 10 {
			if len(b) == 0 {
				break
			}
			other := append([]byte{}, b...)
			other[r.Intn(len(b))] = pick(r, signs)
			if m, n, e := filter.Read(string(other)); e == api.OK {
				is(t, "Text", all(filter.Text(m)), all(string(other), api.OK))
				read++
			} else if e != api.ErrSyntax {
				is(t, "line", n, 0)
			}
		}
	}
	if read < 1_000 {
		t.Errorf("%d are read", read)
	}
}
