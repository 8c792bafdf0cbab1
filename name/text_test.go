package name_test

import (
	"fmt"
	"strings"
	"testing"

	"holloway/api"
	"holloway/name"
)

// P6.10
func TestText(t *testing.T) {
	for _, c := range []struct {
		z    api.Zone
		want string
	}{
		{zone("x", ""), "zone x"},
		{zone("_a.net.x", ""), "zone _a.net.x"},
		{zone("x", "*.x a 0 0.0.0.0; a.x a 1000000 255.0.0.1; a.x back 7 a.b; a.x words 7 a b  c; a.x aaaa 7 ::1; b.x alias 7 _c"),
			"zone x; *.x a 0 0.0.0.0; a.x a 1000000 255.0.0.1; a.x back 7 a.b; a.x words 7 a b c; a.x aaaa 7 ::1; b.x alias 7 _c"},
		{zone("x", "x words 7; x words 7 é"), "zone x; x words 7 ; x words 7 é"},
	} {
		text := lines(c.want)
		is(t, c.want, all(name.Text(c.z)), all(text, api.OK))
		is(t, c.want, all(name.Read(text)), all(c.z, 0, api.OK))
	}
	for _, z := range []api.Zone{{}, {Root: "x", Records: make([]api.Record, api.MaxRecords+1)}, zone("x", "x a -1 0.0.0.0"), zone("x", "x a 5 0.0.0.0; x a 6 0.0.0.0")} {
		is(t, "wrong", all(name.Text(z)), all("", name.CheckZone(z)))
	}
}

// P6.10: the limit of bytes.
func TestLongTexts(t *testing.T) {
	// With words of 200 bytes each line has 217 bytes.
	full := func(size int) api.Zone {
		z := api.Zone{Root: "x"}
		for i := range 922 {
			z.Records = append(z.Records, api.Record{Name: key(i) + ".x", Kind: api.RecordWords, Words: strings.Repeat("w", 200)})
		}
		z.Records[0].Words = z.Records[0].Words[:size-(7+922*217-200)]
		return z
	}
	z := full(api.MaxText)
	s, e := name.Text(z)
	is(t, "full", all(len(s), e), all(api.MaxText, api.OK))
	is(t, "full", all(name.Read(s)), all(z, 0, api.OK))
	z = full(api.MaxText + 1)
	is(t, "the zone", name.CheckZone(z), api.OK)
	is(t, "too long", all(name.Text(z)), all("", api.ErrLarge))
	is(t, "too long", all(name.Read(s+"\n")), all(api.Zone{}, 0, api.ErrLarge))
	is(t, "too long", all(name.Read(strings.Repeat("\n", api.MaxText+1))), all(api.Zone{}, 0, api.ErrLarge))
	is(t, "long", all(name.Read(strings.Repeat(" ", api.MaxText))), all(api.Zone{}, 0, api.ErrSyntax))
}

// P6.10, Z4, Z9, Z10
func TestRead(t *testing.T) {
	for _, bad := range []string{
		"", "\n", " \n", "zone\n", "zone \n", "zone", "zone x", "zone  x\n", "zone x \n", " zone x\n", "zone x y\n", "Zone x\n", "zones x\n", "zone\tx\n", "x\n", "x a 5 0.0.0.0\n", "zon\n",
	} {
		is(t, fmt.Sprintf("%q", bad), all(name.Read(bad)), all(api.Zone{}, 0, api.ErrSyntax))
		if strings.HasSuffix(bad, "\n") {
			is(t, fmt.Sprintf("%q and more", bad), all(name.Read(bad+"x a 5 0.0.0.0\n")), all(api.Zone{}, 0, api.ErrSyntax))
		}
	}
	const good = "x a 5 0.0.0.0\n"
	for _, bad := range []string{
		"\n", " \n", "x\n", "x a\n", "x a 5\n", "x a 5 \n", "x a 5 0.0.0.0 \n", " x a 5 0.0.0.0\n", "x  a 5 0.0.0.0\n", "x a  5 0.0.0.0\n", "x a 5  0.0.0.0\n", " a 5 0.0.0.0\n", "x 5 0.0.0.0\n", "x a 0.0.0.0\n", "x a 5 0.0.0.0", "x a 5 0.0.0.0 x\n",
		"x A 5 0.0.0.0\n", "x aa 5 0.0.0.0\n", "x  5 0.0.0.0\n", "x zone 5 a\n", "x txt 5 a\n", "x 1 5 0.0.0.0\n", "zone x\n",
		"x a 05 0.0.0.0\n", "x a -0 0.0.0.0\n", "x a +5 0.0.0.0\n", "x a 5x 0.0.0.0\n", "x a - 0.0.0.0\n", "x a 1000000000 0.0.0.0\n", "x a -1000000000 0.0.0.0\n", "x a 5.0 0.0.0.0\n",
		"x a 5 0.0.0\n", "x a 5 0.0.0.256\n", "x a 5 0.0.0.00\n", "x a 5 a\n", "x aaaa 5 0::0\n", "x aaaa 5 ::A\n", "x aaaa 5 1\n", "x aaaa 5 \n",
		"x alias 5 \n", "x alias 5\n", "x alias 5 a b\n", "x alias 5 a \n", "x alias 5  a\n", "x back 5 \n", "x back 5 a b\n", "x words 5\n", "x words\n", "x words 5", "x words 5 a",
	} {
		is(t, fmt.Sprintf("%q", bad), all(name.Read("zone x\n"+bad)), all(api.Zone{}, 1, api.ErrSyntax))
		is(t, fmt.Sprintf("%q behind others", bad), all(name.Read("zone x\n"+good+good+bad)), all(api.Zone{}, 3, api.ErrSyntax))
		if strings.HasSuffix(bad, "\n") {
			is(t, fmt.Sprintf("%q ahead of others", bad), all(name.Read("zone x\n"+good+bad+good+bad+"x")), all(api.Zone{}, 2, api.ErrSyntax))
		}
	}
	for _, c := range []struct {
		text string
		e    api.Errno
	}{
		// What has the form, but is not right.
		{"zone X\n", api.ErrName},
		{"zone *.x\n", api.ErrName},
		{"zone x\r\n", api.ErrName},
		{"zone \x00\n", api.ErrName},
		{"zone " + tooLong + "\n", api.ErrLarge},
		{"zone x\ny a 5 0.0.0.0\n", api.ErrRule},
		{"zone x\nX a 5 0.0.0.0\n", api.ErrName},
		{"zone x\n*x a 5 0.0.0.0\n", api.ErrName},
		{"zone x\nx a 1000001 0.0.0.0\n", api.ErrArg},
		{"zone x\nx a 999999999 0.0.0.0\n", api.ErrArg},
		{"zone x\nx a -999999999 0.0.0.0\n", api.ErrArg},
		{"zone x\nx a 5 ::\n", api.ErrForm},
		{"zone x\nx aaaa 5 0.0.0.0\n", api.ErrForm},
		{"zone x\nx alias 5 A\n", api.ErrName},
		{"zone x\nx back 5 .\n", api.ErrName},
		{"zone x\nx words 5  a\n", api.ErrForm},
		{"zone x\nx words 5 a \n", api.ErrForm},
		{"zone x\nx words 5  \n", api.ErrForm},
		{"zone x\nx words 5 a  b\n", api.ErrForm},
		{"zone x\nx words 5 a\r\n", api.ErrForm},
		{"zone x\nx words 5 \xff\n", api.ErrForm},
		{"zone x\nx words 5 " + strings.Repeat("w", 201) + "\n", api.ErrForm},
		{"zone x\n" + good + good, api.ErrTwice},
		{"zone x\nx a 5 0.0.0.1\n" + good, api.ErrOrder},
		{"zone x\nx a 5 0.0.0.1\nx alias 5 a\n", api.ErrConflict},
		{"zone x\n" + strings.Repeat(good, api.MaxRecords+1), api.ErrLarge},
	} {
		is(t, fmt.Sprintf("%.40q", c.text), all(name.Read(c.text)), all(api.Zone{}, 0, c.e))
	}
}

// P6.10, Z10: what is written is read to an equal value, and nothing else is read.
func TestWritersAndReaders(t *testing.T) {
	r := newChance(11)
	signs := []byte("0123456789abxs*.: \n-")
	read, other := 0, 0
	for range 5_000 {
		z := r.zone(pick(r, words("x a.x")))
		z.Records = z.Records[:min(len(z.Records), 2)]
		s, e := name.Text(z)
		is(t, "Text", e, api.OK)
		is(t, "Read", all(name.Read(s)), all(z, 0, api.OK))
		b := []byte(s)
		for r.Intn(3) > 0 {
			b[r.Intn(len(b))] = pick(r, signs)
		}
		if x, _, e := name.Read(string(b)); e == api.OK {
			is(t, "Text", all(name.Text(x)), all(string(b), api.OK))
			read++
		} else {
			other++
		}
	}
	if read < 1_000 || other < 1_000 {
		t.Errorf("%d are read, %d are not", read, other)
	}
}
