package route_test

import (
	"strings"
	"testing"

	"holloway/api"
	"holloway/route"
)

// P5.9, Z10
func TestText(t *testing.T) {
	for _, c := range []struct{ r, want string }{
		{"", ""},
		{"10.0.0.0/8 ra 5", "10.0.0.0/8 ra 5"},
		{"0.0.0.0/0 a-b_9 0; 10.0.0.0/8 ra 1000; 10.0.0.0/8 rb 10; 2001:db8::/32 ra 7", "0.0.0.0/0 a-b_9 0; 10.0.0.0/8 ra 1000; 10.0.0.0/8 rb 10; 2001:db8::/32 ra 7"},
	} {
		r, want := routers(c.r), lines(c.want)
		is(t, c.r, all(route.Text(r)), all(want, api.OK))
		is(t, c.r, all(route.Read(want)), all(r, 0, api.OK))
	}
	is(t, "wrong", all(route.Text(routers("::/0 a 1; ::/0 a 1"))), all("", api.ErrOrder))
	ladder(t, "Text", callOf("Text"), step{api.ErrLarge, func(in *input) { in.routers = nil }})
	// The longest text that there is fits.
	full := repeat(api.MaxRouters, func(i int) api.Router {
		return api.Router{Prefix: net("1111:1111:1111:1111:1111:1111:1111:1111/128"), Node: strings.Repeat("a", 36) + key(i)[1:], Weight: 1_000}
	})
	s, e := route.Text(full)
	is(t, "full", all(len(s), e), all(api.MaxRouters*90, api.OK))
	is(t, "full", all(route.Read(s)), all(full, 0, api.OK))
}

// P5.9, Z4, Z10
func TestRead(t *testing.T) {
	const good = "10.0.0.0/8 ra 5\n"
	for _, bad := range []string{
		"\n", " \n", "  \n", "10.0.0.0/8\n", "10.0.0.0/8 ra\n", "10.0.0.0/8 ra \n", "10.0.0.0/8  5\n", " ra 5\n", "10.0.0.0/8 ra 5 \n", " 10.0.0.0/8 ra 5\n", "10.0.0.0/8  ra 5\n", "10.0.0.0/8 ra  5\n", "10.0.0.0/8 ra 5 6\n",
		"10.0.0.1/8 ra 5\n", "10.0.0.0 ra 5\n", "10.0.0.0/33 ra 5\n", "10.0.0.0/08 ra 5\n", "10.0.0/8 ra 5\n", "::0/0 ra 5\n", "/8 ra 5\n", "x ra 5\n",
		"10.0.0.0/8 ra 05\n", "10.0.0.0/8 ra -0\n", "10.0.0.0/8 ra +5\n", "10.0.0.0/8 ra x\n", "10.0.0.0/8 ra 5x\n", "10.0.0.0/8 ra 1000000000\n", "10.0.0.0/8 ra -\n", "10.0.0.0/8 ra 5\r\n", "10.0.0.0/8\tra 5\n",
		"10.0.0.0/8 ra 5", "10.0.0.0/8 ra", "x",
	} {
		is(t, bad, all(route.Read(bad)), all([]api.Router{}, 0, api.ErrSyntax))
		is(t, "behind others: "+bad, all(route.Read(good+good+bad)), all([]api.Router{}, 2, api.ErrSyntax))
		if strings.HasSuffix(bad, "\n") {
			is(t, "ahead of others: "+bad, all(route.Read(good+bad+good+bad)), all([]api.Router{}, 1, api.ErrSyntax))
		}
	}
	for _, c := range []struct {
		text string
		e    api.Errno
	}{
		// What has the form, but is not right.
		{"10.0.0.0/8 ra 1001\n", api.ErrArg},
		{"10.0.0.0/8 ra 999999999\n", api.ErrArg},
		{"10.0.0.0/8 ra -1\n", api.ErrArg},
		{"10.0.0.0/8 ra -999999999\n", api.ErrArg},
		{"10.0.0.0/8 RA 5\n", api.ErrName},
		{"10.0.0.0/8 - 5\n", api.ErrName},
		{"10.0.0.0/8 \x00 5\n", api.ErrName},
		{good + good, api.ErrOrder},
		{strings.Repeat(good, api.MaxRouters+1), api.ErrLarge},
		{strings.Repeat(" ", api.MaxText+1), api.ErrLarge},
		{good + strings.Repeat("x", api.MaxText), api.ErrLarge},
	} {
		is(t, c.text[:min(len(c.text), 40)], all(route.Read(c.text)), all([]api.Router{}, 0, c.e))
	}
	is(t, "no text", all(route.Read("")), all([]api.Router{}, 0, api.OK))
	long := strings.Repeat(" ", api.MaxText)
	is(t, "long", all(route.Read(long)), all([]api.Router{}, 0, api.ErrSyntax))
}

// P5.9, Z10: what is written is read to an equal value, and nothing else is read.
func TestWritersAndReaders(t *testing.T) {
	r := newChance(6)
	signs := []byte("0123456789abnr:./ \n-")
	read, other := 0, 0
	for range 5_000 {
		l := r.routers()
		l = l[:min(len(l), 3)]
		s, e := route.Text(l)
		is(t, "Text", e, api.OK)
		is(t, "Read", all(route.Read(s)), all(l, 0, api.OK))
		b := []byte(s)
		for len(b) > 0 && r.Intn(3) > 0 {
			b[r.Intn(len(b))] = pick(r, signs)
		}
		if x, _, e := route.Read(string(b)); e == api.OK {
			is(t, "Text", all(route.Text(x)), all(string(b), api.OK))
			read++
		} else {
			other++
		}
	}
	if read < 1_000 || other < 1_000 {
		t.Errorf("%d are read, %d are not", read, other)
	}
}
