package posture_test

import (
	"fmt"
	"strings"
	"testing"

	"holloway/api"
	"holloway/posture"
)

// P7.7, Z10
func TestText(t *testing.T) {
	l := claims("0 n a yes; 0 n b no; 5 n a 0; 5 n b -7; 5 n c 100000000; 6 n a ''; 6 n b 'x'; 7 n true 0.0.0.0; 7 n v1 1.12.0.1000000; " + last + " n-_0 a 'x'")
	l[6].Value.Words = ` \a" "  x `
	want := strings.Join([]string{"0 n a true", "0 n b false", "5 n a 0", "5 n b -7", "5 n c 100000000", `6 n a ""`, `6 n b " \\a\" \"  x "`, "7 n true v0.0.0.0", "7 n v1 v1.12.0.1000000", last + ` n-_0 a "x"`, ""}, "\n")
	is(t, "Text", all(posture.Text(l)), all(want, api.OK))
	is(t, "Read", all(posture.Read(want)), all(l, 0, api.OK))
	is(t, "none", all(posture.Text(nil)), all("", api.OK))
	is(t, "none", all(posture.Read("")), all([]api.Claim{}, 0, api.OK))
	r := newChance(11)
	for range 300 {
		l := r.claims()
		s, e := posture.Text(l)
		is(t, "Text", e, api.OK)
		is(t, s, all(posture.Read(s)), all(l, 0, api.OK))
	}
}

// P7.7, Z4
func TestErrorsOfText(t *testing.T) {
	long := func(n, more int) []api.Claim {
		l := repeat(n, func(i int) api.Claim {
			return api.Claim{At: 10_000 + i, Node: strings.Repeat("n", 40), Name: strings.Repeat("a", 10), Value: api.Attr{Kind: api.AttrWords, Words: strings.Repeat("x", 39)}}
		})
		l[0].Value.Words += strings.Repeat("x", more)
		return l
	}
	// Each line has 100 bytes.
	s, e := posture.Text(long(2_000, 0))
	is(t, "full", all(len(s), e), all(api.MaxText, api.OK))
	is(t, "full", all(posture.Read(s)), all(long(2_000, 0), 0, api.OK))
	is(t, "too long", all(posture.Text(long(2_000, 1))), all("", api.ErrLarge))
	is(t, "too long", all(posture.Read("1"+s)), all([]api.Claim{}, 0, api.ErrLarge))
	is(t, "too long and wrong", all(posture.Read("\n"+s)), all([]api.Claim{}, 0, api.ErrLarge))
	is(t, "wrong, ahead of too long", all(posture.Text(append(long(1_999, 99), api.Claim{}))), all("", api.ErrForm))
	is(t, "too many", all(posture.Text(many(api.MaxClaims+1))), all("", api.ErrLarge))
	ladder(t, "Text", step{api.ErrOrder, func(in *input) { in.claims = nil }})
	ladder(t, "CheckClaims", step{api.ErrOrder, func(in *input) { in.claims = nil }})
}

// P7.7, Z10
func TestRead(t *testing.T) {
	for _, s := range []string{
		"", " ", "5", "5 n", "5 n a", "5 n a ", "5 n a  true", " 5 n a true", "5  n a true", "5 n  a true", "5 n a true ", "5  a true", "5 n  true", " n a true",
		"05 n a true", "-0 n a true", "+5 n a true", "1234567890 n a true", "-1234567890 n a true", "x n a true", "5.0 n a true", "5\tn a true",
		"5 n a True", "5 n a yes", "5 n a a", "5 n a", "5 n a == 5", "5 n a (5)", "5 n a !", "5 n a true true", "5 n a true\r",
		"5 n a 05", "5 n a -0", "5 n a - 5", "5 n a +5", "5 n a 1234567890", "5 n a -1234567890", "5 n a 5 5", "5 n a 5x", "5 n a 5.0",
		"5 n a v1", "5 n a v1.2", "5 n a v1.2.3", "5 n a v1.2.3.4.5", "5 n a v01.2.3.4", "5 n a v1.2.3.04", "5 n a v1.2.3.", "5 n a v1.2.3.1234567890", "5 n a 1.2.3.4", "5 n a v1.2.3.4x", "5 n a V1.2.3.4", "5 n a v1.2.3.-4",
		`5 n a "`, `5 n a "x`, `5 n a x"`, `5 n a "x""`, `5 n a "x"y"`, `5 n a "x" "y"`, `5 n a "\"`, `5 n a "\x"`, `5 n a 'x'`, "5 n a \"\t\"", "5 n a \"é\"", "5 n a \"\x7f\"", `5 n a "x"5`,
	} {
		is(t, s, all(posture.Read(s+"\n")), all([]api.Claim{}, 0, api.ErrSyntax))
		is(t, s, all(posture.Read("1 n a true\n2 n a 5\n"+s+"\n0 n a true\n\n")), all([]api.Claim{}, 2, api.ErrSyntax))
	}
	for s, want := range map[string]int{"5 n a true": 0, "5 n a true\n6 n a true": 1, "5 n a true\n6 n a true\n\n": 2, "\n": 0, "5 n a true\n6 n a tru\n7 n a tru\n": 1, "5 n a true\n6 n a \"x\ny\"\n": 1} {
		is(t, s, all(posture.Read(s)), all([]api.Claim{}, want, api.ErrSyntax))
	}
	// What has the form of claims, and is not right.
	for s, want := range map[string]api.Errno{
		"-5 n a true\n": api.ErrArg, last + " n a true\n": api.OK, fmt.Sprint(api.End) + " n a true\n": api.ErrArg, "999999999 n a true\n": api.ErrArg, "-999999999 n a true\n": api.ErrArg,
		"5 N a true\n": api.ErrName, "5 n A true\n": api.ErrName, "5 n\t a true\n": api.ErrName, "5 \" a true\n": api.ErrName, "5 " + tooLong + " a true\n": api.ErrName, "5 n true true\n": api.OK,
		"5 n a 100000001\n": api.ErrArg, "5 n a -999999999\n": api.ErrArg, "5 n a v1.2.3.1000001\n": api.ErrArg, "5 n a v999999999.0.0.0\n": api.ErrArg,
		`5 n a "` + strings.Repeat("x", 100) + "\"\n": api.OK, `5 n a "` + strings.Repeat("x", 101) + "\"\n": api.ErrForm, `5 n a "` + strings.Repeat(`\"`, 100) + "\"\n": api.OK,
		"5 n b true\n5 n a true\n": api.ErrOrder, "5 n a true\n5 n a true\n": api.ErrOrder, "5 n a true\n4 N a true\n": api.ErrName, "-5 N a 100000001\n": api.ErrArg, "5 n a 100000001\n6 n a\n": api.ErrSyntax,
		strings.Repeat("5 n a true\n", api.MaxClaims+1): api.ErrLarge,
	} {
		l, n, e := posture.Read(s)
		if e != want || e == api.OK && len(l) != 1 || e != api.OK && len(l) > 0 || e != api.ErrSyntax && n != 0 {
			t.Errorf("%.60q: %v, %d, %v, want %v", s, l, n, e, want)
		}
	}
}

// P7.7, Z10: what is read is written as it was, and nothing else is read.
func TestReadOfMany(t *testing.T) {
	r := newChance(12)
	count := [2]int{}
	for range 20_000 {
		one := api.Claim{At: r.Intn(20), Node: "n", Name: pick(r, someNames), Value: r.attr()}
		s, _ := posture.Text([]api.Claim{one})
		b := []byte(s)
		for range r.Intn(3) {
			i := r.Intn(len(b))
			b[i] = pick(r, []byte(`0159-v."\ tn a=`+"\n"))
		}
		s = string(b)
		l, _, e := posture.Read(s)
		if e != api.OK {
			count[1]++
			continue
		}
		count[0]++
		is(t, s, all(posture.Text(l)), all(s, api.OK))
	}
	if min(count[0], count[1]) < 1_000 {
		t.Error(count)
	}
}
