package posture_test

import (
	"fmt"
	"regexp"
	"slices"
	"strings"
	"testing"

	"holloway/api"
	"holloway/posture"
)

// P7.3, and the document's example.
func TestPrint(t *testing.T) {
	a, b, c := comparison("a == yes"), comparison("b < -5"), comparison("c != 'x'")
	for want, x := range map[string]api.Cond{
		"a == true":                              a,
		"a != false":                             comparison("a != no"),
		"b < -5":                                 b,
		"b >= 100000000":                         comparison("b >= 100000000"),
		"b <= 0":                                 comparison("b <= 0"),
		`c != "x"`:                               c,
		`c == ""`:                                comparison("c == ''"),
		`c == "\"\\\\n\""`:                       {Kind: api.CondIs, Name: "c", Op: "==", Value: api.Attr{Kind: api.AttrWords, Words: `"\\n"`}},
		`c > " !~ "`:                             {Kind: api.CondIs, Name: "c", Op: ">", Value: api.Attr{Kind: api.AttrWords, Words: " !~ "}},
		"d > v0.0.0.0":                           comparison("d > 0.0.0.0"),
		"d == v1.12.0.1000000":                   comparison("d == 1.12.0.1000000"),
		"!(a == true)":                           not(a),
		"!!(b < -5)":                             not(not(b)),
		"!(a == true && b < -5)":                 not(and(a, b)),
		"!!!(a == true || b < -5)":               not(not(not(or(a, b)))),
		"a == true && b < -5 && c != \"x\"":      and(a, b, c),
		"a == true || b < -5 || c != \"x\"":      or(a, b, c),
		"a == true && (b < -5 || c != \"x\")":    and(a, or(b, c)),
		"(a == true || b < -5) && !(c != \"x\")": and(or(a, b), not(c)),
		"a == true && b < -5 || c != \"x\"":      or(and(a, b), c),
		"a == true || !(b < -5 && c != \"x\")":   or(a, not(and(b, c))),
		"a == true || b < -5 && !!(c != \"x\")":  or(a, and(b, not(not(c)))),
		"(a == true || b < -5 && a == true) && !(b < -5 || c != \"x\")": and(or(a, and(b, a)), not(or(b, c))),
	} {
		is(t, want, all(posture.Print(x)), all(want, api.OK))
		is(t, want, all(posture.Parse(want)), all(x, 0, api.OK))
	}
}

// P7.3
func TestPrintLong(t *testing.T) {
	long := func(n, more int) api.Cond {
		c := api.Cond{Kind: api.CondIs, Name: strings.Repeat("a", 40), Op: "==", Value: api.Attr{Kind: api.AttrWords, Words: strings.Repeat("x", 52)}}
		out := api.Cond{Kind: api.CondOr, Kids: repeat(n, func(int) api.Cond { return c })}
		out.Kids[0].Value.Words += strings.Repeat("x", more)
		return out
	}
	// Each one has 98 bytes, and 4 between.
	s, e := posture.Print(long(49, 6))
	is(t, "full", all(len(s), e), all(api.MaxCond, api.OK))
	is(t, "full", all(posture.Parse(s)), all(long(49, 6), 0, api.OK))
	is(t, "too long", all(posture.Print(long(49, 7))), all("", api.ErrLarge))
	is(t, "too long", all(posture.Print(long(100, 0))), all("", api.ErrLarge))
	is(t, "too many", all(posture.Print(long(101, 0))), all("", api.ErrLarge))
	wrong := long(100, 0)
	wrong.Kids[99].Op = "="
	is(t, "wrong, ahead of too long", all(posture.Print(wrong)), all("", api.ErrType))
}

// P7.3, Z10
func TestParse(t *testing.T) {
	a, b, c := comparison("a == yes"), comparison("b == yes"), comparison("c == yes")
	for s, want := range map[string]api.Cond{
		"a": a, " a": a, "a ": a, "\n a\n\n": a, "(a)": a, " ( (\n(a) ) ) ": a, "a==true": a, "a == true": a, "a\n==\n true": a, "(a == true)": a,
		"a!=false": comparison("a != no"), "a<5": comparison("a < 5"), "a<=-5": comparison("a <= -5"), "a>-5": comparison("a > -5"), "a>=0": comparison("a >= 0"), "a==100000000": comparison("a == 100000000"), "a == -100000000": comparison("a == -100000000"),
		`a==""`: comparison("a == ''"), `a=="x"`: comparison("a == 'x'"), `a == "\""`: comparison(`a == '"'`), `a == "\\"`: comparison(`a == '\'`), `a == "\\\""`: comparison(`a == '\"'`),
		"a==v1": comparison("a == 1.0.0.0"), "a==v1.2": comparison("a == 1.2.0.0"), "a==v1.2.3": comparison("a == 1.2.3.0"), "a<v0.0.0.0": comparison("a < 0.0.0.0"), "a>v10.20.30.1000000": comparison("a > 10.20.30.1000000"),
		"v": comparison("v == yes"), "v == v1": comparison("v == 1.0.0.0"), "v-1": comparison("v-1 == yes"), "v_": comparison("v_ == yes"), "vv1": comparison("vv1 == yes"),
		"truex": comparison("truex == yes"), "false-": comparison("false- == yes"), "a-5": comparison("a-5 == yes"), "a_": comparison("a_ == yes"),
		"!a": not(a), "! a": not(a), "!(a)": not(a), "!!a": not(not(a)), "!(!(a))": not(not(a)), "!a == 5": not(comparison("a == 5")), "!a&&b": and(not(a), b),
		"a&&b": and(a, b), "a && b && c": and(a, b, c), "a&&(b&&c)": and(a, b, c), "(a&&b)&&c": and(a, b, c), "((a)&&(b&&((c))))": and(a, b, c), "(a && b) && (c && (a && b))": and(a, b, c, a, b),
		"a||b": or(a, b), "a||b||c": or(a, b, c), "a||(b||c)": or(a, b, c), "((a||b))||c": or(a, b, c),
		"a||b&&c": or(a, and(b, c)), "a&&b||c": or(and(a, b), c), "(a||b)&&c": and(or(a, b), c), "a&&(b||c)": and(a, or(b, c)), "a||(b&&c)||a": or(a, and(b, c), a), "a&&b||(c||a&&b)": or(and(a, b), c, and(a, b)),
		"a&&!(b&&c)": and(a, not(and(b, c))), "a&&(b||c&&(a||(b||c)))": and(a, or(b, and(c, or(a, b, c)))), "a && ((b) || c) && a": and(a, or(b, c), a), "a && (b && c || a)": and(a, or(and(b, c), a)),
		"a == true&&b==5": and(a, comparison("b == 5")), `a=="&&"||b`: or(comparison("a == '&&'"), b),
		strings.Repeat("(", 2_499) + "a" + strings.Repeat(")", 2_499): a,
		"a" + strings.Repeat(" ", api.MaxCond-1):                      a,
	} {
		is(t, s, all(posture.Parse(s)), all(want, 0, api.OK))
	}
}

// P7.3: where no condition can go on.
func TestParseSyntax(t *testing.T) {
	for s, want := range map[string]int{
		"": 0, " ": 1, "\n\n ": 3, "&&": 0, " || a": 1, ")": 0, "a)": 1, "()": 1, "(": 1, "((a)": 4, "(a))": 3, "(a b)": 3, "a b": 2, "a(b)": 1, "a (b)": 2, "a !b": 2, "a !": 2, "a!": 1,
		"!": 1, "! ": 2, "!&& a": 1, "!!": 2, "a &&": 4, "a && ": 5, "a && && b": 5, "a && || b": 5, "a || ": 5, "a || )": 5, "a && (b ||) c": 10,
		"== 5": 0, "5": 0, "5 == a": 0, `"x"`: 0, "true": 0, "false == a": 0, "v1": 0, "v1.2 == a": 0, "v1a == 5": 0, "a && true": 5, "!true": 1, "(false)": 1,
		"a ==": 4, "a == ": 5, "a == b": 5, "a == (5)": 5, "a == !5": 5, "a == 5 == 6": 7, "a == 5 6": 7, "a == 5-6": 6, "a < > 5": 4, "a == && b": 5, "a == )": 5, "a == truex": 5, "a==true5": 3, "a == true true": 10,
		"a == 012": 5, "a == 00": 5, "a == -0": 5, "a == -01": 5, "a == 1234567890": 5, "a == -1234567890": 5, "a == 0123456789": 5, "a == 5x": 6, "a == 5_0": 6, "a == 5.0": 6, "a == -": 5, "a == --5": 5, "a == - 5": 5, "a == -x": 5, "a == +5": 5, "-a": 0, "-5": 0, "-": 0, "- a": 0,
		"a == v1..2": 5, "a == v1.": 5, "a == v1.2.3.4.5": 5, "a == v1.2.3.4.": 5, "a == v01": 5, "a == v1.02": 5, "a == v1234567890": 5, "a == v1.1234567890": 5, "a == v1.2x": 9, "a == v1-2": 7, "a == v1x": 7, "a == v 1": 5, "a == v.1": 5, "v1.. ": 0, "v01": 0, "a && v1..2": 5,
		`a == "`: 5, `a == "x`: 5, `a == "x\"`: 5, `a == "\`: 5, `a == "\n"`: 5, `a == "\x"`: 5, "a == \"\n\"": 5, "a == \"\t\"": 5, "a == \"é\"": 5, "a == \"\x7f\"": 5, "a == \"x\xff\"": 5, `a == "x" "y"`: 9, `a == "x""y"`: 8, `a == 'x'`: 5, `"`: 0, `a "x"`: 2, `a "x`: 2,
		"a & b": 2, "a&b": 1, "a &": 2, "a | b": 2, "a |": 2, "a = 5": 2, "a === 5": 4, "a !== 5": 4, "a =! 5": 2, "a =< 5": 2, "a <> 5": 3, "a <= > 5": 5, "a <== 5": 4, "a &&& b": 4,
		"A": 0, "aB": 1, "a.b": 1, "a B": 2, "_a": 0, "a\t": 1, "\ta": 0, "a\r\n": 1, "a\x00": 1, "é": 0, "aé": 1, "a && \xff": 5, "a # b": 2, "a == 5;": 6, "a,b": 1, "[a]": 0, "{": 0, "@": 0, "`": 0, "a == 5/2": 6, "a:b": 1, "\u00a0a": 0,
		strings.Repeat("(", api.MaxCond): api.MaxCond, strings.Repeat("!", api.MaxCond): api.MaxCond, strings.Repeat(" ", api.MaxCond): api.MaxCond,
	} {
		is(t, s, all(posture.Parse(s)), all(api.Cond{}, want, api.ErrSyntax))
	}
}

// P7.3, Z4: what is read, and is not right.
func TestParseErrors(t *testing.T) {
	sum := func(n int, sign string) string { return strings.TrimSuffix(strings.Repeat("a"+sign, n), sign) }
	for s, want := range map[string]api.Errno{
		strings.Repeat("a", api.MaxCond+1):                               api.ErrLarge,
		strings.Repeat(" ", api.MaxCond+1):                               api.ErrLarge,
		strings.Repeat("\xff", api.MaxCond+1):                            api.ErrLarge,
		sum(api.MaxLeaves+1, "&&"):                                       api.ErrLarge,
		sum(api.MaxLeaves, "&&"):                                         api.OK,
		sum(50, "&&") + "||" + sum(50, "&&"):                             api.OK,
		sum(50, "&&") + "||" + sum(51, "&&"):                             api.ErrLarge,
		strings.Repeat("!", api.MaxDeep) + "a":                           api.ErrLarge,
		strings.Repeat("!", api.MaxDeep-1) + "a":                         api.OK,
		strings.Repeat("!", 4_999) + "a":                                 api.ErrLarge,
		strings.Repeat("a&&(", 40) + "b" + strings.Repeat(")", 40):       api.OK,
		strings.Repeat("a&&(b||", 15) + "b" + strings.Repeat(")", 15):    api.ErrLarge,
		strings.Repeat("a&&(b||", 14) + "b&&c" + strings.Repeat(")", 14): api.OK,
		strings.Repeat("a", api.MaxName):                                 api.OK,
		tooLong:                                                          api.ErrName,
		"a && " + tooLong + " < true":                                    api.ErrName,
		"a < true":                                                       api.ErrType,
		"a >= false":                                                     api.ErrType,
		"a == 100000001":                                                 api.ErrArg,
		"a == -999999999":                                                api.ErrArg,
		"a == v1000001":                                                  api.ErrArg,
		"a == v1.2.3.999999999":                                          api.ErrArg,
		`a == "` + strings.Repeat("x", 100) + `"`:                        api.OK,
		`a == "` + strings.Repeat("x", 101) + `"`:                        api.ErrForm,
		`a == "` + strings.Repeat(`\\`, 100) + `"`:                       api.OK,
		"a < true && b == 100000001":                                     api.ErrType,
		"b == 100000001 && a < true":                                     api.ErrArg,
		"(a < true":                                                      api.ErrSyntax,
	} {
		c, n, e := posture.Parse(s)
		if e != want || e == api.OK && posture.CheckCond(c) != api.OK || e != api.OK && e != api.ErrSyntax && (n != 0 || c.Kind != 0) {
			t.Errorf("%.60q: %v, %d, %v, want %v", s, c, n, e, want)
		}
	}
}

// P7.3: what is printed is read as it was.
func TestPrintedIsRead(t *testing.T) {
	r := newChance(4)
	kinds := map[int]int{}
	for range 3_000 {
		c := r.cond(1 + r.Intn(6))
		s, e := posture.Print(c)
		if e != api.OK {
			t.Fatal(c, e)
		}
		is(t, s, all(posture.Parse(s)), all(c, 0, api.OK))
		kinds[c.Kind]++
	}
	if len(kinds) != 4 {
		t.Error(kinds)
	}
}

// What tokens look like, once more; what has the form of the first ones is one only if it has that of the second ones, too.
var (
	signForm    = regexp.MustCompile(`^(==|!=|<=|>=|<|>|&&|\|\||!|\(|\))`)
	numberRow   = regexp.MustCompile(`^-?[0-9]+`)
	numberForm  = regexp.MustCompile(`^(0|-?[1-9][0-9]{0,8})$`)
	wordsForm   = regexp.MustCompile(`^"([ !#-\[\]-~]|\\["\\])*"`)
	versionRow  = regexp.MustCompile(`^v[0-9][0-9.]*`)
	versionForm = regexp.MustCompile(`^v(0|[1-9][0-9]{0,8})(\.(0|[1-9][0-9]{0,8})){0,3}$`)
	nameForm    = regexp.MustCompile(`^[a-z][a-z0-9_-]*`)
)

// A mark is a token: `op`, `value`, `name`, another sign, `end`, or `none`.
type mark struct {
	at         int
	form, text string
}

// markOf is the token with which a string begins.
func markOf(s string) mark {
	if s == "" {
		return mark{form: "end"}
	}
	if m := signForm.FindString(s); m != "" {
		if slices.Contains(ops, m) {
			return mark{form: "op", text: m}
		}
		return mark{form: m, text: m}
	}
	if m := versionRow.FindString(s); m != "" {
		if !versionForm.MatchString(m) {
			return mark{form: "none"}
		}
		return mark{form: "value", text: m}
	}
	if m := numberRow.FindString(s); m != "" {
		if !numberForm.MatchString(m) {
			return mark{form: "none"}
		}
		return mark{form: "value", text: m}
	}
	if m := wordsForm.FindString(s); m != "" {
		return mark{form: "value", text: m}
	}
	m := nameForm.FindString(s)
	switch m {
	case "":
		return mark{form: "none"}
	case "true", "false":
		return mark{form: "value", text: m}
	}
	return mark{form: "name", text: m}
}

// marksOf are the tokens of a string up to the end, or to one that does not fit; it says whether none was so.
func marksOf(s string) ([]mark, bool) {
	var out []mark
	state, open := "part", 0
	for at := 0; ; {
		rest := strings.TrimLeft(s[at:], " \n")
		m := markOf(rest)
		m.at = len(s) - len(rest)
		out = append(out, m)
		at = m.at + len(m.text)
		ends := state == "behind" || state == "name"
		switch {
		case state == "part" && m.form == "!":
		case state == "part" && m.form == "(":
			open++
		case state == "part" && m.form == "name":
			state = "name"
		case state == "name" && m.form == "op":
			state = "value"
		case state == "value" && m.form == "value":
			state = "behind"
		case ends && m.form == ")" && open > 0:
			open--
			state = "behind"
		case ends && (m.form == "&&" || m.form == "||"):
			state = "part"
		case ends && m.form == "end" && open == 0:
			return out, true
		default:
			return out, false
		}
	}
}

// condOf tells once more what tokens that fit mean: it cuts them at signs that stand outside of parentheses.
func condOf(l []mark) api.Cond {
	for _, x := range []struct {
		sign string
		kind int
	}{{"||", api.CondOr}, {"&&", api.CondAnd}} {
		open, from := 0, 0
		out := api.Cond{Kind: x.kind}
		add := func(c api.Cond) {
			if c.Kind == x.kind {
				out.Kids = append(out.Kids, c.Kids...)
			} else {
				out.Kids = append(out.Kids, c)
			}
		}
		for i, m := range l {
			switch m.form {
			case "(":
				open++
			case ")":
				open--
			case x.sign:
				if open == 0 {
					add(condOf(l[from:i]))
					from = i + 1
				}
			}
		}
		if from > 0 {
			add(condOf(l[from:]))
			return out
		}
	}
	switch {
	case l[0].form == "!":
		return not(condOf(l[1:]))
	case l[0].form == "(":
		return condOf(l[1 : len(l)-1])
	case len(l) == 1:
		return comparison(l[0].text + " == yes")
	}
	return api.Cond{Kind: api.CondIs, Name: l[0].text, Op: l[1].text, Value: valueOf(l[2].text)}
}

// valueOf is the value of a token.
func valueOf(s string) api.Attr {
	switch {
	case s == "true":
		return attr("yes")
	case s == "false":
		return attr("no")
	case s[0] == '"':
		s = s[1 : len(s)-1]
		return api.Attr{Kind: api.AttrWords, Words: regexp.MustCompile(`\\(.)`).ReplaceAllString(s, "$1")}
	case s[0] == 'v':
		return attr(s[1:] + strings.Repeat(".0", 3-strings.Count(s, ".")))
	}
	return attr(s)
}

// P7.3: random texts are held against a second telling.
func TestParseOfMany(t *testing.T) {
	r := newChance(5)
	pieces := append(words(`a b a b true false v v1 v1.2 v1.2.3.4.5 v1. v01 5 -5 05 -0 1234567890 "x" "" "\"" "\x" "x == != < <= > >= = && || && || && || & | ! ! ( ( ( ) ) ) - _ A .`), " ", " ", "\n", "\t")
	good := words(`a b a==5 b!="x" a<v1 !a !b (a) (a||b) (a&&b) !(a&&!b) b==false a a>true`)
	count := map[api.Errno]int{}
	for i := range 40_000 {
		var s string
		for range r.Intn(8) {
			if i%2 == 0 {
				s += pick(r, pieces) + pick(r, []string{"", " "})
				continue
			}
			s += pick(r, good) + pick(r, []string{"&&", "||", " && ", "\n||", "&&!(a||"})
		}
		if i%2 == 1 {
			s += "a" + strings.Repeat(")", strings.Count(s, "(")-strings.Count(s, ")"))
			if r.Intn(2) == 0 {
				at := r.Intn(len(s))
				s = s[:at] + pick(r, pieces) + s[at+1:]
			}
		}
		c, n, e := posture.Parse(s)
		count[e]++
		marks, fit := marksOf(s)
		if !fit {
			is(t, s, all(c, n, e), all(api.Cond{}, marks[len(marks)-1].at, api.ErrSyntax))
			continue
		}
		want := condOf(marks[:len(marks)-1])
		if e = posture.CheckCond(want); e != api.OK {
			want = api.Cond{}
		}
		is(t, s, all(posture.Parse(s)), all(want, 0, e))
	}
	if count[api.OK] < 5_000 || count[api.ErrSyntax] < 5_000 || count[api.ErrType] < 50 {
		t.Error(fmt.Sprint(count))
	}
}
