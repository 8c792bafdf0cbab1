package flow_test

import (
	"fmt"
	"regexp"
	"strings"
	"testing"

	"holloway/addr"
	"holloway/api"
	"holloway/flow"
)

// P9.6
func TestText(t *testing.T) {
	const s = "0 n-_0 in 1 :: fd00::1:0 0 0 1 0; 5 a in 6 10.0.0.1 255.255.255.255 0 65535 1000000000000 1000000000000; 5 a out 17 10.0.0.1 10.0.0.2 9 80 1 5; 96023 a out 255 1:2:3:4:5:6:7:8 ::1 0 0 7 0"
	text := strings.ReplaceAll(s, "; ", "\n") + "\n"
	is(t, "Text", all(flow.Text(reports(s))), all(text, api.OK))
	is(t, "Read", all(flow.Read(text)), all(reports(s), 0, api.OK))
	is(t, "none", all(flow.Text(nil)), all("", api.OK))
	is(t, "none", all(flow.Read("")), all([]api.Report{}, 0, api.OK))
	for _, x := range spoilers() {
		l := reports(s)
		x.do(&l[3])
		is(t, x.name, all(flow.Text(l)), all("", x.e))
	}
}

// P9.6: limits
func TestLongTexts(t *testing.T) {
	// Each line has 80 bytes.
	long := func(packets int) []api.Report {
		l := repeat(2_500, func(i int) api.Report {
			return reports(fmt.Sprintf("%d %s in 6 10.0.0.1 10.0.0.2 9 443 1 5", 10_000+i, strings.Repeat("n", api.MaxName)))[0]
		})
		l[7].Packets = packets
		return l
	}
	full := long(9)
	text, e := flow.Text(full)
	is(t, "full", all(len(text), e), all(api.MaxText, api.OK))
	is(t, "full", all(flow.Read(text)), all(full, 0, api.OK))
	is(t, "too long", all(flow.Text(long(10))), all("", api.ErrLarge))
	is(t, "too long", all(flow.Read("1"+text)), all([]api.Report{}, 0, api.ErrLarge))
	is(t, "too long and wrong", all(flow.Read("\n"+text)), all([]api.Report{}, 0, api.ErrLarge))
	is(t, "wrong, ahead of too long", all(flow.Text(append(long(10), api.Report{}))), all("", api.ErrName))
	is(t, "too many", all(flow.Text(many(api.MaxReports+1))), all("", api.ErrLarge))
	lines := func(n int) string {
		return strings.Join(repeat(n, func(i int) string { return fmt.Sprintf("%d n in 1 :: :: 0 0 1 0\n", i) }), "")
	}
	l, n, e := flow.Read(lines(api.MaxReports))
	is(t, "as many as can be", all(len(l), n, e), all(api.MaxReports, 0, api.OK))
	is(t, "too many", all(flow.Read(lines(api.MaxReports+1))), all([]api.Report{}, 0, api.ErrLarge))
	is(t, "too many, and wrong", all(flow.Read(lines(api.MaxReports+1)+"\n")), all([]api.Report{}, api.MaxReports+1, api.ErrSyntax))
}

// P9.6, Z10: what has not the form of a line
func TestReadOfOtherLines(t *testing.T) {
	right := words("5 n in 6 10.0.0.1 10.0.0.2 9 80 1 5")
	wrong := map[int][]string{
		1: {""},
		2: {"", "In", "OUT", "i", "inn", "outs", "true", "1", "-"},
		4: {"", "10.0.0", "10.0.0.01", "10.0.0.256", "10.0.0.1/32", "x", "FD00::1", "fd00::0", "0:0::1", "::ffff:10.0.0.1", "-", "1"},
	}
	wrong[5] = wrong[4]
	for _, i := range []int{0, 3, 6, 7, 8, 9} {
		wrong[i] = []string{"", "05", "00", "-0", "+5", "-", "-05", "--5", "x", "5x", "5.0", "5,0", "5_0", "0x5", "5e1", "٣", "10000000000000", "-10000000000000", "00000000000005"}
	}
	var lines []string
	for i, l := range wrong {
		for _, w := range l {
			x := append([]string{}, right...)
			x[i] = w
			lines = append(lines, strings.Join(x, " "))
		}
	}
	line := strings.Join(right, " ")
	lines = append(lines, "", " ", "5", " "+line, line+" ", line+" 5", line+"\r", strings.Replace(line, " ", "\t", 1), strings.Join(right[1:], " "), strings.Join(right[:9], " "), strings.Repeat(" ", 9), line+" "+line)
	for i := range 9 {
		lines = append(lines, strings.Join(right[:i+1], " ")+"  "+strings.Join(right[i+1:], " "))
	}
	for _, s := range lines {
		is(t, s, all(flow.Read(s+"\n")), all([]api.Report{}, 0, api.ErrSyntax))
		// The first one counts, and it comes ahead of what is wrong with reports.
		is(t, s, all(flow.Read("5 N in 6 10.0.0.1 10.0.0.2 9 80 0 5\n"+line+"\n"+s+"\n\n"+line)), all([]api.Report{}, 2, api.ErrSyntax))
	}
	for s, want := range map[string]int{line: 0, line + "\n" + line: 1, line + "\n\n" + line + "\n": 1, "\n": 0, line + "\n\n": 1} {
		is(t, s, all(flow.Read(s)), all([]api.Report{}, want, api.ErrSyntax))
	}
}

// P9.6: what has the form of reports, and is not right
func TestReadOfWrongReports(t *testing.T) {
	for s, want := range map[string]api.Errno{
		"5 n in 6 10.0.0.1 10.0.0.2 9 80 1 5":                                          api.OK,
		"9999999999999 n in 6 10.0.0.1 10.0.0.2 9 80 1 5":                              api.ErrArg,
		"-9999999999999 n in 6 10.0.0.1 10.0.0.2 9 80 1 5":                             api.ErrArg,
		"-5 n in 6 10.0.0.1 10.0.0.2 9 80 1 5":                                         api.ErrArg,
		"96024 n in 6 10.0.0.1 10.0.0.2 9 80 1 5":                                      api.ErrArg,
		"5 N in 6 10.0.0.1 10.0.0.2 9 80 1 5":                                          api.ErrName,
		"5 " + tooLong + " in 6 10.0.0.1 10.0.0.2 9 80 1 5":                            api.ErrName,
		"-5 N in 6 10.0.0.1 10.0.0.2 9 80 1 5":                                         api.ErrName,
		"5 n in 0 10.0.0.1 10.0.0.2 9 80 1 5":                                          api.ErrArg,
		"5 n in 256 10.0.0.1 10.0.0.2 9 80 1 5":                                        api.ErrArg,
		"5 n in 6 10.0.0.1 ::1 9 80 1 5":                                               api.ErrType,
		"5 n in 1 10.0.0.1 10.0.0.2 9 80 1 5":                                          api.ErrArg,
		"5 n in 6 10.0.0.1 10.0.0.2 -9 80 1 5":                                         api.ErrArg,
		"5 n in 6 10.0.0.1 10.0.0.2 9 65536 1 5":                                       api.ErrArg,
		"5 n in 6 10.0.0.1 10.0.0.2 9 80 0 5":                                          api.ErrArg,
		"5 n in 6 10.0.0.1 10.0.0.2 9 80 1000000000001 5":                              api.ErrArg,
		"5 n in 6 10.0.0.1 10.0.0.2 9 80 1 -5":                                         api.ErrArg,
		"5 n in 6 10.0.0.1 10.0.0.2 9 80 1 9999999999999":                              api.ErrArg,
		"5 n in 6 10.0.0.1 10.0.0.2 9 80 1 5\n5 n in 6 10.0.0.1 10.0.0.2 9 80 1 5":     api.ErrOrder,
		"5 n in 6 10.0.0.1 10.0.0.2 9 80 1 5\n4 n in 6 10.0.0.1 10.0.0.2 9 80 1 5":     api.ErrOrder,
		"5 n in 6 10.0.0.1 10.0.0.2 9 80 1 5\n4 n in 6 10.0.0.1 10.0.0.2 9 80 0 5":     api.ErrArg,
		"5 n out 6 10.0.0.1 10.0.0.2 9 80 1 5\n5 n in 6 10.0.0.1 10.0.0.2 9 80 1 5":    api.ErrOrder,
		"5 n in 6 10.0.0.1 10.0.0.2 9 80 0 5\n4 N in 6 10.0.0.1 10.0.0.2 9 80 1 5":     api.ErrArg,
		"5 n in 6 10.0.0.1 10.0.0.2 80 9 1 5\n5 n in 6 10.0.0.1 10.0.0.2 9 80 1 5":     api.ErrOrder,
		"5 n in 6 10.0.0.10 10.0.0.2 80 9 1 5\n5 n in 6 10.0.0.9 10.0.0.2 80 9 1 5":    api.ErrOrder,
		"5 n in 6 10.0.0.10 10.0.0.2 80 9 1 5\n5 n in 6 10.0.0.9 10.0.0.2 80 9 1 1000": api.ErrOrder,
	} {
		l, n, e := flow.Read(s + "\n")
		if e != want || e == api.OK && len(l) != 1 || e != api.OK && len(l) > 0 || n != 0 {
			t.Errorf("%q: %v, %d, %v, want %v", s, l, n, e, want)
		}
	}
}

var lineForm = regexp.MustCompile(`^N [^ \n]+ (in|out) N [^ \n]+ [^ \n]+ N N N N$`)

var numberForm = regexp.MustCompile(`^(0|-?[1-9][0-9]{0,12})$`)

// hasForm says whether a line has the form of a report.
func hasForm(line string) bool {
	w := strings.Split(line, " ")
	for i := range w {
		if i != 1 && numberForm.MatchString(w[i]) {
			w[i] = "N"
		}
	}
	if !lineForm.MatchString(strings.Join(w, " ")) {
		return false
	}
	_, from := addr.Parse(w[4])
	_, to := addr.Parse(w[5])
	return from == api.OK && to == api.OK
}

// syntaxOf is the number of the line for ErrSyntax; -1 if there is none.
func syntaxOf(text string) int {
	n := 0
	for line := range strings.Lines(text) {
		bare, ended := strings.CutSuffix(line, "\n")
		if !ended || !hasForm(bare) {
			return n
		}
		n++
	}
	return -1
}

// P9.6, Z10: random texts; what is written is read, and nothing else.
func TestReadOfMany(t *testing.T) {
	r := newChance(13)
	count := map[api.Errno]int{}
	for range 10_000 {
		l := r.reports(r.nodes())
		l = l[:min(len(l), 4)]
		text, e := flow.Text(l)
		is(t, "Text", e, api.OK)
		is(t, text, all(flow.Read(text)), all(l, 0, api.OK))
		b := []byte(text)
		for range min(r.Intn(3), len(b)) {
			i := r.Intn(len(b))
			b[i] = pick(r, []byte("0159-.: ioutnA\n"))
		}
		if len(b) > 0 && r.Intn(10) == 0 {
			b = b[:len(b)-1]
		}
		text = string(b)
		got, n, e := flow.Read(text)
		count[e]++
		want := syntaxOf(text)
		if e == api.OK {
			is(t, text, all(flow.Text(got)), all(text, api.OK))
		}
		if e == api.ErrSyntax || want >= 0 {
			is(t, text, all(got, n, e), all([]api.Report{}, want, api.ErrSyntax))
		}
	}
	for _, e := range []api.Errno{api.OK, api.ErrSyntax, api.ErrArg, api.ErrOrder, api.ErrName} {
		if count[e] < 30 {
			t.Errorf("%d texts with %v", count[e], e)
		}
	}
}
