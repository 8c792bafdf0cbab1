package control_test

import (
	"fmt"
	"regexp"
	"slices"
	"strings"
	"testing"

	"holloway/addr"
	"holloway/api"
	"holloway/control"
	"holloway/netmap"
	"holloway/node"
	"holloway/posture"
)

// console makes a console of the office.
func console(key string) *control.Console { return must(control.New(office(), key)) }

// A talk is what a console is told, and what it answers, with ` / ` for the ends of lines between.
type talk struct{ line, answer string }

// talks holds that a console answers so.
func talks(t *testing.T, c *control.Console, l []talk) {
	t.Helper()
	for _, x := range l {
		before := fmtOf(c.Book())
		got := c.Do(x.line)
		if want := strings.ReplaceAll(x.answer, " / ", "\n") + "\n"; got != want {
			t.Errorf("%s: got %q, want %q", x.line, got, want)
		}
		if after := fmtOf(c.Book()); strings.HasPrefix(got, "error") && after != before {
			t.Errorf("%s: it has an error, and something has changed", x.line)
		}
	}
}

// P10.5
func TestNew(t *testing.T) {
	c, e := control.New(office(), "s1")
	is(t, "New", e, api.OK)
	is(t, "its book", c.Book(), api.Book{Setting: office()})
	for _, key := range notKeys {
		c, e := control.New(office(), key)
		is(t, key, all(c == nil, e), all(true, api.ErrName))
	}
	for _, f := range settingFaults() {
		s := office()
		f.do(&s)
		c, e := control.New(s, "S")
		is(t, f.name, all(c == nil, e), all(true, f.e))
	}
}

// P10.5
func TestSessionOfTheDocument(t *testing.T) {
	s := office()
	s.Directory.Users = words("ann")
	s.Directory.Owners, s.Policy, s.Access = nil, api.Policy{}, nil
	is(t, "Session", control.Session(s, "s1", "at 5\njoin ann n1 - 0a laptop\nlive\njoin ann n1 - 0b laptop\n"), "ok\nok\nn1\nok\nerror 6\n")
}

// P10.5
func TestTime(t *testing.T) {
	talks(t, console("s1"), []talk{
		{"at 0", "ok"}, {"at 5", "ok"}, {"at 5", "ok"}, {"at 4", "error 7"}, {"at 0", "error 7"}, {"at -1", "error 1"}, {"at 345686400", "error 1"}, {"at 999999999", "error 1"}, {"at -999999999", "error 1"},
		{"at 1000000000", "error 9"}, {"at -1000000000", "error 9"}, {"at 05", "error 9"}, {"at -0", "error 9"}, {"at +6", "error 9"}, {"at x", "error 9"}, {"at 6x", "error 9"}, {"at 6.0", "error 9"}, {"at", "error 9"}, {"at ", "error 9"}, {"at  6", "error 9"}, {"at 6 7", "error 9"}, {" at 6", "error 9"}, {"at 6 ", "error 9"}, {"AT 6", "error 9"}, {"at\t6", "error 9"},
		{"up n1", "ok"}, {"at 345686399", "ok"}, {"at 345686398", "error 7"}, {"up n1", "ok"}, {"next", "-"},
	})
}

// P10.5
func TestStepsOfConsoles(t *testing.T) {
	c := console("s1")
	talks(t, c, []talk{
		{"live", "ok"}, {"at 5", "ok"},
		{"join ann n1 - 0a mac", "ok"}, {"key ann j1 web 90 1 yes", "ok"}, {"at 6", "ok"}, {"join - n2 j1 0b mac", "ok"}, {"live", "n1 / n2 / ok"},
		{"join ann n1 - 0c mac", "error 6"}, {"join ann n3 - 0a mac", "error 13"}, {"join dan n3 - 0c mac", "error 8"}, {"join - n3 j1 0c mac", "error 12"}, {"join - n3 - 0c mac", "error 3"}, {"join ann n3 j1 0c mac", "error 3"},
		{"join Ann n3 - 0c mac", "error 5"}, {"join ann - - 0c mac", "error 5"}, {"join ann n3 - 0C mac", "error 5"}, {"join ann n3 - 0c -", "error 5"},
		{"key ann j2 web,db 90 1 yes", "error 7"}, {"key ann j2 db 90 1 yes", "error 16"}, {"key ann j2 - 90 1 yes", "ok"}, {"key ann j3 - 6 1 yes", "error 1"}, {"key ann j3 - -6 1 yes", "error 1"}, {"key ann j3 a,b,c,d,e,f,g,h,i,j,k 90 1 yes", "error 2"},
		{"revoke bob j2", "error 16"}, {"revoke ann j2", "ok"}, {"revoke ann j2", "error 11"},
		{"approve ann n1", "error 11"}, {"renew ann n1 0d", "ok"}, {"renew ann n1 0b", "error 13"}, {"name ann n1 pc", "ok"}, {"name ann n1 pc", "error 6"}, {"name cid n1 box", "error 16"},
		{"tag ann n1 -", "error 3"}, {"tag ann n1 web", "ok"}, {"expire bob n1", "ok"}, {"live", "n2 / ok"}, {"expire bob n1", "error 11"}, {"gone bob n1", "ok"}, {"gone bob n1", "error 8"}, {"live", "n2 / ok"},
		{"join ann n3 - 0e", "error 9"}, {"join ann n3 - 0e mac mac", "error 9"}, {"join ann n3  0e mac", "error 9"}, {"join ann n3 - 0e mac ", "error 9"}, {"Join ann n3 - 0e mac", "error 9"}, {"6 s1 9 join ann n3 - 0e mac", "error 9"}, {"key ann j3 web, 90 1 yes", "error 9"}, {"key ann j3 - 090 1 yes", "error 9"}, {"key ann j3 - 1234567890 1 yes", "error 9"}, {"key ann j3 - 90 1 y", "error 9"}, {"gone ann", "error 9"}, {"name ann n2", "error 9"}, {"name ann n2 x y", "error 9"},
	})
	is(t, "what is written down", c.Book().Steps, steps("5 s1 1 join ann n1 - 0a mac; 5 s1 2 key ann j1 web 90 1 yes; 6 s1 3 join - n2 j1 0b mac; 6 s1 4 key ann j2 - 90 1 yes; 6 s1 5 revoke ann j2; 6 s1 6 renew ann n1 0d; 6 s1 7 name ann n1 pc; 6 s1 8 tag ann n1 web; 6 s1 9 expire bob n1; 6 s1 10 gone bob n1"))
}

// P10.5: steps are put among those that others have written down at later moments, too.
func TestStepsAmongOthers(t *testing.T) {
	c := console("s2")
	is(t, "Take", c.Take(api.Book{Setting: office(), Steps: steps("7 s1 1 join ann n1 - 0a mac; 9 s2 4 name ann n1 pc; 9 s2 7 name ann n1 box; 20 s3 1 join ann n2 - 0b mac")}), api.OK)
	talks(t, c, []talk{
		{"at 5", "ok"}, {"name ann n1 pc", "error 8"}, {"join bob n1 - 0a pc", "ok"}, {"at 9", "ok"}, {"live", "n1 / ok"}, {"refused", "7 1 1 ann 6 / 9 1 2 ann 16 / 9 1 3 ann 16 / ok"},
		{"join ann n2 - 0c mac", "ok"}, {"at 20", "ok"}, {"refused", "7 1 1 ann 6 / 9 1 2 ann 16 / 9 1 3 ann 16 / 20 1 5 ann 6 / ok"},
	})
	is(t, "what is written down", c.Book().Steps, steps("5 s2 8 join bob n1 - 0a pc; 7 s1 1 join ann n1 - 0a mac; 9 s2 4 name ann n1 pc; 9 s2 7 name ann n1 box; 9 s2 9 join ann n2 - 0c mac; 20 s3 1 join ann n2 - 0b mac"))
	c = console("s1")
	c.Take(api.Book{Setting: office(), Steps: steps("5 s1 999999 join ann n1 - 0a mac")})
	talks(t, c, []talk{{"at 9", "ok"}, {"name ann n1 pc", "ok"}, {"name ann n1 box", "error 1"}, {"name Ann n1 box", "error 1"}, {"name ann n1", "error 9"}})
}

// P10.5
func TestClaimsOfConsoles(t *testing.T) {
	c := console("s1")
	talks(t, c, []talk{
		{"at 5", "ok"},
		{"claim n1 disk true", "ok"}, {"claim n1 disk true", "error 6"}, {"claim n1 disk false", "error 6"}, {"claim n1 disk 100000001", "error 6"}, {"claim n1 disk x", "error 9"},
		{"claim n1 level -3", "ok"}, {"claim n2 version v1.2.0.0", "ok"}, {`claim n1 os "a  \"b\" "`, "ok"}, {`claim n1 more ""`, "ok"},
		{"claim N1 disk true", "error 5"}, {"claim n1 Disk true", "error 5"}, {"claim n1 size 100000001", "error 1"}, {`claim n1 size "` + strings.Repeat("a", 101) + `"`, "error 3"}, {"claim n1 size v1000001.0.0.0", "error 1"},
		{"claim n1 size", "error 9"}, {"claim n1 size ", "error 9"}, {"claim n1  5", "error 9"}, {"claim  n1 size 5", "error 9"}, {"claim n1 size  5", "error 9"}, {"claim n1 size 5 ", "error 9"}, {"claim n1 size 05", "error 9"}, {"claim n1 size 1234567890", "error 9"}, {"claim n1 size v1.2", "error 9"}, {"claim n1 size TRUE", "error 9"}, {`claim n1 size "a`, "error 9"}, {`claim n1 size "a" "b"`, "error 9"}, {`claim n1 size "\a"`, "error 9"}, {"claim", "error 9"}, {"claim ", "error 9"}, {"claim n1", "error 9"}, {"claim n1 size 5\n", "error 9"}, {"claim n1 size 5\nclaim n1 size 6", "error 9"},
		{"at 6", "ok"}, {"claim n1 disk false", "ok"},
	})
	is(t, "what is written down", c.Book().Claims, claims(`5 n1 disk true; 5 n1 level -3; 5 n1 more ""; 5 n1 os "a  \"b\" "; 5 n2 version v1.2.0.0; 6 n1 disk false`))
}

// P10.5: of one moment askings are followed by their keys, then by who says them, not as they were told.
func TestAskingsOfConsoles(t *testing.T) {
	c := console("s1")
	talks(t, c, []talk{
		{"at 5", "ok"},
		{"ask k1 abe n1 root 10", "ok"}, {"ask k1 abe n1 root 10", "error 6"}, {"ask k1 bob n1 root 10", "error 6"}, {"ask k2 abe n1 safe 10", "error 8"}, {"ask k2 abe n1 root 31", "error 16"}, {"ask k2 abe n1 root 0", "error 1"}, {"ask k2 abe n1 root -1", "error 1"}, {"ask K2 abe n1 root 10", "error 5"}, {"ask k2 Abe n1 root 10", "error 5"}, {"ask k2 abe N1 root 10", "error 5"}, {"ask k2 abe n1 Root 10", "error 5"}, {"ask k2 - n1 root 10", "error 5"},
		{"yes k1 abe", "error 6"}, {"yes k1 dan", "error 16"}, {"yes k2 ann", "error 8"}, {"yes K1 ann", "error 5"}, {"yes k1 Ann", "error 5"}, {"stop k1 ann", "error 11"}, {"yes k1 ann", "ok"}, {"no k1 ann", "error 6"}, {"no k1 bob", "error 11"},
		{"ask k2 abe n2 super 30", "ok"}, {"yes k2 ann", "ok"}, {"at 6", "ok"}, {"yes k2 ann", "error 6"}, {"no k2 abe", "ok"},
		{"stop k1 dan", "error 16"}, {"stop k1 abe", "ok"}, {"stop k1 bob", "error 11"},
		{"ask k4 cid n1 root 9", "ok"}, {"yes k4 ann", "error 8"}, {"ask k4 bob n1 root 5", "ok"}, {"at 7", "ok"}, {"ask k4 cid n1 root 9", "error 6"}, {"yes k4 ann", "ok"},
		{"ask k3 cid n1 root", "error 9"}, {"ask k3 cid n1 root 10 11", "error 9"}, {"ask k3 cid n1 root x", "error 9"}, {"ask k3 cid n1 root 010", "error 9"}, {"ask k3 cid n1 root 1234567890", "error 9"}, {"ask k3 cid  root 10", "error 9"}, {"ask", "error 9"}, {"yes k1", "error 9"}, {"yes k1 ann n1", "error 9"}, {"no k1", "error 9"}, {"stop", "error 9"}, {"stop k1 ann ", "error 9"},
	})
	is(t, "what is written down", c.Book().Askings, askings("5 ask k1 abe n1 root 10; 5 yes k1 ann; 5 ask k2 abe n2 super 30; 5 yes k2 ann; 6 stop k1 abe; 6 no k2 abe; 6 ask k4 bob n1 root 5; 6 ask k4 cid n1 root 9; 7 yes k4 ann"))
}

// P10.5
func TestHealthOfConsoles(t *testing.T) {
	c := console("s1")
	talks(t, c, []talk{
		{"at 5", "ok"}, {"up n2", "ok"}, {"up n2", "error 6"}, {"down n2", "error 6"}, {"down n1", "ok"}, {"up N1", "error 5"}, {"down -", "error 5"}, {"up", "error 9"}, {"up ", "error 9"}, {"up n1 n2", "error 9"}, {"down", "error 9"}, {"UP n1", "error 9"}, {"at 6", "ok"}, {"down n2", "ok"},
	})
	is(t, "what is written down", c.Book().Health, health("5 down n1; 5 up n2; 6 down n2"))
}

// P10.5: lists that are full.
func TestFullConsoles(t *testing.T) {
	b := full()
	b.Steps, b.Claims, b.Askings, b.Health = b.Steps[1:], b.Claims[1:], b.Askings[1:], b.Health[1:]
	c := console("s")
	is(t, "Take", c.Take(b), api.OK)
	talks(t, c, []talk{
		{"join ann n9 - 0a mac", "ok"}, {"join ann n8 - 0b mac", "error 2"}, {"claim n9 more 5", "ok"}, {"claim n8 more 5", "error 2"}, {"ask k1 cid n1 root 10", "ok"}, {"ask k2 cid n1 root 10", "error 2"}, {"up n9", "ok"}, {"up n8", "error 2"},
	})
	right(t, c.Book())
	c = console("s")
	is(t, "Take", c.Take(full()), api.OK)
	talks(t, c, []talk{
		{"at 1", "ok"},
		{"join ann n9 - 0a mac", "error 2"}, {"join Ann n9 - 0a mac", "error 2"}, {"join ann n9 - 0a", "error 9"},
		{"claim n1 more 5", "error 2"}, {"claim N1 more 5", "error 2"}, {"claim n1 more 999999999", "error 2"}, {"claim n1 level 5", "error 6"}, {"claim n1 level 999999999", "error 6"}, {"claim n1 more x", "error 9"},
		{"ask k1 cid n1 root 10", "error 2"}, {"ask K1 cid n1 root 10", "error 2"}, {"no k ann", "error 6"}, {"ask k ann n1 root 0", "error 6"}, {"ask k1 cid n1 root x", "error 9"},
		{"up n2", "error 2"}, {"up N2", "error 2"}, {"down n1", "error 6"}, {"up", "error 9"},
	})
}

// P10.5: what a console of the day answers.
func TestQuestions(t *testing.T) {
	c := console("s9")
	is(t, "Take", c.Take(day()), api.OK)
	talks(t, c, []talk{
		{"live", "ok"}, {"facts", "ok"}, {"refused", "15 2 2 ann 11 / ok"}, {"next", "5"}, {"peers n1", "error 8"}, {"way n1 100.64.0.1", "error 8"}, {"name mac", "ok"}, {"who 100.64.0.1", "-"}, {"can 6 100.64.0.1 7 100.64.0.2 80", "no"},
		{"at 20", "ok"}, {"live", "n1 / n2 / n3 / ok"}, {"facts", "n1 safe / n2 root / ok"}, {"next", "24"},
		{"can 6 100.64.0.1 7 100.64.0.2 80", "yes"}, {"can 6 100.64.0.2 7 100.64.0.1 80", "no"}, {"can 6 100.64.0.1 7 100.64.0.2 81", "no"}, {"can 1 100.64.0.1 0 10.0.0.1 0", "yes"}, {"can 1 100.64.0.3 0 10.0.0.1 0", "no"},
		{"can 0 100.64.0.1 7 100.64.0.2 80", "error 1"}, {"can 256 100.64.0.1 7 100.64.0.2 80", "error 1"}, {"can -6 100.64.0.1 7 100.64.0.2 80", "error 1"}, {"can 1 100.64.0.1 7 100.64.0.2 0", "error 1"}, {"can 6 100.64.0.1 7 fd00::1 80", "error 10"}, {"can 6 100.64.0.1 7 100.64.0.2 65536", "error 1"}, {"can 6 100.64.0.1 -1 100.64.0.2 80", "error 1"},
		{"can 6 100.64.0.1 7 100.64.0.2", "error 9"}, {"can 6 100.64.0.1 7 100.64.0.2 80 81", "error 9"}, {"can x 100.64.0.1 7 100.64.0.2 80", "error 9"}, {"can 6 100.64.0.01 7 100.64.0.2 80", "error 9"}, {"can 6 100.64.0.1 07 100.64.0.2 80", "error 9"}, {"can 6 100.64.0.1 7 100.64.0.256 80", "error 9"}, {"can 6 100.64.0.1 7 100.64.0.2 x", "error 9"}, {"can 6 fd00::1 7 FD00::2 80", "error 9"}, {"can 6 fd00::1 7 fd00:0::2 80", "error 9"}, {"can 06 100.64.0.1 7 100.64.0.2 80", "error 9"},
		{"peers n1", "n2 / n3 / ok"}, {"peers n3", "n2 / ok"}, {"peers n4", "error 8"}, {"peers N1", "error 8"}, {"peers -", "error 8"}, {"peers", "error 9"}, {"peers n1 n2", "error 9"},
		{"way n1 100.64.0.2", "n2"}, {"way n1 100.64.0.1", "n1"}, {"way n1 10.0.0.1", "n3"}, {"way n1 11.0.0.1", "-"}, {"way n3 100.64.0.1", "-"}, {"way n4 10.0.0.1", "error 8"}, {"way n1 10.0.0", "error 9"}, {"way n4 10.0.0", "error 9"}, {"way n1", "error 9"}, {"way n1 10.0.0.1 x", "error 9"},
		{"name mac", "100.64.0.1 / fd00::1 / ok"}, {"name mac.corp.net", "100.64.0.1 / fd00::1 / ok"}, {"name mac-1", "100.64.0.2 / ok"}, {"name zed", "ok"}, {"name MAC", "error 5"}, {"name " + strings.Repeat("a", 254), "error 2"}, {"name -", "error 5"}, {"name", "error 9"}, {"name a b", "error 9"},
		{"who 100.64.0.2", "n2"}, {"who fd00::1", "n1"}, {"who 10.0.0.1", "-"}, {"who n1", "error 9"}, {"who 100.64.0", "error 9"}, {"who", "error 9"}, {"who ::1 ::2", "error 9"},
		{"refused", "15 2 2 ann 11 / ok"},
		{"", "error 9"}, {" ", "error 9"}, {"hello", "error 9"}, {"live ", "error 9"}, {" live", "error 9"}, {"live n1", "error 9"}, {"facts x", "error 9"}, {"next 5", "error 9"}, {"refused 5", "error 9"}, {"live\n", "error 9"}, {"\nlive", "error 9"}, {"live\nlive", "error 9"}, {"Live", "error 9"}, {"ok", "error 9"}, {"way n1 10.0.0.1\n", "error 9"}, {"peers n1\n", "error 9"}, {"up n1\n", "error 9"}, {"gone ann n1\n", "error 9"},
		{"gone zed n9", "error 8"},
		{"at 109", "ok"}, {"next", "-"}, {"live", "n3 / ok"},
	})
}

// P10.5: errors of worlds.
func TestConsoleWithoutWorlds(t *testing.T) {
	b := crowd(29, 69)
	c := must(control.New(b.Setting, "s"))
	is(t, "Take", c.Take(b), api.OK)
	talks(t, c, []talk{
		{"at 1027", "ok"}, {"next", "error 2"}, {"can 6 0.0.0.1 7 0.0.0.2 80", "no"}, {"at 1028", "ok"},
		{"facts", "error 2"}, {"can 6 0.0.0.1 7 0.0.0.2 80", "error 2"}, {"can 0 0.0.0.1 7 0.0.0.2 80", "error 2"}, {"can 6 0.0.0.1 7 0.0.0.2 x", "error 9"}, {"peers k0000", "error 2"}, {"way k0000 0.0.0.1", "error 2"}, {"name n", "error 2"}, {"who 0.0.0.1", "error 2"}, {"next", "error 2"}, {"refused", "ok"},
		{"up k0000", "ok"}, {"at 1500", "ok"}, {"can 6 0.0.0.1 7 0.0.0.2 80", "no"}, {"who 0.0.0.1", "k0001"},
	})
	is(t, "live", len(c.Do("live")), 29*6+3)
}

// P10.5, Z3
func TestTake(t *testing.T) {
	c := console("s1")
	c.Do("at 3")
	c.Do("join cid n4 - 0d mac")
	before := c.Book()
	for _, f := range append(bookFaults(), conflicts()[0]) {
		b := day()
		f.do(&b)
		is(t, f.name, c.Take(b), f.e)
		is(t, "nothing has changed", c.Book(), before)
	}
	b := day()
	b.Steps[0].At = 6
	b.Steps[0].Server, b.Steps[0].No = "s1", 1
	b.Steps = b.Steps[:1]
	is(t, "a conflict", c.Take(b), api.ErrConflict)
	is(t, "nothing has changed", c.Book(), before)
	b = day()
	for i := range b.Steps {
		b.Steps[i].Server += "x"
	}
	is(t, "Take", c.Take(b), api.OK)
	is(t, "both", c.Book(), must(control.Merge(before, b)))
	is(t, "its time is as it was", c.Do("at 2"), "error 7\n")
	is(t, "its time is as it was", c.Do("at 3"), "ok\n")
	is(t, "its number is as it was", c.Do("name cid n4 pc"), "ok\n")
	is(t, "its number is as it was", c.Book().Steps[1], steps("3 s1 2 name cid n4 pc")[0])
}

// P10.5
func TestSession(t *testing.T) {
	for script, want := range map[string]string{
		"":                         "",
		"\n":                       "",
		"\n\n\n":                   "",
		"live":                     "ok\n",
		"live\n":                   "ok\n",
		"\n\nlive\n\nlive\n\n":     "ok\nok\n",
		"live\nat 5\nat 4\nlive":   "ok\nok\nerror 7\nok\n",
		" \nlive":                  "error 9\nok\n",
		"live\r\nlive":             "error 9\nok\n",
		"at 5\nup n1\nup n1":       "ok\nok\nerror 6\n",
		"join ann n1 - 0a a\nlive": "ok\nn1\nok\n",
	} {
		is(t, script, control.Session(office(), "s1", script), want)
	}
	is(t, "no key", control.Session(office(), "S", "live"), "error 5\n")
	is(t, "no setting", control.Session(api.Setting{}, "S", "live"), "error 1\n")
	long := strings.Repeat("live\n", api.MaxText/5)
	is(t, "a long one", control.Session(office(), "s1", long) == strings.Repeat("ok\n", api.MaxText/5), true)
	is(t, "one that is too long", control.Session(office(), "s1", long+"\n"), "error 2\n")
	is(t, "one that is too long, ahead of no setting", control.Session(api.Setting{}, "S", long+"\n"), "error 2\n")
	for _, line := range []string{strings.Repeat("a", api.MaxText), "join ann n1 - 0a " + strings.Repeat("a", api.MaxText-17), "name " + strings.Repeat("a", api.MaxText-5), "claim n1 a " + strings.Repeat("5", api.MaxText-11), strings.Repeat(" ", api.MaxText), "key ann k " + strings.Repeat("a,", (api.MaxText-20)/2) + "a 1 1 no"} {
		want := map[string]string{"join": "error 5\n", "name": "error 2\n", "key": "error 2\n"}[strings.Split(line, " ")[0]]
		if want == "" {
			want = "error 9\n"
		}
		is(t, line[:20], control.Session(office(), "s1", line), want)
	}
}

// A clerk does what lines say in another way: it reads them by regular expressions, and asks the exported functions.
type clerk struct {
	name string
	now  int
	b    api.Book
}

// forms are those of lines; numbers, words and the rest of a line stand in parentheses.
var forms = func() map[string]*regexp.Regexp {
	const n, w = `(0|-?[1-9][0-9]{0,8})`, `([^ ]+)`
	out := map[string]*regexp.Regexp{}
	for _, x := range []string{"at N", "ask W W W W N", "yes W W", "no W W", "stop W W", "up W", "down W", "live", "facts", "can N W N W N", "peers W", "way W W", "name W", "who W", "next", "refused"} {
		word := strings.Split(x, " ")[0]
		out[word] = regexp.MustCompile("^" + strings.ReplaceAll(strings.ReplaceAll(x, "N", n), "W", w) + "$")
	}
	out["claim"] = regexp.MustCompile("^claim " + w + " " + w + " (.+)$")
	return out
}()

func failed(e api.Errno) string { return fmt.Sprintf("error %d\n", e) }

// inserted is a list with one more part, in an order.
func inserted[T any](l []T, x T, less func(x, y T) bool) []T {
	i := 0
	for i < len(l) && less(l[i], x) {
		i++
	}
	return slices.Insert(slices.Clone(l), i, x)
}

func indexOf[T any](l []T, x T) int {
	return slices.IndexFunc(l, func(y T) bool { return fmtOf(x) == fmtOf(y) })
}

func why(refused []api.Refusal, i int) api.Errno {
	for _, r := range refused {
		if r.Step == i {
			return r.Why
		}
	}
	return api.OK
}

// step does a line of a step.
func (c *clerk) step(line string) string {
	no := 1
	for _, s := range c.b.Steps {
		if s.Server == c.name && s.No >= no {
			no = s.No + 1
		}
	}
	read, _, e := node.Read(fmt.Sprintf("%d %s %d %s\n", c.now, c.name, no, line))
	if e != api.OK {
		return failed(e)
	}
	all := inserted(c.b.Steps, read[0], func(x, y api.Step) bool {
		return fmt.Sprintf("%09d %s %09d", x.At, x.Server, x.No) < fmt.Sprintf("%09d %s %09d", y.At, y.Server, y.No)
	})
	if e := why(must(node.Refused(c.b.Setting.Directory, all)), indexOf(all, read[0])); e != api.OK {
		return failed(e)
	}
	c.b.Steps = all
	return "ok\n"
}

// asking writes an asking down.
func (c *clerk) asking(x api.Asking) string {
	for _, y := range c.b.Askings {
		if x.At == y.At && x.Key == y.Key && x.By == y.By {
			return failed(api.ErrTwice)
		}
	}
	all := inserted(c.b.Askings, x, func(x, y api.Asking) bool {
		return fmt.Sprintf("%09d %s %s", x.At, x.Key, x.By) < fmt.Sprintf("%09d %s %s", y.At, y.Key, y.By)
	})
	refused, e := posture.Refused(c.b.Setting.Access, all)
	if e != api.OK {
		return failed(e)
	}
	if e := why(refused, indexOf(all, x)); e != api.OK {
		return failed(e)
	}
	c.b.Askings = all
	return "ok\n"
}

// claim writes a claim down.
func (c *clerk) claim(key, name, value string) string {
	read, _, e := posture.Read(fmt.Sprintf("%d %s %s %s\n", c.now, key, name, value))
	if e == api.ErrSyntax {
		return failed(e)
	}
	for _, y := range c.b.Claims {
		if y.At == c.now && y.Node == key && y.Name == name {
			return failed(api.ErrTwice)
		}
	}
	if e != api.OK {
		return failed(e)
	}
	c.b.Claims = inserted(c.b.Claims, read[0], func(x, y api.Claim) bool {
		return fmt.Sprintf("%09d %s %s", x.At, x.Node, x.Name) < fmt.Sprintf("%09d %s %s", y.At, y.Node, y.Name)
	})
	return "ok\n"
}

// health writes health down.
func (c *clerk) health(key string, up bool) string {
	for _, y := range c.b.Health {
		if y.At == c.now && y.Node == key {
			return failed(api.ErrTwice)
		}
	}
	all := inserted(c.b.Health, api.Health{At: c.now, Node: key, Up: up}, func(x, y api.Health) bool {
		return fmt.Sprintf("%09d %s", x.At, x.Node) < fmt.Sprintf("%09d %s", y.At, y.Node)
	})
	b := c.b
	b.Health = all
	if e := control.CheckBook(b); e != api.OK {
		return failed(e)
	}
	c.b = b
	return "ok\n"
}

// do does a line.
func (c *clerk) do(line string) string {
	f := forms[strings.Split(line, " ")[0]]
	if f == nil || f.FindStringSubmatch(line) == nil {
		return c.step(line)
	}
	w := f.FindStringSubmatch(line)[1:]
	switch strings.Split(line, " ")[0] {
	case "at":
		at := number(w[0])
		switch {
		case at < 0 || at >= api.End:
			return failed(api.ErrArg)
		case at < c.now:
			return failed(api.ErrOrder)
		}
		c.now = at
		return "ok\n"
	case "claim":
		return c.claim(w[0], w[1], w[2])
	case "ask":
		return c.asking(api.Asking{At: c.now, Key: w[0], By: w[1], Kind: api.AskFor, Node: w[2], Posture: w[3], Long: number(w[4])})
	case "yes":
		return c.asking(api.Asking{At: c.now, Key: w[0], By: w[1], Kind: api.AskYes})
	case "no":
		return c.asking(api.Asking{At: c.now, Key: w[0], By: w[1], Kind: api.AskNo})
	case "stop":
		return c.asking(api.Asking{At: c.now, Key: w[0], By: w[1], Kind: api.AskStop})
	case "up":
		return c.health(w[0], true)
	case "down":
		return c.health(w[0], false)
	}
	return c.ask(strings.Split(line, " ")[0], w)
}

// ask answers a question.
func (c *clerk) ask(word string, w []string) string {
	out, e := "", api.OK
	switch word {
	case "live":
		for _, key := range must(node.Live(c.b.Setting.Directory, c.b.Steps, c.now)) {
			out += key + "\n"
		}
	case "facts":
		var x api.World
		x, e = control.WorldAt(c.b, c.now)
		for _, f := range x.Scene.Facts {
			out += f.Node + " " + f.Posture + "\n"
		}
	case "peers":
		var m api.Map
		m, e = control.MapOf(c.b, w[0], c.now)
		for _, p := range m.Peers {
			out += p.Key + "\n"
		}
	case "name":
		var l []api.Addr
		l, e = control.Resolve(c.b, w[0], c.now)
		for _, a := range l {
			out += must(addr.Text(a)) + "\n"
		}
	case "refused":
		for _, n := range must(control.Audit(c.b)) {
			by := n.By
			if by == "" {
				by = "-"
			}
			out += fmt.Sprintf("%d %d %d %s %d\n", n.At, n.Kind, n.Number, by, n.Why)
		}
	default:
		return c.askOne(word, w)
	}
	if e != api.OK {
		return failed(e)
	}
	return out + "ok\n"
}

// askOne answers a question with one word.
func (c *clerk) askOne(word string, w []string) string {
	var addrs []api.Addr
	for _, i := range map[string][]int{"can": {1, 3}, "way": {1}, "who": {0}}[word] {
		a, e := addr.Parse(w[i])
		if e != api.OK {
			return failed(e)
		}
		addrs = append(addrs, a)
	}
	out, is, e := "", false, api.OK
	switch word {
	case "can":
		var yes bool
		yes, e = control.Permitted(c.b, api.Flow{Proto: number(w[0]), From: addrs[0], FromPort: number(w[2]), To: addrs[1], ToPort: number(w[4])}, c.now)
		out, is = map[bool]string{true: "yes", false: "no"}[yes], true
	case "way":
		var m api.Map
		if m, e = control.MapOf(c.b, w[0], c.now); e == api.OK {
			out, is, e = netmap.Way(m, addrs[0])
		}
	case "who":
		var m api.Machine
		m, is, e = control.WhoIs(c.b, addrs[0], c.now)
		out = m.Node
	case "next":
		var at int
		at, is, e = control.NextChange(c.b, c.now)
		out = fmt.Sprint(at)
	}
	switch {
	case e != api.OK:
		return failed(e)
	case !is:
		return "-\n"
	}
	return out + "\n"
}

// line is a random line.
func (r chance) line(now int) string {
	n := pick(r, someNodes)
	switch r.Intn(26) {
	case 0, 1, 2:
		return fmt.Sprint("at ", now+r.Intn(6)-1)
	case 3, 4:
		return fmt.Sprint(pick(r, words("up up down")), " ", n)
	case 5, 6:
		name := pick(r, words("disk level version"))
		return "claim " + n + " " + name + " " + r.value(name)
	case 7, 8:
		return fmt.Sprint("ask k", r.Intn(4), " abe ", n, " ", pick(r, words("new root safe")), " ", 1+r.Intn(11))
	case 9, 10, 11:
		return fmt.Sprint(pick(r, words("yes yes no stop")), " k", r.Intn(4), " ", pick(r, someUsers))
	case 12:
		f := r.flow()
		return fmt.Sprint("can ", f.Proto, " ", must(addr.Text(f.From)), " ", f.FromPort, " ", must(addr.Text(f.To)), " ", f.ToPort)
	case 13:
		return "peers " + n
	case 14:
		return "way " + n + " " + must(addr.Text(pick(r, someAddrs)))
	case 15:
		return "name " + pick(r, words("mac mac-1 pc a-b zed A"))
	case 16:
		return "who " + must(addr.Text(pick(r, someAddrs)))
	case 17:
		return pick(r, words("live facts next refused"))
	}
	return r.step(r.Intn(9))
}

// spoiled is a line that is often wrong.
func (r chance) spoiled(line string) string {
	i := r.Intn(len(line) + 1)
	switch r.Intn(5) {
	case 0:
		return line[:i]
	case 1:
		return line[:i] + pick(r, words("A 0 - x . ,")) + line[i:]
	case 2:
		return line[:i] + " " + line[i:]
	case 3:
		return line + " x"
	}
	return strings.Replace(line, pick(r, words("n k a c 1 0")), pick(r, words("N 9 - é")), 1)
}

// P10.5: consoles answer as clerks do, who read and ask in another way; what is wrong changes nothing.
func TestConsolesOfMany(t *testing.T) {
	r := newChance(9)
	answers := map[string]int{}
	for range 150 {
		b := r.book()
		c, d := must(control.New(b.Setting, "s1")), &clerk{name: "s1", b: api.Book{Setting: b.Setting}}
		var script, log []string
		for i := range 60 {
			if i == 30 && r.Intn(2) == 0 {
				b.Steps = slices.DeleteFunc(b.Steps, func(s api.Step) bool { return s.Server == "s1" })
				merged, e := control.Merge(d.b, b)
				is(t, "Take", c.Take(b), e)
				if e == api.OK {
					d.b = merged
				}
				script = nil
			}
			line := r.line(d.now)
			if r.Intn(5) == 0 {
				line = r.spoiled(line)
			}
			want := d.do(line)
			got := c.Do(line)
			if got != want {
				t.Fatalf("%q: got %q, want %q", line, got, want)
			}
			answers[strings.Split(line, " ")[0]+" "+strings.TrimSuffix(got, "\n")]++
			if i < 30 && line != "" {
				script, log = append(script, line), append(log, got)
			}
		}
		is(t, "its book", c.Book(), d.b)
		right(t, c.Book())
		if len(script) > 0 {
			is(t, "Session", control.Session(b.Setting, "s1", strings.Join(script, "\n")), strings.Join(log, ""))
		}
	}
	for _, x := range words("at,ok at,error@7 up,ok up,error@6 claim,ok claim,error@6 ask,ok ask,error@6 ask,error@16 yes,ok yes,error@16 no,ok stop,ok stop,error@11 can,yes can,no peers,ok peers,error@8 way,- name,ok name,error@5 who,- next,- live,ok facts,ok refused,ok join,ok join,error@6 renew,ok renew,error@16 gone,ok expire,error@8 name,error@6") {
		x = strings.NewReplacer(",", " ", "@", " ").Replace(x)
		if answers[x] == 0 {
			t.Errorf("never: %s", x)
		}
	}
}
