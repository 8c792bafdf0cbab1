package notation

import (
	"hash/fnv"
	"slices"
	"strconv"
	"strings"
	"testing"

	"holloway/api"
)

// Z11
func TestIsKey(t *testing.T) {
	long := strings.Repeat("a", api.MaxName)
	for _, s := range []string{"a", "z", "a0", "z9", "a-", "a_", "az-_09", long} {
		if !IsKey(s) {
			t.Errorf("%q is a key", s)
		}
	}
	for _, s := range []string{"", "0", "9", "-", "_", "A", "Z", "aA", "a ", " a", "a.", "a/", "a:", "a`", "a{", "a@", "a[", "a^", "`", "{", "a\n", "a\x00", "é", "aé", "a\xff", long + "a"} {
		if IsKey(s) {
			t.Errorf("%q is no key", s)
		}
	}
}

// Z10, Z11, P6.1, P7.3
func TestBytes(t *testing.T) {
	for b := range 256 {
		if got := IsSmall(byte(b)); got != strings.Contains("abcdefghijklmnopqrstuvwxyz", string([]byte{byte(b)})) {
			t.Errorf("IsSmall of %d: %v", b, got)
		}
		if got := IsDigit(byte(b)); got != strings.Contains("0123456789", string([]byte{byte(b)})) {
			t.Errorf("IsDigit of %d: %v", b, got)
		}
		if got := InKey(byte(b)); got != strings.Contains("abcdefghijklmnopqrstuvwxyz0123456789-_", string([]byte{byte(b)})) {
			t.Errorf("InKey of %d: %v", b, got)
		}
	}
}

// Z11
func TestIsPlain(t *testing.T) {
	for _, s := range []string{"", "a", "a b", "a b c", "~!", "é", "\u0080", "a\u00a0\u00a0b", "\u3000", "\U0010ffff", strings.Repeat("a ", 9) + "a"} {
		if !IsPlain(s) {
			t.Errorf("%q is plain", s)
		}
	}
	for _, s := range []string{" ", " a", "a ", "a  b", "a b  c", "\n", "a\nb", "\t", "\x00", "\x1f", "a\x1f", "\x7f", "a\x7f", "\xff", "a\xc3", "\xed\xa0\x80", "\xc0\x80", "\xf4\x90\x80\x80"} {
		if IsPlain(s) {
			t.Errorf("%q is not plain", s)
		}
	}
}

// Z10
func TestNumber(t *testing.T) {
	for _, c := range []struct {
		s      string
		digits int
		want   int
	}{
		{"0", 1, 0}, {"9", 1, 9}, {"10", 2, 10}, {"255", 3, 255}, {"7", 3, 7}, {"999999999", 9, 999_999_999}, {"999999999999999999", 18, 999_999_999_999_999_999},
	} {
		if n, ok := Number(c.s, c.digits); n != c.want || !ok {
			t.Errorf("%q: %d, %v", c.s, n, ok)
		}
	}
	for _, s := range []string{"", "00", "01", "-0", "-1", "+1", "1 ", " 1", "1.", "a", "1a", "0x1", "1e1", "1_0", "/", ":", "1/", "1:", "1234", "٣", "\n"} {
		if n, ok := Number(s, 3); n != 0 || ok {
			t.Errorf("%q: %d, %v", s, n, ok)
		}
	}
}

// Z10
func TestSigned(t *testing.T) {
	for _, c := range []struct {
		s      string
		digits int
		want   int
	}{
		{"0", 1, 0}, {"7", 1, 7}, {"-7", 1, -7}, {"-10", 2, -10}, {"999999999", 9, 999_999_999}, {"-999999999", 9, -999_999_999}, {"-999999999999999999", 18, -999_999_999_999_999_999},
	} {
		if n, ok := Signed(c.s, c.digits); n != c.want || !ok {
			t.Errorf("%q: %d, %v", c.s, n, ok)
		}
	}
	for _, s := range []string{"", "-", "-0", "-00", "-01", "00", "01", "--1", "+1", "- 1", "-1 ", " -1", "1-", "-a", "-1a", "1234", "-1234"} {
		if n, ok := Signed(s, 3); n != 0 || ok {
			t.Errorf("%q: %d, %v", s, n, ok)
		}
	}
}

// P1.6, P8.4: it is what another library computes.
func TestSum(t *testing.T) {
	for _, s := range []string{"", "a", "b", "ab", "ba", "a\x00", "\xff", "é", strings.Repeat("self", 50_000)} {
		h := fnv.New64a()
		h.Write([]byte(s))
		if got, want := Sum(s), h.Sum64(); got != want {
			t.Errorf("%.20q: %d, not %d", s, got, want)
		}
	}
}

// Z9, Z10
func TestReadLines(t *testing.T) {
	full := strings.Repeat("a", api.MaxText-1) + "\n"
	for _, c := range []struct {
		text  string
		lines []string
		n     int
		e     api.Errno
	}{
		{"", nil, 0, api.OK},
		{"\n", []string{""}, 0, api.OK},
		{"a\n\n b\r\n", []string{"a", "", " b\r"}, 0, api.OK},
		{"a", nil, 0, api.ErrSyntax},
		{"a\nb", []string{"a"}, 1, api.ErrSyntax},
		{"a\nb\nx\nc\n", []string{"a", "b", "x"}, 2, api.ErrSyntax},
		{"a\nx\nb", []string{"a", "x"}, 1, api.ErrSyntax},
		{full, []string{full[:api.MaxText-1]}, 0, api.OK},
		{full + "a", nil, 0, api.ErrLarge},
		{"x\n" + full, nil, 0, api.ErrLarge},
	} {
		var lines []string
		n, e := ReadLines(c.text, func(line string) bool {
			lines = append(lines, line)
			return line != "x"
		})
		if n != c.n || e != c.e || !slices.Equal(lines, c.lines) {
			t.Errorf("%.20q: %d lines, %d, %v", c.text, len(lines), n, e)
		}
	}
}

// P1.4, P2.7, P4.4, P5.9, Z9, Z10
func TestLines(t *testing.T) {
	for _, c := range []struct {
		l    []int
		text string
	}{{nil, ""}, {[]int{7}, "7\n"}, {[]int{7, 0, 12}, "7\n0\n12\n"}} {
		if s, e := Lines(c.l, strconv.Itoa); s != c.text || e != api.OK {
			t.Errorf("%v: %q, %v", c.l, s, e)
		}
	}
	half := strings.Repeat("a", api.MaxText/2-1)
	same := func(s string) string { return s }
	if s, e := Lines([]string{half, half}, same); s != half+"\n"+half+"\n" || e != api.OK {
		t.Errorf("full: %d, %v", len(s), e)
	}
	if s, e := Lines([]string{half, half, ""}, same); s != "" || e != api.ErrLarge {
		t.Errorf("too long: %d, %v", len(s), e)
	}
}

// P1.4, P2.7, P4.4, P5.9, Z3, Z9, Z10
func TestReadParts(t *testing.T) {
	read := func(line string) (int, bool) { return Number(line, 2) }
	check := func(l []int) api.Errno {
		if len(l) > 3 {
			return api.ErrFull
		}
		return api.OK
	}
	for _, c := range []struct {
		text string
		l    []int
		n    int
		e    api.Errno
	}{
		{"", nil, 0, api.OK},
		{"7\n0\n12\n", []int{7, 0, 12}, 0, api.OK},
		{"7\n0\n012\n", nil, 2, api.ErrSyntax},
		{"7\n0", nil, 1, api.ErrSyntax},
		{"7\n7\n7\n7\n", nil, 0, api.ErrFull},
		{"7\n7\n7\n7\nx\n", nil, 4, api.ErrSyntax},
		{strings.Repeat("x", api.MaxText+1), nil, 0, api.ErrLarge},
	} {
		if l, n, e := ReadParts(c.text, read, check); !slices.Equal(l, c.l) || n != c.n || e != c.e {
			t.Errorf("%.20q: %v, %d, %v", c.text, l, n, e)
		}
	}
}

// P3.6, P4.4, Z10
func TestList(t *testing.T) {
	number := func(s string) (int, bool) { return Number(s, 2) }
	for _, c := range []struct {
		s string
		l []int
	}{{"7", []int{7}}, {"7,0,12", []int{7, 0, 12}}, {"1,1", []int{1, 1}}} {
		if s := List(c.l, strconv.Itoa); s != c.s {
			t.Errorf("%v: %q", c.l, s)
		}
		if l, ok := ReadList(c.s, number); !slices.Equal(l, c.l) || !ok {
			t.Errorf("%q: %v, %v", c.s, l, ok)
		}
	}
	if s := List(nil, strconv.Itoa); s != "" {
		t.Errorf("no parts: %q", s)
	}
	for _, s := range []string{"", ",", "7,", ",7", "7,,8", "7;8", "7, 8", "7,x", "7,123"} {
		if l, ok := ReadList(s, number); len(l) != 0 || ok {
			t.Errorf("%q: %v, %v", s, l, ok)
		}
	}
}
