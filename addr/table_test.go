package addr_test

import (
	"math/rand"
	"slices"
	"testing"

	"holloway/addr"
	"holloway/api"
)

const longKey = "a234567890123456789012345678901234567-_z" // MaxName bytes

// notKeys are strings that are no keys (Z11).
var notKeys = []string{"", "A", "1", "-", "_", "-a", "_a", "1a", "Aa", "aA", "a b", " a", "a ", "a.b", "a\n", "a\x00", "a/b", "é", "aé", "a{", "a`", "a@", longKey + "x"}

// rows are n entries, rising.
func rows(n int) []api.Entry {
	return repeat(n, func(i int) api.Entry {
		return api.Entry{Prefix: api.Prefix{Addr: api.Addr{Lo: uint64(i)}, Bits: 32}, To: "a"}
	})
}

// badTables are lists that are no tables, and their errors.
var badTables = []struct {
	name string
	t    []api.Entry
	e    api.Errno
}{
	{"too many", rows(api.MaxTable + 1), api.ErrLarge},
	{"too many, and wrong", make([]api.Entry, api.MaxTable+1), api.ErrLarge},
	{"an address", []api.Entry{{Prefix: api.Prefix{Addr: api.Addr{Hi: 1}}, To: "a"}}, api.ErrForm},
	{"bits behind", entries("10.0.0.1/8=a"), api.ErrForm},
	{"bits, ahead of a name", entries("10.0.0.0/33="), api.ErrArg},
	{"a name", entries("10.0.0.0/8=a 11.0.0.0/8="), api.ErrName},
	{"a name, ahead of order", entries("10.0.0.0/8=a 9.0.0.0/8=A"), api.ErrName},
	{"bits, ahead of order", entries("10.0.0.0/8=a 9.0.0.0/99=a"), api.ErrArg},
	{"twice", entries("10.0.0.0/8=a 10.0.0.0/8=b"), api.ErrOrder},
	{"bits falling", entries("10.0.0.0/16=a 10.0.0.0/8=a"), api.ErrOrder},
	{"addresses falling", entries("10.0.0.0/8=a 9.0.0.0/16=a"), api.ErrOrder},
	{"lengths falling", entries("::/0=a 9.0.0.0/16=a"), api.ErrOrder},
	{"order, ahead of what comes later", entries("10.0.0.0/8=a 9.0.0.0/8=a 10.0.0.0/33="), api.ErrOrder},
}

// P1.5, Z4
func TestCheckTable(t *testing.T) {
	for _, s := range []string{"", "0.0.0.0/0=a", "10.0.0.0/8=a 10.0.0.0/9=a 10.0.0.0/32=b 10.1.0.0/16=a ::/0=c ::/128=c", "255.255.255.255/32=z ::/0=z", "10.0.0.0/8=" + longKey} {
		is(t, "CheckTable "+s, addr.CheckTable(entries(s)), api.OK)
	}
	is(t, "CheckTable", addr.CheckTable(rows(api.MaxTable)), api.OK)
	good := entries("10.0.0.0/8=a")
	for _, c := range badTables {
		is(t, c.name, addr.CheckTable(c.t), c.e)
		is(t, c.name, all(addr.Lookup(c.t, api.Addr{Hi: 1})), all("", false, c.e))
		is(t, c.name, all(addr.Squeeze(c.t)), all(entries(""), c.e))
		is(t, c.name, all(addr.Differ(c.t, make([]api.Entry, api.MaxTable+1))), all(api.Addr{}, false, c.e))
		is(t, c.name, all(addr.Differ(good, c.t)), all(api.Addr{}, false, c.e))
	}
}

// P1.5, Z11
func TestKeysOfTables(t *testing.T) {
	table := entries("10.0.0.0/8=a")
	for _, s := range []string{"a", "z", "a0", "a-", "a_", "a9-_z", longKey} {
		table[0].To = s
		is(t, "CheckTable "+s, addr.CheckTable(table), api.OK)
	}
	for _, s := range notKeys {
		table[0].To = s
		is(t, "CheckTable "+s, addr.CheckTable(table), api.ErrName)
	}
}

// P1.5
func TestLookup(t *testing.T) {
	table := entries("0.0.0.0/1=low 10.0.0.0/8=a 10.1.0.0/16=b 10.1.2.0/24=c 10.1.2.3/32=d ::/0=all 1::/16=e 1::/64=f")
	for _, c := range []struct{ a, to string }{
		{"10.1.2.3", "d"}, {"10.1.2.4", "c"}, {"10.1.2.0", "c"}, {"10.1.2.255", "c"}, {"10.1.3.0", "b"}, {"10.1.0.0", "b"}, {"10.0.0.0", "a"}, {"10.255.255.255", "a"}, {"11.0.0.0", "low"}, {"0.0.0.0", "low"}, {"127.255.255.255", "low"},
		{"128.0.0.0", ""}, {"255.255.255.255", ""}, {"::", "all"}, {"ffff::", "all"}, {"1::", "f"}, {"1:0:0:1::", "e"}, {"2::", "all"},
	} {
		is(t, "Lookup "+c.a, all(addr.Lookup(table, at(c.a))), all(c.to, c.to != "", api.OK))
	}
	is(t, "Lookup", all(addr.Lookup(table[:5], at("::"))), all("", false, api.OK))
	is(t, "Lookup", all(addr.Lookup(table[5:], at("10.1.2.3"))), all("", false, api.OK))
	is(t, "Lookup", all(addr.Lookup(nil, at("::"))), all("", false, api.OK))
	for _, a := range wrongAddrs {
		is(t, "Lookup", all(addr.Lookup(table, a)), all("", false, api.ErrForm))
	}
}

// P1.5
func TestSqueeze(t *testing.T) {
	for _, c := range [][2]string{
		{"", ""},
		{"10.0.0.0/8=a 10.1.0.0/16=b 10.1.2.0/24=b", "10.0.0.0/8=a 10.1.0.0/16=b"},
		{"10.0.0.0/8=a 10.0.0.0/16=a 10.0.0.0/24=a", "10.0.0.0/8=a"},
		{"10.0.0.0/8=a 10.1.0.0/16=b 10.1.2.0/24=a", "10.0.0.0/8=a 10.1.0.0/16=b 10.1.2.0/24=a"},
		{"10.0.0.0/8=a 10.0.0.0/9=a 10.128.0.0/9=b 10.128.0.0/10=a", "10.0.0.0/8=a 10.128.0.0/9=b 10.128.0.0/10=a"},
		// The halves of nothing stay, also if both go to the same.
		{"10.0.0.0/9=a 10.128.0.0/9=a", "10.0.0.0/9=a 10.128.0.0/9=a"},
		// It looks at the table as it was: the second one goes, and the third one with it.
		{"0.0.0.0/0=a 10.0.0.0/8=a 10.1.0.0/16=a 10.1.1.0/24=b", "0.0.0.0/0=a 10.1.1.0/24=b"},
		{"0.0.0.0/0=a ::/0=a ::/1=a", "0.0.0.0/0=a ::/0=a"},
		{"0.0.0.0/32=a ::/128=a", "0.0.0.0/32=a ::/128=a"},
		{"9.0.0.0/8=a 10.0.0.0/16=a", "9.0.0.0/8=a 10.0.0.0/16=a"},
	} {
		is(t, "Squeeze "+c[0], all(addr.Squeeze(entries(c[0]))), all(entries(c[1]), api.OK))
	}
	is(t, "Squeeze", all(addr.Squeeze(rows(api.MaxTable))), all(rows(api.MaxTable), api.OK))
}

// P1.5
func TestDiffer(t *testing.T) {
	table := "10.0.0.0/8=a 10.1.0.0/16=b 10.1.2.0/24=b"
	for _, c := range [][3]string{
		{"", "", ""}, {table, table, ""}, {table, "10.0.0.0/8=a 10.1.0.0/16=b", ""}, {table, "10.0.0.0/8=a", "10.1.0.0"}, {table, "", "10.0.0.0"},
		{"10.0.0.0/8=a", "10.0.0.0/9=a 10.128.0.0/9=a", ""}, {"10.0.0.0/8=a", "10.0.0.0/9=a 10.128.0.0/9=b", "10.128.0.0"}, {"10.0.0.0/8=a", "10.0.0.0/8=a 10.255.255.255/32=b", "10.255.255.255"},
		{"10.0.0.0/8=a", "10.0.0.0/9=a", "10.128.0.0"}, {"0.0.0.0/0=a", "128.0.0.0/1=a", "0.0.0.0"}, {"0.0.0.0/0=a ::/0=a", "0.0.0.0/0=a ::/0=b", "::"}, {"0.0.0.0/0=a", "0.0.0.0/0=a ::/0=b", "::"},
		{"::/0=a", "0.0.0.0/0=a", "0.0.0.0"}, {"::/0=a", "::/1=a", "8000::"}, {"::/0=a ffff::/16=b", "::/0=a", "ffff::"}, {"::/64=a", "::/63=a", "0:0:0:1::"},
		{"0.0.0.0/0=a", "0.0.0.0/1=b 128.0.0.0/1=a", "0.0.0.0"}, {"255.255.255.255/32=a", "255.255.255.255/32=b", "255.255.255.255"},
	} {
		want := all(api.Addr{}, false, api.OK)
		if c[2] != "" {
			want = all(at(c[2]), true, api.OK)
		}
		is(t, "Differ "+c[0]+" "+c[1], all(addr.Differ(entries(c[0]), entries(c[1]))), want)
		is(t, "Differ "+c[1]+" "+c[0], all(addr.Differ(entries(c[1]), entries(c[0]))), want)
	}
}

// table is a random table of a world.
func (w world) table(r *rand.Rand) []api.Entry {
	var out []api.Entry
	for cell := range 64 {
		for bits := range 6 {
			if cell%(1<<(5-bits)) == 0 && r.Intn(8) == 0 {
				out = append(out, api.Entry{Prefix: w.part(cell, bits), To: string(rune('a' + r.Intn(3)))})
			}
		}
	}
	return out
}

// says is where a part of a world goes, found from the longest prefix on.
func (w world) says(t []api.Entry, cell int) string {
	for bits := 5; bits >= 0; bits-- {
		p := w.part(cell>>(5-bits)<<(5-bits), bits)
		if i := slices.IndexFunc(t, func(x api.Entry) bool { return x.Prefix == p }); i >= 0 {
			return t[i].To
		}
	}
	return ""
}

// squeezed is Squeeze of a table of a world, with the next shorter prefixes looked for one by one.
func (w world) squeezed(t []api.Entry) []api.Entry {
	var out []api.Entry
	for _, x := range t {
		to := ""
		for bits := x.Prefix.Bits - 1; bits >= 0 && to == ""; bits-- {
			p, _ := addr.Mask(x.Prefix.Addr, bits)
			if i := slices.IndexFunc(t, func(y api.Entry) bool { return y.Prefix == p }); i >= 0 {
				to = t[i].To
			}
		}
		if to != x.To {
			out = append(out, x)
		}
	}
	return out
}

// P1.5: tables of two small worlds say what is found part by part.
func TestTablesLikeParts(t *testing.T) {
	r := rand.New(rand.NewSource(8))
	for i := range 2_000 {
		w := world{low: i%2 == 0}
		x := w.table(r)
		y := slices.Clone(x)
		for range r.Intn(3) {
			if len(y) > 0 {
				k := r.Intn(len(y))
				y[k].To = string(rune('a' + r.Intn(3)))
				if r.Intn(2) == 0 {
					y = slices.Delete(y, k, k+1)
				}
			}
		}
		is(t, "CheckTable", addr.CheckTable(y), api.OK)
		want := all(api.Addr{}, false, api.OK)
		for cell := 63; cell >= 0; cell-- {
			to := w.says(x, cell)
			is(t, "Lookup", all(addr.Lookup(x, w.part(cell, 5).Addr)), all(to, to != "", api.OK))
			if to != w.says(y, cell) {
				want = all(w.part(cell, 5).Addr, true, api.OK)
			}
		}
		is(t, "Differ", all(addr.Differ(x, y)), want)
		s, e := addr.Squeeze(x)
		is(t, "Squeeze", all(s, e), all(w.squeezed(x), api.OK))
		is(t, "Differ", all(addr.Differ(x, s)), all(api.Addr{}, false, api.OK))
	}
}
