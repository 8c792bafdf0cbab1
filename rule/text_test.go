package rule_test

import (
	"math/rand"
	"strings"
	"testing"

	"holloway/api"
	"holloway/rule"
)

// example has each form of a line, of a what and of ports.
const example = "group a\n" +
	"group b ann bob @a\n" +
	"host h 10.0.0.0/8\n" +
	"host i fd00::/8\n" +
	"allow * -> *\n" +
	"allow user:ann,group:b,tag:web,node:n-1,host:h,net:10.1.0.0/16,net:::/0,member,tagged,* -> self;22,member;0,tagged;80-90,net:fd00::1/128;65535,host:i;0-65534,node:x;1-65535,tag:db,group:a,user:zed,*;7 proto 6 if p,q-_0\n" +
	"allow member -> self if p\n" +
	"allow user:user -> group:a;0-1 proto 17\n" +
	"allow tag:if -> tag:proto proto 255 if proto\n" +
	"accept 6 10.0.0.1 10.0.0.2 0 65535\n" +
	"deny 255 ::1 fd00::1 0 0\n"

func examplePolicy() api.Policy {
	whole := api.Ports{To: api.MaxPort}
	to := func(kind int, name string, from, to int) api.Target {
		return api.Target{What: what(kind, name), Ports: api.Ports{From: from, To: to}}
	}
	src := []api.What{what(2, "ann"), what(3, "b"), what(4, "web"), what(5, "n-1"), what(6, "h"), {Kind: 7, Net: net("10.1.0.0/16")}, {Kind: 7, Net: net("::/0")}, what(8, ""), what(9, ""), what(1, "")}
	dst := []api.Target{to(10, "", 22, 22), to(8, "", 0, 0), to(9, "", 80, 90), {What: api.What{Kind: 7, Net: net("fd00::1/128")}, Ports: api.Ports{From: 65_535, To: 65_535}}, to(6, "i", 0, 65_534), to(5, "x", 1, 65_535), to(4, "db", 0, 65_535), to(3, "a", 0, 65_535), to(2, "zed", 0, 65_535), to(1, "", 7, 7)}
	return api.Policy{
		Groups: []api.Group{{Name: "a"}, {Name: "b", Members: words("ann bob @a")}},
		Hosts:  []api.Host{{Name: "h", Net: net("10.0.0.0/8")}, {Name: "i", Net: net("fd00::/8")}},
		Grants: []api.Grant{
			{Src: []api.What{what(1, "")}, Dst: []api.Target{{What: what(1, ""), Ports: whole}}},
			{Src: src, Dst: dst, Proto: 6, Postures: words("p q-_0")},
			{Src: []api.What{what(8, "")}, Dst: []api.Target{{What: what(10, ""), Ports: whole}}, Postures: words("p")},
			{Src: []api.What{what(2, "user")}, Dst: []api.Target{to(3, "a", 0, 1)}, Proto: 17},
			{Src: []api.What{what(4, "if")}, Dst: []api.Target{{What: what(4, "proto"), Ports: whole}}, Proto: 255, Postures: words("proto")},
		},
		Tests: []api.Test{{Flow: flow(6, "10.0.0.1", "10.0.0.2", 65_535), Accept: true}, {Flow: flow(255, "::1", "fd00::1", 0)}},
	}
}

// P3.6, Z10
func TestTexts(t *testing.T) {
	is(t, "Text", all(rule.Text(examplePolicy())), all(example, api.OK))
	is(t, "Read", all(rule.Read(example)), all(examplePolicy(), 0, api.OK))
	is(t, "Text", all(rule.Text(api.Policy{})), all("", api.OK))
	is(t, "Read", all(rule.Read("")), all(api.Policy{}, 0, api.OK))
	for _, text := range []string{"group a\n", "host a 10.0.0.0/8\n", "allow * -> *\n", "accept 6 10.0.0.1 10.0.0.2 1 2\n", "group a\nallow * -> *\n", "host a ::/0\ndeny 1 ::1 ::2 0 0\n", "group a\ndeny 1 ::1 ::2 0 0\naccept 1 ::1 ::2 0 0\n", "allow *,* -> *,*\n", "allow user:a,user:a -> *;7,*;7\n"} {
		p, n, e := rule.Read(text)
		is(t, "Read", all(n, e), all(0, api.OK))
		is(t, "Text", all(rule.Text(p)), all(text, api.OK))
	}
}

// noLines are lines that have none of the forms.
var noLines = []string{
	"", " ", "x", "x a", "group", "group ", "group a ", "group  a", " group a", "group a  ann", "Group a", "groups a", "group\ta",
	"host", "host a", "host a ", "host a 10.0.0.0", "host a 10.0.0.1/8", "host a 10.0.0.0/33", "host a 10.0.0.0/08", "host a 10.0.0.0/8 ", "host a 10.0.0.0/8 b", "host a FD00::/8", "host  10.0.0.0/8", "host a *",
	"allow", "allow *", "allow * ->", "allow * -> ", "allow  -> *", "allow -> *", "allow * *", "allow * => *", "allow *->*", "allow * -> * *", "allow * -> * ", "allow *  -> *", " allow * -> *", "allow * -> *\t",
	"allow ** -> *", "allow any -> *", "allow *: -> *", "allow *:a -> *", "allow user -> *", "allow user: -> *", "allow user:,* -> *", "allow :a -> *", "allow a -> *", "allow users:a -> *", "allow User:a -> *", "allow member:a -> *", "allow member: -> *", "allow tagged:a -> *", "allow * -> self:a", "allow 1 -> *",
	"allow , -> *", "allow *, -> *", "allow ,* -> *", "allow *,,* -> *", "allow * -> *,", "allow * -> ,*", "allow * -> *,,*", "allow * -> ,", "allow user:a,b -> *",
	"allow user:a;b -> *", "allow user:a;80 -> *", "allow *;80 -> *", "allow user:; -> *", "allow * -> user:a;b", "allow * -> user:;80",
	"allow net: -> *", "allow net:10.0.0.0 -> *", "allow net:10.0.0.1/8 -> *", "allow net:a -> *", "allow net:FD00::/8 -> *", "allow net:0.0.0.0/-1 -> *", "allow net:10.0.0.0/8/8 -> *", "allow host: -> *", "allow group: -> *", "allow tag: -> *", "allow node: -> *",
	"allow * -> *;", "allow * -> *;;", "allow * -> *;80;90", "allow * -> *;80;", "allow * -> *;-1", "allow * -> *;-", "allow * -> *;80-", "allow * -> *;-90", "allow * -> *;80-80", "allow * -> *;0-65535", "allow * -> *;080", "allow * -> *;80-090", "allow * -> *;+80", "allow * -> *;a", "allow * -> *;80-90-95", "allow * -> *;80--90", "allow * -> *;1234567890", "allow * -> *;0-1234567890", "allow * -> *;80 -90", "allow * -> *;80:90", "allow * -> *;0-0",
	"allow * -> * proto", "allow * -> * proto ", "allow * -> * proto 0", "allow * -> * proto -0", "allow * -> * proto 06", "allow * -> * proto +6", "allow * -> * proto tcp", "allow * -> * proto 1234567890", "allow * -> * proto -1234567890", "allow * -> * proto 6 ", "allow * -> * proto 6 7", "allow * -> * proto 6 proto 6", "allow * -> * proto  6", "allow * -> * Proto 6", "allow * -> * 6", "allow * -> * proto 6,17",
	"allow * -> * if", "allow * -> * if ", "allow * -> * if ,", "allow * -> * if p,", "allow * -> * if ,p", "allow * -> * if p,,q", "allow * -> * if p;q", "allow * -> * if ;", "allow * -> * if p q", "allow * -> * if p if q", "allow * -> * if p proto 6", "allow * -> * proto 6 if", "allow * -> * proto if p", "allow * -> * If p",
	"accept", "accept 6", "accept 6 10.0.0.1 10.0.0.2 1", "accept 6 10.0.0.1 10.0.0.2 1 2 3", "accept 6 10.0.0.1 10.0.0.2 1 2 ", "accept  6 10.0.0.1 10.0.0.2 1 2", "accept 06 10.0.0.1 10.0.0.2 1 2", "accept tcp 10.0.0.1 10.0.0.2 1 2", "accept 6 10.0.0.01 10.0.0.2 1 2", "accept 6 10.0.0.1 10.0.0 1 2", "accept 6 ::0 ::1 1 2", "accept 6 ::1 ::A 1 2", "accept 6 10.0.0.1 10.0.0.2 -0 2", "accept 6 10.0.0.1 10.0.0.2 1 02", "accept 6 10.0.0.1 10.0.0.2 1 +2", "accept 6 10.0.0.1 10.0.0.2 a 2", "accept 6 10.0.0.1 10.0.0.2 1 1234567890", "accept 1234567890 10.0.0.1 10.0.0.2 1 2", "deny", "deny 6 10.0.0.1 10.0.0.2 1", "Deny 6 10.0.0.1 10.0.0.2 1 2", "reject 6 10.0.0.1 10.0.0.2 1 2",
}

// P3.6, Z3: the number is that of the first line that has none of the forms, ahead of what CheckPolicy says.
func TestNoLines(t *testing.T) {
	for _, line := range noLines {
		is(t, line, all(rule.Read(line+"\n")), all(api.Policy{}, 0, api.ErrSyntax))
		is(t, line, all(rule.Read("group A\nhost B ::/0\n"+line+"\nx\n")), all(api.Policy{}, 2, api.ErrSyntax))
		is(t, line, all(rule.Read(example+line+"\n")), all(api.Policy{}, 11, api.ErrSyntax))
	}
	for _, s := range []string{"x", "group a", "group a\nallow * -> *", example[:len(example)-1], example + "deny 1 ::1 ::2 0 0"} {
		is(t, "not ended", all(rule.Read(s)), all(api.Policy{}, strings.Count(s, "\n"), api.ErrSyntax))
	}
}

// P3.6: lines come by their kinds.
func TestOrderOfLines(t *testing.T) {
	kinds := [][]string{{"group a\n", "group b ann\n"}, {"host a ::/0\n", "host b ::/0\n"}, {"allow * -> *\n", "allow * -> *\n"}, {"accept 1 ::1 ::2 0 0\n", "deny 1 ::1 ::2 0 0\n"}}
	for i, ahead := range kinds {
		for k, behind := range kinds {
			text := ahead[0] + behind[1]
			_, n, e := rule.Read(text)
			if k < i {
				is(t, text, all(n, e), all(1, api.ErrSyntax))
				is(t, text, all(rule.Read(ahead[0]+ahead[1]+behind[0]+"x\n")), all(api.Policy{}, 2, api.ErrSyntax))
			} else {
				is(t, text, all(n, e), all(0, api.OK))
			}
		}
	}
	is(t, "back again", all(rule.Read("group a\nallow * -> *\ngroup b\n")), all(api.Policy{}, 2, api.ErrSyntax))
	is(t, "deny, then accept", all(rule.Read("deny 1 ::1 ::2 0 0\naccept 1 ::1 ::2 0 0\nallow * -> *\n")), all(api.Policy{}, 2, api.ErrSyntax))
}

// P3.6: lines that have the forms can still be no policy; this comes behind all forms.
func TestReadChecks(t *testing.T) {
	for _, c := range []struct {
		text string
		e    api.Errno
	}{
		{"group A", api.ErrName}, {"group a,b", api.ErrName}, {"group a; group a", api.ErrOrder}, {"group a A", api.ErrName}, {"group a b,c", api.ErrName}, {"group a b b", api.ErrTwice}, {"group a @b", api.ErrNone}, {"group a @a", api.ErrLoop}, {"group a @b; group b @a", api.ErrLoop},
		{"host A ::/0", api.ErrName}, {"host b ::/0; host a ::/0", api.ErrOrder},
		{"allow user:A -> *", api.ErrName}, {"allow user:a:b -> *", api.ErrName}, {"allow tag:* -> *", api.ErrName}, {"allow node:-> -> *", api.ErrName}, {"allow node:\t -> *", api.ErrName}, {"allow node:é -> *", api.ErrName}, {"allow group:x -> *", api.ErrNone}, {"allow host:x -> *", api.ErrNone}, {"allow host:x -> *; accept 0 ::1 ::2 0 0", api.ErrNone},
		{"allow self -> *", api.ErrKind}, {"allow *,self -> *", api.ErrKind}, {"allow * -> *;65536", api.ErrArg}, {"allow * -> *;999999999", api.ErrArg}, {"allow * -> *;90-80", api.ErrArg}, {"allow * -> *;0-65536", api.ErrArg}, {"allow * -> *;1-0", api.ErrArg},
		{"allow * -> * proto -1", api.ErrArg}, {"allow * -> * proto -999999999", api.ErrArg}, {"allow * -> * proto 256", api.ErrArg}, {"allow * -> *;80 proto 1", api.ErrRule}, {"allow * -> *;80 proto 256", api.ErrArg},
		{"allow * -> * if P", api.ErrName}, {"allow * -> * if q,p", api.ErrOrder}, {"allow * -> * if p,p", api.ErrOrder}, {"allow * -> * if p:q", api.ErrName},
		{"accept 0 ::1 ::2 0 0", api.ErrArg}, {"accept -6 ::1 ::2 0 0", api.ErrArg}, {"accept 256 ::1 ::2 0 0", api.ErrArg}, {"deny 6 ::1 10.0.0.1 0 0", api.ErrType}, {"deny 6 ::1 ::2 -1 0", api.ErrArg}, {"deny 6 ::1 ::2 0 -999999999", api.ErrArg}, {"deny 6 ::1 ::2 0 65536", api.ErrArg}, {"deny 1 ::1 ::2 0 1", api.ErrArg},
		{"allow " + strings.Repeat("*,", api.MaxWhats) + "* -> *", api.ErrLarge}, {"allow * -> " + strings.Repeat("*,", api.MaxWhats) + "*", api.ErrLarge}, {"allow * -> * if " + strings.Join(keys(api.MaxWhats+1), ","), api.ErrLarge},
		{"group a " + strings.Join(keys(api.MaxMembers+1), " "), api.ErrLarge},
		{strings.Repeat("group a; ", api.MaxGroups) + "group a", api.ErrLarge}, {strings.Repeat("host a ::/0; ", api.MaxHosts) + "host a ::/0", api.ErrLarge}, {strings.Repeat("allow * -> *; ", api.MaxRules) + "allow * -> *", api.ErrLarge}, {strings.Repeat("deny 1 ::1 ::2 0 0; ", api.MaxTests) + "deny 1 ::1 ::2 0 0", api.ErrLarge},
	} {
		is(t, c.text, all(rule.Read(lines(c.text))), all(api.Policy{}, 0, c.e))
		n := strings.Count(lines(c.text), "\n")
		is(t, c.text+", behind a line", all(rule.Read(lines(c.text)+"x\n")), all(api.Policy{}, n, api.ErrSyntax))
	}
}

// P3.6: as much text as can be, and a byte more.
func TestLongTexts(t *testing.T) {
	member := func(i, long int) string { return key(i) + strings.Repeat("m", long-len(key(i))) }
	p := api.Policy{Groups: repeat(api.MaxGroups, func(i int) api.Group { // 3983 bytes each
		return api.Group{Name: member(i, api.MaxName), Members: repeat(96, func(k int) string { return member(k, api.MaxName) })}
	})}
	for i := range 20 { // 41 bytes each
		p.Groups[i].Members = append(p.Groups[i].Members, member(96, api.MaxName))
	}
	p.Groups[20].Members = append(p.Groups[20].Members, member(96, 29)) // 30 bytes
	text, e := rule.Text(p)
	is(t, "Text", all(len(text), e), all(api.MaxText, api.OK))
	is(t, "Read", all(rule.Read(text)), all(p, 0, api.OK))
	is(t, "Read", all(rule.Read(text+"x")), all(api.Policy{}, 0, api.ErrLarge))
	is(t, "Read", all(rule.Read("x\n"+text)), all(api.Policy{}, 0, api.ErrLarge))
	p.Groups[20].Members[96] = member(96, 30)
	is(t, "Text", all(rule.Text(p)), all("", api.ErrLarge))
	p.Tests = make([]api.Test, 1)
	is(t, "CheckPolicy, ahead of a long text", all(rule.Text(p)), all("", api.ErrArg))
}

// P3.6, Z10: what is written is read to an equal value, and nothing else is read.
func TestWritersAndReaders(t *testing.T) {
	r := chance{rand.New(rand.NewSource(6))}
	signs := []byte("0123456789abchinpq,;:-@/.*> \n_A")
	read, other := 0, 0
	for range 5_000 {
		p := r.policy()
		s, e := rule.Text(p)
		is(t, "Text", e, api.OK)
		is(t, "Read", all(rule.Read(s)), all(p, 0, api.OK))
		b := []byte(s)
		for len(b) > 0 && r.Intn(2) > 0 {
			b[r.Intn(len(b))] = signs[r.Intn(len(signs))]
		}
		if x, _, e := rule.Read(string(b)); e == api.OK {
			is(t, "Text", all(rule.Text(x)), all(string(b), api.OK))
			read++
		} else {
			other++
		}
	}
	if read < 1_000 || other < 1_000 {
		t.Errorf("%d are read, %d are not", read, other)
	}
}
