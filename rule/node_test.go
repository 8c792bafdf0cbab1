package rule_test

import (
	"testing"

	"holloway/api"
	"holloway/rule"
)

// full are as many nodes as there can be, each with as much as it can have.
func full() []api.Node {
	return repeat(api.MaxNodes, func(i int) api.Node {
		n := api.Node{Key: key(i), Name: longKey, Tags: keys(api.MaxTags)}
		if i%2 == 0 {
			n.Tags, n.User = nil, longKey
		}
		n.Addrs = repeat(api.MaxAddrs, func(k int) api.Addr { return api.Addr{Six: k%2 == 0, Lo: uint64(api.MaxAddrs*i + k)} })
		n.Routes = repeat(api.MaxRoutes, func(k int) api.Prefix { return api.Prefix{Addr: api.Addr{Six: k%2 == 0}, Bits: k} })
		return n
	})
}

// P3.1
func TestRightNodes(t *testing.T) {
	for _, l := range [][]api.Node{nil, full(), nodes(people), nodes("a a; a- a; a0 a; a_ a; aa #a,a-,a0,a_,aa,b")} {
		is(t, "CheckNodes", rule.CheckNodes(l), api.OK)
	}
	same := nodes("a ann; b ann; c #web; d #web")
	for i := range same {
		same[i].Name, same[i].Routes = "name", nets("10.0.0.0/8 10.0.0.0/9 0.0.0.0/0 ::/0")
	}
	is(t, "names, users, tags and routes come again", rule.CheckNodes(same), api.OK)
}

// nodeBreaks make the third node of some wrong, in the order in which it is told.
var nodeBreaks = []struct {
	name string
	do   func(n *api.Node)
	e    api.Errno
}{
	{"Key", func(n *api.Node) { n.Key = "C" }, api.ErrName},
	{"no Key", func(n *api.Node) { n.Key = "" }, api.ErrName},
	{"Name", func(n *api.Node) { n.Name = "a b" }, api.ErrName},
	{"no Name", func(n *api.Node) { n.Name = "" }, api.ErrName},
	{"Key falls", func(n *api.Node) { n.Key = "aa" }, api.ErrOrder},
	{"Key again", func(n *api.Node) { n.Key = "b" }, api.ErrOrder},
	{"User", func(n *api.Node) { n.User = "Ann" }, api.ErrName},
	{"Tags", func(n *api.Node) { n.User, n.Tags = "", keys(api.MaxTags+1) }, api.ErrLarge},
	{"Tags, wrong ones", func(n *api.Node) { n.Tags = make([]string, api.MaxTags+1) }, api.ErrLarge},
	{"a tag", func(n *api.Node) { n.User, n.Tags = "", words("web Db") }, api.ErrName},
	{"an empty tag", func(n *api.Node) { n.User, n.Tags = "", []string{""} }, api.ErrName},
	{"tags fall", func(n *api.Node) { n.User, n.Tags = "", words("web db") }, api.ErrOrder},
	{"a tag again", func(n *api.Node) { n.Tags = words("web web") }, api.ErrOrder},
	{"tags fall, ahead of a wrong one", func(n *api.Node) { n.Tags = words("web db Db") }, api.ErrOrder},
	{"a user and tags", func(n *api.Node) { n.User, n.Tags = "ann", words("web") }, api.ErrForm},
	{"neither a user nor tags", func(n *api.Node) { n.User, n.Tags = "", nil }, api.ErrForm},
	{"Addrs", func(n *api.Node) { n.User, n.Addrs = "ann", make([]api.Addr, api.MaxAddrs+1) }, api.ErrLarge},
	{"no address", func(n *api.Node) { n.Addrs = []api.Addr{{Lo: 9}, {Hi: 1}} }, api.ErrForm},
	{"a long address", func(n *api.Node) { n.Addrs = []api.Addr{{Lo: 1 << 32}, ip("100.64.0.1")} }, api.ErrForm},
	{"an address of another node", func(n *api.Node) { n.Addrs = []api.Addr{{Lo: 9}, ip("100.64.0.1")} }, api.ErrTwice},
	{"an address again", func(n *api.Node) { n.Addrs = []api.Addr{{Lo: 9}, {Lo: 8}, {Lo: 9}, {Hi: 1}} }, api.ErrTwice},
	{"Routes", func(n *api.Node) { n.Addrs, n.Routes = nil, make([]api.Prefix, api.MaxRoutes+1) }, api.ErrLarge},
	{"no route", func(n *api.Node) { n.Routes = []api.Prefix{{Addr: api.Addr{Lo: 1}, Bits: 8}} }, api.ErrForm},
	{"bits of a route", func(n *api.Node) { n.Routes = []api.Prefix{{Bits: 33}} }, api.ErrArg},
	{"an address of a route", func(n *api.Node) { n.Routes = []api.Prefix{{Addr: api.Addr{Hi: 1}}} }, api.ErrForm},
	{"a route again", func(n *api.Node) { n.Routes = append(nets("10.0.0.0/8 10.0.0.0/9 10.0.0.0/8"), api.Prefix{Bits: -1}) }, api.ErrTwice},
}

// P3.1, Z4: each error alone, and ahead of all that come behind it.
func TestWrongNodes(t *testing.T) {
	ahead := nodes("a ann 100.64.0.1; b bob 100.64.0.2; c ann 100.64.0.3; d dan 100.64.0.4")
	for i := len(nodeBreaks) - 1; i >= 0; i-- {
		b := nodeBreaks[i]
		alone := nodes("a ann 100.64.0.1; b bob 100.64.0.2; c ann 100.64.0.3; d dan 100.64.0.4")
		b.do(&alone[2])
		is(t, b.name, rule.CheckNodes(alone), b.e)
		is(t, b.name, rule.CheckFacts(alone, make([]api.Fact, api.MaxFacts+1)), b.e)
		b.do(&ahead[2])
		ahead[3] = api.Node{}
		is(t, b.name+", ahead", rule.CheckNodes(ahead), b.e)
	}
	is(t, "too many", rule.CheckNodes(append(full(), api.Node{Key: "z", Name: "z", User: "z"})), api.ErrLarge)
	is(t, "too many wrong ones", rule.CheckNodes(make([]api.Node, api.MaxNodes+1)), api.ErrLarge)
	for _, s := range notKeys {
		is(t, "Key "+s, rule.CheckNodes([]api.Node{{Key: s, Name: "a", User: "a"}}), api.ErrName)
		is(t, "Name "+s, rule.CheckNodes([]api.Node{{Key: "a", Name: s, User: "a"}}), api.ErrName)
		is(t, "Tag "+s, rule.CheckNodes([]api.Node{{Key: "a", Name: "a", Tags: []string{s}}}), api.ErrName)
		if s != "" {
			is(t, "User "+s, rule.CheckNodes([]api.Node{{Key: "a", Name: "a", User: s}}), api.ErrName)
		}
	}
}

// P3.1
func TestCheckFacts(t *testing.T) {
	l := nodes(people)
	many := repeat(api.MaxFacts, func(i int) api.Fact { return api.Fact{Node: "a", Posture: key(i)} })
	for _, c := range []struct {
		name string
		l    []api.Fact
		e    api.Errno
	}{
		{"none", nil, api.OK},
		{"by nodes, then by postures", facts("a/p a/q b/a b/p d/" + longKey), api.OK},
		{"as many as there can be", many, api.OK},
		{"too many", append(many, api.Fact{Node: "b", Posture: "p"}), api.ErrLarge},
		{"too many wrong ones", make([]api.Fact, api.MaxFacts+1), api.ErrLarge},
		{"no such node", facts("a/p z/p"), api.ErrNone},
		{"an empty node", facts("/p"), api.ErrNone},
		{"no node, ahead of a name", facts("z/P"), api.ErrNone},
		{"no node, ahead of the order", facts("b/p aa/p"), api.ErrNone},
		{"a name", facts("a/P"), api.ErrName},
		{"an empty name", facts("a/"), api.ErrName},
		{"a name, ahead of the order", facts("b/p a/P"), api.ErrName},
		{"a name, ahead of a later node", facts("a/P z/p"), api.ErrName},
		{"nodes fall", facts("b/p a/q"), api.ErrOrder},
		{"postures fall", facts("a/q a/p"), api.ErrOrder},
		{"a fact again", facts("a/p a/p"), api.ErrOrder},
		{"the order, ahead of a later node", facts("a/q a/p z/p"), api.ErrOrder},
	} {
		is(t, c.name, rule.CheckFacts(l, c.l), c.e)
		is(t, c.name, rule.Check(api.Scene{Nodes: l, Facts: c.l}), c.e)
	}
	is(t, "without nodes", rule.CheckFacts(nil, facts("a/p")), api.ErrNone)
	for _, s := range notKeys {
		is(t, "Posture "+s, rule.CheckFacts(l, []api.Fact{{Node: "a", Posture: s}}), api.ErrName)
	}
}
