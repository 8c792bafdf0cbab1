package whats

import (
	"reflect"
	"slices"
	"testing"

	"holloway/api"
	"holloway/rule"
	"holloway/span"
)

// aScene has nodes, groups and hosts; it stops the test if its policy is wrong.
func aScene() api.Scene {
	p, _, e := rule.Read("group a ann @b\ngroup b bob\nhost h 10.0.0.0/8\nallow group:a,host:h -> *\n")
	if e != api.OK {
		panic(e)
	}
	return api.Scene{Policy: p, Nodes: []api.Node{
		{Key: "m", Name: "m", User: "ann", Addrs: []api.Addr{{Lo: 7}, {Lo: 6}}},
		{Key: "n", Name: "n", User: "bob", Addrs: []api.Addr{{Lo: 9}, {Six: true}}},
		{Key: "o", Name: "o", Tags: []string{"web"}, Addrs: []api.Addr{{Lo: 8}}},
	}}
}

// P3.3, P4.2, P8.1: what is looked up is what chapter 3 says of the whole scene.
func TestAddresses(t *testing.T) {
	s := aScene()
	addresses := Addresses(s)
	for _, c := range []struct {
		what   api.What
		ranges int
	}{
		{api.What{Kind: api.WhatAll}, 2},
		{api.What{Kind: api.WhatUser, Name: "ann"}, 1},
		{api.What{Kind: api.WhatUser, Name: "zed"}, 0},
		{api.What{Kind: api.WhatGroup, Name: "a"}, 3},
		{api.What{Kind: api.WhatGroup, Name: "b"}, 2},
		{api.What{Kind: api.WhatTag, Name: "web"}, 1},
		{api.What{Kind: api.WhatNode, Name: "n"}, 2},
		{api.What{Kind: api.WhatHost, Name: "h"}, 1},
		{api.What{Kind: api.WhatNet, Net: api.Prefix{Addr: api.Addr{Six: true}, Bits: 8}}, 1},
		{api.What{Kind: api.WhatMember}, 3},
		{api.What{Kind: api.WhatTagged}, 1},
		{api.What{Kind: api.WhatSelf}, 0},
	} {
		set, e := rule.Addresses(s, c.what)
		want := span.Of(set)
		for range 2 {
			if got := addresses(c.what); e != api.OK || len(got) != c.ranges || !slices.Equal(got, want) {
				t.Errorf("%v: %v, not %v (%v)", c.what, got, want, e)
			}
		}
	}
}

// P3.3: sets can have more than MaxSet prefixes.
func TestManyAddresses(t *testing.T) {
	var s api.Scene
	for i := range api.MaxNodes {
		key := "k" + string([]byte{byte('a' + i/100), byte('a' + i/10%10), byte('a' + i%10)})
		n := api.Node{Key: key, Name: key, User: "ann"}
		for k := range api.MaxAddrs {
			n.Addrs = append(n.Addrs, api.Addr{Lo: uint64(2 * (i*api.MaxAddrs + k))})
		}
		s.Nodes = append(s.Nodes, n)
	}
	got := Addresses(s)(api.What{Kind: api.WhatUser, Name: "ann"})
	if rule.Check(s) != api.OK || len(got) != api.MaxNodes*api.MaxAddrs {
		t.Errorf("%d ranges, %v", len(got), rule.Check(s))
	}
}

// P4.2, P8.1: each what is asked for once, also if there is nothing.
func TestOnce(t *testing.T) {
	var asked []string
	once := Once(func(w api.What) []api.Range {
		asked = append(asked, w.Name)
		if w.Name == "none" {
			return nil
		}
		return []api.Range{{Last: api.Addr{Lo: uint64(len(w.Name))}}}
	})
	for range 3 {
		for _, name := range []string{"a", "none", "bb"} {
			got, want := once(api.What{Name: name}), len(name)
			if name == "none" && len(got) != 0 || name != "none" && got[0].Last.Lo != uint64(want) {
				t.Errorf("%s: %v", name, got)
			}
		}
	}
	if want := []string{"a", "none", "bb"}; !reflect.DeepEqual(asked, want) {
		t.Errorf("asked for %v", asked)
	}
}
