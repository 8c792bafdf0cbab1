package values

import (
	"slices"

	"holloway/api"
	"holloway/lists"
)

func copyOwner(o api.Owner) api.Owner {
	o.Users = slices.Clone(o.Users)
	return o
}

func sameOwner(x, y api.Owner) bool { return x.Tag == y.Tag && slices.Equal(x.Users, y.Users) }

func copyDirectory(d api.Directory) api.Directory {
	d.Users, d.Owners = slices.Clone(d.Users), lists.Map(d.Owners, copyOwner)
	return d
}

func sameDirectory(x, y api.Directory) bool {
	people := slices.Equal(x.Users, y.Users) && slices.EqualFunc(x.Owners, y.Owners, sameOwner)
	return people && x.Life == y.Life && x.Approve == y.Approve
}

func copyCond(c api.Cond) api.Cond {
	c.Kids = lists.Map(c.Kids, copyCond)
	return c
}

func sameCond(x, y api.Cond) bool {
	own := x.Kind == y.Kind && x.Name == y.Name && x.Op == y.Op && x.Value == y.Value
	return own && slices.EqualFunc(x.Kids, y.Kids, sameCond)
}

func copyPosture(p api.Posture) api.Posture {
	p.Cond = copyCond(p.Cond)
	return p
}

func samePosture(x, y api.Posture) bool { return x.Key == y.Key && sameCond(x.Cond, y.Cond) }

func copyAccess(a api.Access) api.Access {
	a.Approvers = slices.Clone(a.Approvers)
	return a
}

func sameAccess(x, y api.Access) bool {
	numbers := x.Need == y.Need && x.Wait == y.Wait && x.Most == y.Most
	return numbers && x.Posture == y.Posture && slices.Equal(x.Approvers, y.Approvers)
}

func copyPlace(p api.Place) api.Place {
	p.Addrs, p.Routes = slices.Clone(p.Addrs), slices.Clone(p.Routes)
	return p
}

func samePlace(x, y api.Place) bool {
	return x.Node == y.Node && slices.Equal(x.Addrs, y.Addrs) && slices.Equal(x.Routes, y.Routes)
}

// CopySetting is a setting in memory of its own.
func CopySetting(s api.Setting) api.Setting {
	s.Directory, s.Policy = copyDirectory(s.Directory), CopyPolicy(s.Policy)
	s.Postures, s.Access = lists.Map(s.Postures, copyPosture), lists.Map(s.Access, copyAccess)
	s.Routers, s.Places = slices.Clone(s.Routers), lists.Map(s.Places, copyPlace)
	return s
}

// SameSetting says whether two settings are the same.
func SameSetting(x, y api.Setting) bool {
	rules := sameDirectory(x.Directory, y.Directory) && SamePolicy(x.Policy, y.Policy)
	given := slices.EqualFunc(x.Postures, y.Postures, samePosture) && slices.EqualFunc(x.Access, y.Access, sameAccess)
	where := slices.Equal(x.Routers, y.Routers) && slices.EqualFunc(x.Places, y.Places, samePlace)
	return rules && given && where && x.Suffix == y.Suffix && x.Fresh == y.Fresh
}

// CopyStep is a step in memory of its own.
func CopyStep(s api.Step) api.Step {
	s.Tags = slices.Clone(s.Tags)
	return s
}
