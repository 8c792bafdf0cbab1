package name

import (
	"cmp"

	"holloway/api"
	"holloway/checks"
)

// A finder has what a zone says, by names.
type finder struct {
	root    string
	records map[string][]api.Record // by their Names
	there   map[string]bool
}

// finderOf is the finder of a zone that is right.
func finderOf(z api.Zone) *finder {
	f := &finder{root: z.Root, records: map[string][]api.Record{}, there: map[string]bool{}}
	for _, r := range z.Records {
		f.records[r.Name] = append(f.records[r.Name], r)
		for ending := range endings(bare(r.Name)) {
			// With a name all of its endings were noted.
			if f.there[ending] {
				break
			}
			f.there[ending] = true
		}
	}
	return f
}

// at are the records at a name that is under the root.
func (f *finder) at(name string) []api.Record {
	if f.there[name] {
		return f.records[name]
	}
	for ending := range endings(name) {
		if f.there[ending] || ending == f.root {
			return renamed(f.records[wild+ending], name)
		}
	}
	return nil
}

// renamed are records with another name.
func renamed(l []api.Record, name string) []api.Record {
	var out []api.Record
	for _, r := range l {
		r.Name = name
		out = append(out, r)
	}
	return out
}

// find is Find, for a name that is under the root, and a kind that there is.
func (f *finder) find(name string, kind int) ([]api.Record, api.Errno) {
	if !f.there[name] && len(f.at(name)) == 0 {
		return nil, api.ErrNone
	}
	var out []api.Record
	for aliases := 0; isUnder(name, f.root); aliases++ {
		here := f.at(name)
		if got := ofKind(here, kind); len(got) > 0 {
			return append(out, got...), api.OK
		}
		alias := ofKind(here, api.RecordAlias)
		if len(alias) == 0 {
			break
		}
		if aliases == api.MaxChain {
			return nil, api.ErrLoop
		}
		out = append(out, alias...)
		name = alias[0].To
	}
	return out, api.OK
}

// Find finds the records of a kind at a name.
func Find(z api.Zone, name string, kind int) ([]api.Record, api.Errno) {
	if e := cmp.Or(CheckZone(z), CheckDomain(name), checkKind(kind)); e != api.OK {
		return nil, e
	}
	if e := checks.Need(isUnder(name, z.Root), api.ErrRule); e != api.OK {
		return nil, e
	}
	return finderOf(z).find(name, kind)
}
