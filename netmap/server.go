package netmap

import (
	"cmp"
	"slices"

	"holloway/api"
	"holloway/checks"
	"holloway/lists"
)

// Server keeps versions of a world.
type Server struct {
	keep, version int
	worlds        []api.World // the versions that are kept; the last one is at the end
}

// NewServer makes a server with a world.
func NewServer(w api.World, keep int) (*Server, api.Errno) {
	if e := cmp.Or(CheckWorld(w), checks.Number(keep, 1, api.MaxKept)); e != api.OK {
		return nil, e
	}
	s := &Server{keep: keep}
	s.put(w)
	return s, api.OK
}

// put makes a world that is right the next version.
func (s *Server) put(w api.World) {
	s.version++
	s.worlds = append(s.worlds, cloneWorld(w))
	if len(s.worlds) > s.keep {
		s.worlds = slices.Delete(s.worlds, 0, 1)
	}
}

// Change gives a server another world.
func (s *Server) Change(w api.World) (int, api.Errno) {
	if e := CheckWorld(w); e != api.OK {
		return 0, e
	}
	s.put(w)
	return s.version, api.OK
}

// Version is the last version.
func (s *Server) Version() int { return s.version }

// checkVersion is what is wrong with a version that somebody has.
func (s *Server) checkVersion(version int) api.Errno { return checks.Number(version, 0, s.version) }

// behind is how many kept versions come behind one that is right; -1 if it is not kept.
func (s *Server) behind(version int) int {
	n := s.version - version
	if n >= len(s.worlds) {
		return -1
	}
	return n
}

// mapAt is the map of a node that it had with a version, if this is kept and the node had one.
func (s *Server) mapAt(version int, node string) (api.Map, bool) {
	n := s.behind(version)
	if n < 0 {
		return api.Map{}, false
	}
	m, e := mapOf(s.worlds[len(s.worlds)-1-n], node)
	return m, e == api.OK
}

// Poll tells a node what to do.
func (s *Server) Poll(node string, version int) (api.Update, api.Errno) {
	if e := cmp.Or(checks.Key(node), s.checkVersion(version)); e != api.OK {
		return api.Update{}, e
	}
	now, e := mapOf(s.worlds[len(s.worlds)-1], node)
	if e != api.OK {
		return api.Update{}, e
	}
	if old, is := s.mapAt(version, node); is {
		return api.Update{Version: s.version, Patch: between(old, now)}, api.OK
	}
	return api.Update{Version: s.version, Whole: true, Map: now}, api.OK
}

// Behind is how many kept versions come behind others.
func (s *Server) Behind(versions []int) ([]int, api.Errno) {
	if e := checks.Each(versions, api.MaxPollers, s.checkVersion); e != api.OK {
		return nil, e
	}
	return lists.Map(versions, s.behind), api.OK
}

// Take is the map that a node has after an update.
func Take(m api.Map, have int, u api.Update) (api.Map, int, api.Errno) {
	if u.Version < have {
		return api.Map{}, 0, api.ErrOrder
	}
	if u.Whole {
		if e := CheckMap(u.Map); e != api.OK {
			return api.Map{}, 0, e
		}
		return cloneMap(u.Map), u.Version, api.OK
	}
	out, e := Apply(m, u.Patch)
	if e != api.OK {
		return api.Map{}, 0, e
	}
	return out, u.Version, api.OK
}
