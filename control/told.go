package control

import (
	"cmp"

	"holloway/api"
	"holloway/checks"
	"holloway/netmap"
)

// worldsAt are the worlds of a book that is right at some moments that rise.
func worldsAt(b api.Book, moments []int) ([]api.World, api.Errno) {
	worlds := worldsOf(b)
	var out []api.World
	for _, at := range moments {
		w, _, e := worlds(at)
		if e != api.OK {
			return nil, e
		}
		out = append(out, w)
	}
	return out, api.OK
}

// polls are the updates of a node that polls a server, which gets one world after the other, at each one.
func polls(worlds []api.World, key string) []api.Update {
	var out []api.Update
	var server *netmap.Server
	version := 0
	for i, w := range worlds {
		if i == 0 {
			server, _ = netmap.NewServer(w, api.MaxKept)
		} else {
			server.Change(w)
		}
		u, e := server.Poll(key, version)
		if e == api.OK {
			version = u.Version
		}
		out = append(out, u)
	}
	return out
}

// Told is what a node is told that asks at some moments.
func Told(b api.Book, key string, moments []int) ([]api.Update, api.Errno) {
	rising := checks.Rising(moments, api.MaxMoments, checks.Moment, cmp.Compare[int])
	if e := cmp.Or(CheckBook(b), checks.Key(key), rising); e != api.OK {
		return nil, e
	}
	worlds, e := worldsAt(b, moments)
	if e != api.OK {
		return nil, e
	}
	return polls(worlds, key), api.OK
}
