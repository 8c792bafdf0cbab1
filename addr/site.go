package addr

import (
	"holloway/api"
)

const (
	siteHi    = 0xfd006c616e650000 // the first 64 bits of all addresses of sites
	siteAhead = 96                 // bits ahead of an address of 32 bits
)

// Via is a prefix of a site as one of 128 bits.
func Via(site int, p api.Prefix) (api.Prefix, api.Errno) {
	if site < 0 || site > api.MaxSite {
		return api.Prefix{}, api.ErrArg
	}
	if e := CheckPrefix(p); e != api.OK {
		return api.Prefix{}, e
	}
	if p.Addr.Six {
		return api.Prefix{}, api.ErrType
	}
	a := api.Addr{Six: true, Hi: siteHi, Lo: uint64(site)<<32 | p.Addr.Lo}
	return api.Prefix{Addr: a, Bits: siteAhead + p.Bits}, api.OK
}

// Site is the site and the prefix of which a prefix was made.
func Site(p api.Prefix) (int, api.Prefix, api.Errno) {
	if e := CheckPrefix(p); e != api.OK {
		return 0, api.Prefix{}, e
	}
	site := p.Addr.Lo >> 32
	if !p.Addr.Six || p.Addr.Hi != siteHi || p.Bits < siteAhead || site > api.MaxSite {
		return 0, api.Prefix{}, api.ErrNone
	}
	a := api.Addr{Lo: p.Addr.Lo & 0xffffffff}
	return int(site), api.Prefix{Addr: a, Bits: p.Bits - siteAhead}, api.OK
}
