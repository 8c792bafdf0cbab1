// Package addr keeps addresses, prefixes, sets, tables and pools.
package addr

import (
	"holloway/api"
	"holloway/span"
)

// CheckAddr validates an address.
func CheckAddr(a api.Addr) api.Errno {
	if !a.Six && (a.Hi != 0 || a.Lo >= 1<<32) {
		return api.ErrForm
	}
	return api.OK
}

// Compare orders addresses.
func Compare(a, b api.Addr) int { return span.Compare(a, b) }
