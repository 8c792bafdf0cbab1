package addr

import (
	"slices"
	"strconv"
	"strings"

	"holloway/api"
	"holloway/notation"
)

// Text writes an address.
func Text(a api.Addr) (string, api.Errno) {
	if e := CheckAddr(a); e != api.OK {
		return "", e
	}
	if a.Six {
		return textOfGroups(groupsOf(a)), api.OK
	}
	return textOfBytes(a.Lo), api.OK
}

// textOfBytes writes an address of 32 bits.
func textOfBytes(n uint64) string {
	var parts []string
	for shift := 24; shift >= 0; shift -= 8 {
		parts = append(parts, strconv.FormatUint(n>>shift&0xff, 10))
	}
	return strings.Join(parts, ".")
}

// groupsOf are the eight groups of an address of 128 bits.
func groupsOf(a api.Addr) []uint64 {
	var out []uint64
	for _, half := range [2]uint64{a.Hi, a.Lo} {
		for shift := 48; shift >= 0; shift -= 16 {
			out = append(out, half>>shift&0xffff)
		}
	}
	return out
}

// textOfGroups writes an address of 128 bits.
func textOfGroups(groups []uint64) string {
	at, n := longestZeros(groups)
	if n < 2 {
		return joinGroups(groups)
	}
	return joinGroups(groups[:at]) + "::" + joinGroups(groups[at+n:])
}

// longestZeros is where the longest row of groups that are 0 begins (of several the first one), and how many these are.
func longestZeros(groups []uint64) (at, n int) {
	for i := range groups {
		k := 0
		for i+k < len(groups) && groups[i+k] == 0 {
			k++
		}
		if k > n {
			at, n = i, k
		}
	}
	return at, n
}

func joinGroups(groups []uint64) string {
	var parts []string
	for _, g := range groups {
		parts = append(parts, strconv.FormatUint(g, 16))
	}
	return strings.Join(parts, ":")
}

// Parse reads an address.
func Parse(s string) (api.Addr, api.Errno) {
	a, e := Loose(s)
	if e != api.OK {
		return api.Addr{}, e
	}
	if text, _ := Text(a); text != s {
		return api.Addr{}, api.ErrSyntax
	}
	return a, api.OK
}

// Loose reads an address in a looser way.
func Loose(s string) (api.Addr, api.Errno) {
	if !strings.Contains(s, ":") {
		n, ok := readBytes(s)
		if !ok {
			return api.Addr{}, api.ErrSyntax
		}
		return api.Addr{Lo: n}, api.OK
	}
	groups, ok := readGroups(s)
	if !ok {
		return api.Addr{}, api.ErrSyntax
	}
	a := api.Addr{Six: true}
	for i := range 4 {
		a.Hi = a.Hi<<16 | groups[i]
		a.Lo = a.Lo<<16 | groups[i+4]
	}
	return a, api.OK
}

// readBytes reads four numbers with points between as one number.
func readBytes(s string) (uint64, bool) {
	parts := strings.Split(s, ".")
	if len(parts) != 4 {
		return 0, false
	}
	var out uint64
	for _, part := range parts {
		n, ok := notation.Number(part, 3)
		if !ok || n > 255 {
			return 0, false
		}
		out = out<<8 | uint64(n)
	}
	return out, true
}

// readGroups reads the eight groups of an address of 128 bits.
func readGroups(s string) ([]uint64, bool) {
	ahead, behind, short := strings.Cut(s, "::")
	if !short {
		groups, ok := readRow(s, true)
		return groups, ok && len(groups) == 8
	}
	first, ok := readRow(ahead, false)
	if !ok {
		return nil, false
	}
	last, ok := readRow(behind, true)
	if !ok || len(first)+len(last) > 7 {
		return nil, false
	}
	zeros := make([]uint64, 8-len(first)-len(last))
	return slices.Concat(first, zeros, last), true
}

// readRow reads groups with `:` between, none of an empty string; four numbers can stand for two of them only at the end of an address.
func readRow(s string, atEnd bool) ([]uint64, bool) {
	if s == "" {
		return nil, true
	}
	var out []uint64
	parts := strings.Split(s, ":")
	for i, part := range parts {
		if n, ok := readBytes(part); ok && atEnd && i == len(parts)-1 {
			out = append(out, n>>16, n&0xffff)
			continue
		}
		g, ok := readGroup(part)
		if !ok {
			return nil, false
		}
		out = append(out, g)
	}
	return out, true
}

// readGroup reads 1 to 4 digits of hexadecimal.
func readGroup(s string) (uint64, bool) {
	n, err := strconv.ParseUint(s, 16, 16)
	return n, err == nil && len(s) <= 4
}
