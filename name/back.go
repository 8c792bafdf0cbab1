package name

import (
	"slices"
	"strconv"
	"strings"

	"holloway/addr"
	"holloway/api"
)

// What names of addresses of both lengths end with.
const (
	endFour = ".in-addr.arpa"
	endSix  = ".ip6.arpa"
)

// A writing says how numbers stand as labels: of so many bits each, the last ones first, with digits to a base.
type writing struct{ bits, base int }

// inBytes is the writing of addresses of 32 bits.
func inBytes() writing { return writing{bits: 8, base: 10} }

// inDigits is that of addresses of 128 bits.
func inDigits() writing { return writing{bits: 4, base: 16} }

// labels are so many labels of a number.
func (w writing) labels(n uint64, count int) []string {
	var out []string
	for range count {
		out = append(out, strconv.FormatUint(n&(1<<w.bits-1), w.base))
		n >>= w.bits
	}
	return out
}

// number is that of labels; nothing is said of labels that are none of a number.
func (w writing) number(labels []string) uint64 {
	n := uint64(0)
	for _, label := range slices.Backward(labels) {
		x, _ := strconv.ParseUint(label, w.base, 64)
		n = n<<w.bits | x
	}
	return n
}

// backOf is Back of an address that is right.
func backOf(a api.Addr) string {
	if !a.Six {
		return strings.Join(inBytes().labels(a.Lo, 4), ".") + endFour
	}
	digits := slices.Concat(inDigits().labels(a.Lo, 16), inDigits().labels(a.Hi, 16))
	return strings.Join(digits, ".") + endSix
}

// Back is the name at which the name of an address is found.
func Back(a api.Addr) (string, api.Errno) {
	if e := addr.CheckAddr(a); e != api.OK {
		return "", e
	}
	return backOf(a), api.OK
}

// guess is the address of a name, if the name is that of one at all.
func guess(name string) api.Addr {
	if rest, six := strings.CutSuffix(name, endSix); six {
		labels := strings.Split(rest, ".")
		half := min(len(labels), 16)
		return api.Addr{Six: true, Hi: inDigits().number(labels[half:]), Lo: inDigits().number(labels[:half])}
	}
	return api.Addr{Lo: inBytes().number(strings.Split(strings.TrimSuffix(name, endFour), "."))}
}

// BackTo is the address of such a name.
func BackTo(name string) (api.Addr, bool, api.Errno) {
	if e := CheckDomain(name); e != api.OK {
		return api.Addr{}, false, e
	}
	a := guess(name)
	if back, e := Back(a); e != api.OK || back != name {
		return api.Addr{}, false, api.OK
	}
	return a, true, api.OK
}
