package route

import (
	"strconv"
	"strings"

	"holloway/addr"
	"holloway/api"
	"holloway/notation"
)

const maxDigits = 9

// Text writes routers.
func Text(r []api.Router) (string, api.Errno) {
	if e := CheckRouters(r); e != api.OK {
		return "", e
	}
	return notation.Lines(r, func(x api.Router) string {
		prefix, _ := addr.PrefixText(x.Prefix)
		return prefix + " " + x.Node + " " + strconv.Itoa(x.Weight)
	})
}

// readRouter reads a line; the router need not be right.
func readRouter(line string) (api.Router, bool) {
	words := strings.Split(line, " ")
	if len(words) != 3 || words[1] == "" {
		return api.Router{}, false
	}
	prefix, e := addr.ParsePrefix(words[0])
	weight, ok := notation.Signed(words[2], maxDigits)
	return api.Router{Prefix: prefix, Node: words[1], Weight: weight}, ok && e == api.OK
}

// Read reads routers.
func Read(text string) ([]api.Router, int, api.Errno) {
	return notation.ReadParts(text, readRouter, CheckRouters)
}
