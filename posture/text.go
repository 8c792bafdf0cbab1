package posture

import (
	"strconv"
	"strings"

	"holloway/api"
	"holloway/notation"
)

// Text writes claims.
func Text(l []api.Claim) (string, api.Errno) {
	if e := CheckClaims(l); e != api.OK {
		return "", e
	}
	return notation.Lines(l, func(x api.Claim) string {
		return strings.Join([]string{strconv.Itoa(x.At), x.Node, x.Name, attrText(x.Value)}, " ")
	})
}

// readAttr reads an attribute that is written in just this way; it need not be right.
func readAttr(s string) (api.Attr, bool) {
	value := tokenOf(s).value
	return value, value.Kind != 0 && attrText(value) == s
}

// readClaim reads a line; the claim need not be right.
func readClaim(line string) (api.Claim, bool) {
	parts := strings.SplitN(line, " ", 4)
	if len(parts) < 4 || parts[1] == "" || parts[2] == "" {
		return api.Claim{}, false
	}
	at, atOK := notation.Signed(parts[0], maxDigits)
	value, valueOK := readAttr(parts[3])
	return api.Claim{At: at, Node: parts[1], Name: parts[2], Value: value}, atOK && valueOK
}

// Read reads claims.
func Read(text string) ([]api.Claim, int, api.Errno) {
	return notation.ReadParts(text, readClaim, CheckClaims)
}
