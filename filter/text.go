package filter

import (
	"strconv"
	"strings"

	"holloway/addr"
	"holloway/api"
	"holloway/notation"
	"holloway/ports"
)

const (
	wordAll   = "any" // of ProtoAll
	maxDigits = 9
)

// prefixText writes a prefix that is right.
func prefixText(p api.Prefix) string {
	s, _ := addr.PrefixText(p)
	return s
}

// readPrefix reads a prefix.
func readPrefix(s string) (api.Prefix, bool) {
	p, e := addr.ParsePrefix(s)
	return p, e == api.OK
}

func protoText(proto int) string {
	if proto == api.ProtoAll {
		return wordAll
	}
	return strconv.Itoa(proto)
}

// readProto reads a protocol, which need not be right.
func readProto(s string) (int, bool) {
	if s == wordAll {
		return api.ProtoAll, true
	}
	n, ok := notation.Number(s, maxDigits)
	return n, ok && n != api.ProtoAll
}

// Text writes rows.
func Text(l []api.Filter) (string, api.Errno) {
	if e := Check(l); e != api.OK {
		return "", e
	}
	return notation.Lines(l, func(f api.Filter) string {
		words := []string{protoText(f.Proto), notation.List(f.Src, prefixText), notation.List(f.Dst, prefixText), notation.List(f.Ports, ports.Text)}
		return strings.Join(words, " ")
	})
}

// readFilter reads a line; the row need not be right.
func readFilter(line string) (api.Filter, bool) {
	words := strings.Split(line, " ")
	if len(words) != 4 {
		return api.Filter{}, false
	}
	proto, protoOK := readProto(words[0])
	src, srcOK := notation.ReadList(words[1], readPrefix)
	dst, dstOK := notation.ReadList(words[2], readPrefix)
	some, portsOK := notation.ReadList(words[3], ports.Read)
	return api.Filter{Proto: proto, Src: src, Dst: dst, Ports: some}, protoOK && srcOK && dstOK && portsOK
}

// Read reads rows.
func Read(text string) ([]api.Filter, int, api.Errno) {
	return notation.ReadParts(text, readFilter, Check)
}
