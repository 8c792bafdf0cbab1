package filter

import (
	"bytes"
	"slices"

	"holloway/api"
	"holloway/wire"
)

// What stands at fixed places of the bytes of packets.
const (
	markFour   = 0x45 // the first byte, with addresses that are not Six
	markSix    = 0x60 // likewise with those that are
	sizeFour   = 20   // bytes ahead of the part of the protocol
	sizeSix    = 40
	sumFour    = 10 // where the sum of these bytes is
	icmpSix    = 58 // the number of ProtoIcmp between addresses that are Six
	tcpLength  = 0x50
	tcpWindow  = 0xffff
	tcpFin     = 1
	tcpSyn     = 2
	tcpRst     = 4
	tcpHas     = 16
	askFour    = 8 // the first byte of ICMP that is no Reply
	replyFour  = 0
	askSix     = 128
	replySix   = 129
	noSum      = 0
	noSumOfUdp = maxShort // written for a sum of 0
)

// A layout says how the part of a packet is written that its protocol tells, up to the payload.
type layout struct {
	size, sumAt int
	write       func(p *api.Packet, length int) []byte // with 0 for the sum; length is that of the part
	read        func(b []byte, p *api.Packet)          // what write does not write is passed over
}

// layoutOf is the layout of a protocol of packets.
func layoutOf(proto int) layout {
	switch proto {
	case api.ProtoTcp:
		return layout{20, 16, writeTcp, readTcp}
	case api.ProtoUdp:
		return layout{8, 6, writeUdp, readUdp}
	}
	return layout{8, 2, writeIcmp, readIcmp}
}

// protoNumber is the number by which a protocol is told beside addresses.
func protoNumber(proto int, six bool) int {
	if six && proto == api.ProtoIcmp {
		return icmpSix
	}
	return proto
}

// protoOf is the protocol of packets that is told by a number, if there is one.
func protoOf(n byte, six bool) (int, bool) {
	for _, proto := range [...]int{api.ProtoIcmp, api.ProtoTcp, api.ProtoUdp} {
		if protoNumber(proto, six) == int(n) {
			return proto, true
		}
	}
	return 0, false
}

// putSum writes a sum to its place.
func putSum(b []byte, at, sum int) { copy(b[at:], wire.Number(nil, 2, uint64(sum))) }

// withoutSum is a copy of some bytes, with 0 in the place of their sum.
func withoutSum(b []byte, at int) []byte {
	out := slices.Clone(b)
	putSum(out, at, noSum)
	return out
}

// flags are the bits of those that are set.
func flags(p *api.Packet) int {
	out := 0
	add := func(set bool, bit int) {
		if set {
			out |= bit
		}
	}
	add(p.Fin, tcpFin)
	add(p.Syn, tcpSyn)
	add(p.Rst, tcpRst)
	add(p.Has, tcpHas)
	return out
}

func portBytes(p *api.Packet) []byte {
	return wire.Number(wire.Number(nil, 2, uint64(p.FromPort)), 2, uint64(p.ToPort))
}

func readPorts(b []byte, p *api.Packet) { p.FromPort, p.ToPort = wire.IntOf(b[:2]), wire.IntOf(b[2:4]) }

func writeTcp(p *api.Packet, _ int) []byte {
	b := wire.Number(wire.Number(portBytes(p), 4, uint64(p.Seq)), 4, uint64(p.Ack))
	b = append(b, tcpLength, byte(flags(p)))
	b = wire.Number(b, 2, tcpWindow)
	return append(b, 0, 0, 0, 0)
}

func readTcp(b []byte, p *api.Packet) {
	readPorts(b, p)
	p.Seq, p.Ack = wire.IntOf(b[4:8]), wire.IntOf(b[8:12])
	has := func(bit byte) bool { return b[13]&bit != 0 }
	p.Fin, p.Syn, p.Rst, p.Has = has(tcpFin), has(tcpSyn), has(tcpRst), has(tcpHas)
}

func writeUdp(p *api.Packet, length int) []byte {
	return append(wire.Number(portBytes(p), 2, uint64(length)), 0, 0)
}

func readUdp(b []byte, p *api.Packet) { readPorts(b, p) }

// icmpKind is the first byte of ICMP.
func icmpKind(six, reply bool) byte {
	switch {
	case six && reply:
		return replySix
	case six:
		return askSix
	case reply:
		return replyFour
	}
	return askFour
}

func writeIcmp(p *api.Packet, _ int) []byte {
	b := []byte{icmpKind(p.From.Six, p.Reply), 0, 0, 0}
	return wire.Number(wire.Number(b, 2, uint64(p.Id)), 2, uint64(p.Seq))
}

func readIcmp(b []byte, p *api.Packet) {
	p.Reply = b[0] == icmpKind(p.From.Six, true)
	p.Id, p.Seq = wire.IntOf(b[4:6]), wire.IntOf(b[6:8])
}

// ahead are the bytes that are summed ahead of a part of so many bytes.
func ahead(p *api.Packet, length int) []byte {
	n := uint64(protoNumber(p.Proto, p.From.Six))
	b := wire.Addr(wire.Addr(nil, p.From), p.To)
	switch {
	case p.From.Six:
		return wire.Number(wire.Number(b, 4, uint64(length)), 4, n)
	case p.Proto == api.ProtoIcmp:
		return nil
	}
	return wire.Number(wire.Number(b, 2, n), 2, uint64(length))
}

// sumOf is the sum of the part of a packet, which has 0 in its place.
func sumOf(p *api.Packet, part []byte) int {
	sum := Sum(slices.Concat(ahead(p, len(part)), part))
	if sum == noSum && p.Proto == api.ProtoUdp {
		return noSumOfUdp
	}
	return sum
}

// partOf is the part of a packet that its protocol tells, with the payload.
func partOf(p *api.Packet) []byte {
	x := layoutOf(p.Proto)
	part := append(x.write(p, x.size+len(p.Payload)), p.Payload...)
	putSum(part, x.sumAt, sumOf(p, part))
	return part
}

// headOf are the bytes of a packet ahead of a part of so many bytes.
func headOf(p *api.Packet, length int) []byte {
	proto := byte(protoNumber(p.Proto, p.From.Six))
	if p.From.Six {
		b := wire.Number([]byte{markSix, 0, 0, 0}, 2, uint64(length))
		return wire.Addr(wire.Addr(append(b, proto, byte(p.Hops)), p.From), p.To)
	}
	b := wire.Number([]byte{markFour, 0}, 2, uint64(sizeFour+length))
	b = append(b, 0, 0, 0, 0, byte(p.Hops), proto, 0, 0)
	b = wire.Addr(wire.Addr(b, p.From), p.To)
	putSum(b, sumFour, Sum(b))
	return b
}

// Write are the bytes of a packet.
func Write(p api.Packet) ([]byte, api.Errno) {
	if e := CheckPacket(p); e != api.OK {
		return nil, e
	}
	part := partOf(&p)
	return append(headOf(&p, len(part)), part...), api.OK
}

// ReadPacket reads a packet.
func ReadPacket(b []byte) (api.Packet, api.Errno) {
	if len(b) < sizeFour {
		return api.Packet{}, api.ErrForm
	}
	var p api.Packet
	e := api.ErrKind
	size := sizeFour
	switch b[0] {
	case markFour:
		e = readFour(b, &p)
	case markSix:
		e = readSix(b, &p)
		size = sizeSix
	}
	if e == api.OK {
		e = readPart(b[size:], &p)
	}
	if e != api.OK {
		return api.Packet{}, e
	}
	return p, api.OK
}

// isZero says whether all of some bytes are 0.
func isZero(b []byte) bool { return !slices.ContainsFunc(b, func(x byte) bool { return x != 0 }) }

// readFour reads the bytes ahead of a part, with addresses that are not Six.
func readFour(b []byte, p *api.Packet) api.Errno {
	head := b[:sizeFour]
	if Sum(withoutSum(head, sumFour)) != wire.IntOf(head[sumFour:sumFour+2]) {
		return api.ErrSum
	}
	if wire.IntOf(b[2:4]) != len(b) || b[1] != 0 || !isZero(b[4:8]) {
		return api.ErrForm
	}
	p.From, p.To = wire.AddrOf(b[12:16]), wire.AddrOf(b[16:20])
	return readCarried(b[9], b[8], p)
}

// readSix reads the bytes ahead of a part, with addresses that are Six.
func readSix(b []byte, p *api.Packet) api.Errno {
	if len(b) < sizeSix || wire.IntOf(b[4:6]) != len(b)-sizeSix || !isZero(b[1:4]) {
		return api.ErrForm
	}
	p.From, p.To = wire.AddrOf(b[8:24]), wire.AddrOf(b[24:40])
	return readCarried(b[6], b[7], p)
}

// readCarried reads the bytes of the protocol and of Hops of a packet that has its addresses.
func readCarried(code, hops byte, p *api.Packet) api.Errno {
	proto, known := protoOf(code, p.From.Six)
	if !known {
		return api.ErrKind
	}
	p.Proto, p.Hops = proto, int(hops)
	return api.OK
}

// readPart reads the part of a packet that has its addresses and its protocol.
func readPart(part []byte, p *api.Packet) api.Errno {
	x := layoutOf(p.Proto)
	if len(part) < x.size {
		return api.ErrForm
	}
	x.read(part, p)
	// All bytes that are not told come to light as others than those that would be written.
	if !bytes.Equal(x.write(p, len(part)), withoutSum(part[:x.size], x.sumAt)) || !fieldsFit(*p) {
		return api.ErrForm
	}
	if len(part)-x.size > api.MaxPayload {
		return api.ErrLarge
	}
	if sumOf(p, withoutSum(part, x.sumAt)) != wire.IntOf(part[x.sumAt:x.sumAt+2]) {
		return api.ErrSum
	}
	p.Payload = slices.Clone(part[x.size:])
	return api.OK
}
