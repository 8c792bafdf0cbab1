package filter

import (
	"cmp"

	"holloway/addr"
	"holloway/api"
	"holloway/checks"
)

const (
	maxShort = 1<<16 - 1 // of a number of two bytes
	maxLong  = 1<<32 - 1 // of a number of four bytes
	maxHops  = 255
)

// Sum is the sum of bytes.
func Sum(b []byte) int {
	sum := 0
	for i, x := range b {
		if i%2 == 0 {
			sum += int(x) << 8
		} else {
			sum += int(x)
		}
	}
	for sum > maxShort {
		sum = sum>>16 + sum&maxShort
	}
	return maxShort - sum
}

// CheckPacket validates a packet.
func CheckPacket(p api.Packet) api.Errno {
	if e := cmp.Or(addr.CheckAddr(p.From), addr.CheckAddr(p.To)); e != api.OK {
		return e
	}
	switch {
	case p.From.Six != p.To.Six:
		return api.ErrType
	case p.Hops < 0 || p.Hops > maxHops:
		return api.ErrArg
	case p.Proto != api.ProtoIcmp && p.Proto != api.ProtoTcp && p.Proto != api.ProtoUdp:
		return api.ErrKind
	case !numbersFit(p):
		return api.ErrArg
	case !fieldsFit(p):
		return api.ErrForm
	case len(p.Payload) > api.MaxPayload:
		return api.ErrLarge
	}
	return api.OK
}

// numbersFit says whether the numbers of a packet behind its protocol are not out of their ranges.
func numbersFit(p api.Packet) bool {
	maxSeq := maxLong
	if p.Proto == api.ProtoIcmp {
		maxSeq = maxShort
	}
	fits := func(n, most int) bool { return 0 <= n && n <= most }
	return fits(p.FromPort, api.MaxPort) && fits(p.ToPort, api.MaxPort) && fits(p.Seq, maxSeq) && fits(p.Ack, maxLong) && fits(p.Id, maxShort)
}

// fieldsFit says whether the fields that the protocol of a packet does not use are zero, and Ack without Has.
func fieldsFit(p api.Packet) bool {
	isTcp, isIcmp := p.Proto == api.ProtoTcp, p.Proto == api.ProtoIcmp
	hasPorts := p.FromPort != 0 || p.ToPort != 0
	hasTcp := p.Syn || p.Fin || p.Rst || p.Has || p.Ack != 0
	hasIcmp := p.Reply || p.Id != 0
	switch {
	case hasPorts && isIcmp, hasTcp && !isTcp, hasIcmp && !isIcmp:
		return false
	case p.Seq != 0 && !isTcp && !isIcmp:
		return false
	}
	return p.Ack == 0 || p.Has
}

// flowOf is the flow of a packet that is right.
func flowOf(p api.Packet) api.Flow {
	return api.Flow{Proto: p.Proto, From: p.From, To: p.To, FromPort: p.FromPort, ToPort: p.ToPort}
}

// FlowOf is the flow of a packet.
func FlowOf(p api.Packet) (api.Flow, api.Errno) {
	if e := CheckPacket(p); e != api.OK {
		return api.Flow{}, e
	}
	return flowOf(p), api.OK
}

// back is a flow the other way round.
func back(f api.Flow) api.Flow {
	return api.Flow{Proto: f.Proto, From: f.To, To: f.From, FromPort: f.ToPort, ToPort: f.FromPort}
}

// Back is a flow the other way round.
func Back(f api.Flow) (api.Flow, api.Errno) {
	if e := checks.Flow(f); e != api.OK {
		return api.Flow{}, e
	}
	return back(f), api.OK
}
