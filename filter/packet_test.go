package filter_test

import (
	"encoding/binary"
	"encoding/hex"
	"fmt"
	"math"
	"slices"
	"testing"

	"holloway/api"
	"holloway/filter"
)

// P4.5
func TestSum(t *testing.T) {
	for _, c := range []struct {
		b    []byte
		want int
	}{
		{nil, 65_535},
		{[]byte{0}, 65_535},
		{[]byte{1}, 65_535 - 256},
		{[]byte{0, 1}, 65_534},
		{[]byte{0, 1, 2}, 65_535 - 513},
		{[]byte{0xff, 0xff}, 0},
		{[]byte{0xff, 0xff, 0, 1}, 65_534},
		{[]byte{0xff, 0xff, 0xff, 0xff, 0xff}, 255},
		{[]byte{0x45, 0, 0, 0x14, 0, 0, 0, 0, 0x40, 6, 0, 0, 10, 0, 0, 1, 10, 0, 0, 2}, 0x66e2},
		// What is above the lowest 16 bits is added more than once: 65,537 times 65,535, and 1 more.
		{append(slices.Repeat([]byte{0xff}, 2*65_537), 0, 1), 65_534},
		{slices.Repeat([]byte{0xff}, 200_000), 0},
	} {
		is(t, fmt.Sprintf("Sum %.20v", c.b), filter.Sum(c.b), c.want)
	}
}

// P4.5: numbers are added one by one, modulo 65,535, but 0 only if all are.
func TestSumOfMany(t *testing.T) {
	r := newChance(8)
	for range 2_000 {
		b := make([]byte, r.Intn(60))
		r.Read(b)
		sum := 0
		for i, x := range b {
			sum += int(x) * []int{256, 1}[i%2]
		}
		want := 65_535 - sum%65_535
		if sum > 0 && sum%65_535 == 0 {
			want = 0
		}
		is(t, fmt.Sprint("Sum ", b), filter.Sum(b), want)
	}
}

// right are packets of each protocol and length that are right.
func right() []api.Packet {
	return []api.Packet{
		{From: ip("10.0.0.1"), To: ip("10.0.0.2"), Hops: 64, Proto: 6, FromPort: 5_000, ToPort: 443, Syn: true, Has: true, Seq: 7, Ack: 9},
		{From: ip("fd00::1"), To: ip("fd00::2"), Hops: 255, Proto: 6, FromPort: 65_535, ToPort: 65_535, Fin: true, Rst: true, Has: true, Seq: 1<<32 - 1, Ack: 1<<32 - 1, Payload: make([]byte, api.MaxPayload)},
		{From: ip("10.0.0.1"), To: ip("10.0.0.2"), Proto: 17, FromPort: 5_000, ToPort: 53, Payload: []byte("abc")},
		{From: ip("fd00::1"), To: ip("fd00::2"), Proto: 17, ToPort: 53},
		{From: ip("10.0.0.1"), To: ip("10.0.0.1"), Proto: 1, Reply: true, Id: 65_535, Seq: 65_535},
		{From: ip("fd00::1"), To: ip("fd00::2"), Proto: 1, Id: 7, Payload: []byte{0}},
		{Proto: 6}, {Proto: 17}, {Proto: 1}, {Proto: 6, Has: true},
	}
}

// packetBreaks make a packet of TCP wrong, in the order in which it is told.
var packetBreaks = []struct {
	name string
	do   func(p *api.Packet)
	e    api.Errno
}{
	{"From", func(p *api.Packet) { p.From = api.Addr{Lo: 1 << 32} }, api.ErrForm},
	{"To", func(p *api.Packet) { p.To = api.Addr{Hi: 1} }, api.ErrForm},
	{"two lengths", func(p *api.Packet) { p.To = ip("fd00::1") }, api.ErrType},
	{"a low Hops", func(p *api.Packet) { p.Hops = -1 }, api.ErrArg},
	{"a high Hops", func(p *api.Packet) { p.Hops = 256 }, api.ErrArg},
	{"Proto", func(p *api.Packet) { p.Proto = 2 }, api.ErrKind},
	{"a low FromPort", func(p *api.Packet) { p.FromPort = -1 }, api.ErrArg},
	{"a high FromPort", func(p *api.Packet) { p.FromPort = 65_536 }, api.ErrArg},
	{"a low ToPort", func(p *api.Packet) { p.ToPort = math.MinInt }, api.ErrArg},
	{"a high ToPort", func(p *api.Packet) { p.ToPort = 65_536 }, api.ErrArg},
	{"a low Seq", func(p *api.Packet) { p.Seq = -1 }, api.ErrArg},
	{"a high Seq", func(p *api.Packet) { p.Seq = 1 << 32 }, api.ErrArg},
	{"a low Ack", func(p *api.Packet) { p.Ack = -1 }, api.ErrArg},
	{"a high Ack", func(p *api.Packet) { p.Ack = 1 << 32 }, api.ErrArg},
	{"a low Id", func(p *api.Packet) { p.Id = -1 }, api.ErrArg},
	{"a high Id", func(p *api.Packet) { p.Id = math.MaxInt }, api.ErrArg},
	{"Id of TCP", func(p *api.Packet) { p.Id = 1 }, api.ErrForm},
	{"Reply of TCP", func(p *api.Packet) { p.Reply = true }, api.ErrForm},
	{"Ack without Has", func(p *api.Packet) { p.Has, p.Ack = false, 1 }, api.ErrForm},
	{"Payload", func(p *api.Packet) { p.Payload = make([]byte, api.MaxPayload+1) }, api.ErrLarge},
}

// wrongPacket looks at the error of a packet, also of functions that return it.
func wrongPacket(t *testing.T, name string, p api.Packet, e api.Errno) {
	t.Helper()
	is(t, "CheckPacket: "+name, filter.CheckPacket(p), e)
	if e == api.OK {
		return
	}
	is(t, "Write: "+name, all(filter.Write(p)), all([]byte{}, e))
	is(t, "FlowOf: "+name, all(filter.FlowOf(p)), all(api.Flow{}, e))
	x, _ := filter.New(nil, api.Times{Young: 1, Tcp: 1, Done: 1, Other: 1}, 1)
	is(t, "In: "+name, all(x.In(p, -1)), all(false, e))
	is(t, "Out: "+name, x.Out(p, -1), e)
}

// P4.5, Z4, Z6: each error alone, and ahead of all that are told behind it.
func TestCheckPacket(t *testing.T) {
	for _, p := range right() {
		wrongPacket(t, fmt.Sprintf("%.100v", p), p, api.OK)
	}
	for i, b := range packetBreaks {
		for _, c := range append(packetBreaks[i:], b) {
			p := right()[0]
			c.do(&p)
			b.do(&p)
			wrongPacket(t, b.name+", ahead of "+c.name, p, b.e)
		}
	}
	for proto := -1; proto <= 256; proto++ {
		want := api.ErrKind
		if proto == 1 || proto == 6 || proto == 17 {
			want = api.OK
		}
		wrongPacket(t, fmt.Sprint("Proto ", proto), api.Packet{Proto: proto}, want)
	}
}

// P4.5: the fields of the protocols.
func TestFieldsOfPackets(t *testing.T) {
	for _, c := range []struct {
		name           string
		do             func(p *api.Packet)
		icmp, tcp, udp api.Errno
	}{
		{"nothing", func(p *api.Packet) {}, api.OK, api.OK, api.OK},
		{"FromPort", func(p *api.Packet) { p.FromPort = 1 }, api.ErrForm, api.OK, api.OK},
		{"ToPort", func(p *api.Packet) { p.ToPort = 1 }, api.ErrForm, api.OK, api.OK},
		{"Syn", func(p *api.Packet) { p.Syn = true }, api.ErrForm, api.OK, api.ErrForm},
		{"Fin", func(p *api.Packet) { p.Fin = true }, api.ErrForm, api.OK, api.ErrForm},
		{"Rst", func(p *api.Packet) { p.Rst = true }, api.ErrForm, api.OK, api.ErrForm},
		{"Has", func(p *api.Packet) { p.Has = true }, api.ErrForm, api.OK, api.ErrForm},
		{"Ack", func(p *api.Packet) { p.Ack = 1 }, api.ErrForm, api.ErrForm, api.ErrForm},
		{"Has and Ack", func(p *api.Packet) { p.Has, p.Ack = true, 1 }, api.ErrForm, api.OK, api.ErrForm},
		{"Seq", func(p *api.Packet) { p.Seq = 65_535 }, api.OK, api.OK, api.ErrForm},
		{"a high Seq", func(p *api.Packet) { p.Seq = 65_536 }, api.ErrArg, api.OK, api.ErrForm},
		{"a very high Seq", func(p *api.Packet) { p.Seq = 1 << 32 }, api.ErrArg, api.ErrArg, api.ErrArg},
		{"Reply", func(p *api.Packet) { p.Reply = true }, api.OK, api.ErrForm, api.ErrForm},
		{"Id", func(p *api.Packet) { p.Id = 65_535 }, api.OK, api.ErrForm, api.ErrForm},
		{"a high Id", func(p *api.Packet) { p.Id = 65_536 }, api.ErrArg, api.ErrArg, api.ErrArg},
		{"a wrong Id and Reply", func(p *api.Packet) { p.Id, p.Reply = -1, true }, api.ErrArg, api.ErrArg, api.ErrArg},
	} {
		for proto, want := range map[int]api.Errno{1: c.icmp, 6: c.tcp, 17: c.udp} {
			p := api.Packet{Proto: proto}
			c.do(&p)
			wrongPacket(t, fmt.Sprint(proto, ": ", c.name), p, want)
		}
	}
}

// P4.6
func TestFlowOf(t *testing.T) {
	for _, p := range right() {
		want := api.Flow{Proto: p.Proto, From: p.From, To: p.To, FromPort: p.FromPort, ToPort: p.ToPort}
		is(t, "FlowOf", all(filter.FlowOf(p)), all(want, api.OK))
	}
}

// P4.6
func TestBack(t *testing.T) {
	f := api.Flow{Proto: 17, From: ip("10.0.0.1"), To: ip("10.0.0.2"), FromPort: 3, ToPort: 4}
	is(t, "Back", all(filter.Back(f)), all(api.Flow{Proto: 17, From: ip("10.0.0.2"), To: ip("10.0.0.1"), FromPort: 4, ToPort: 3}, api.OK))
	is(t, "Back", all(filter.Back(flow(47, "fd00::1", "fd00::2", 0))), all(flow(47, "fd00::2", "fd00::1", 0), api.OK))
	for _, c := range []struct {
		f api.Flow
		e api.Errno
	}{
		{flow(0, "10.0.0.1", "10.0.0.2", 0), api.ErrArg}, {flow(256, "10.0.0.1", "10.0.0.2", 0), api.ErrArg},
		{api.Flow{Proto: 6, From: api.Addr{Hi: 1}}, api.ErrForm}, {flow(6, "10.0.0.1", "fd00::2", 0), api.ErrType},
		{flow(6, "10.0.0.1", "10.0.0.2", -1), api.ErrArg}, {flow(1, "10.0.0.1", "10.0.0.2", 1), api.ErrArg},
	} {
		is(t, fmt.Sprint("Back ", c.f), all(filter.Back(c.f)), all(api.Flow{}, c.e))
	}
}

// Bytes of packets, as a separate script wrote them by the same chapter.
var written = []struct {
	p api.Packet
	b string
}{
	{api.Packet{From: ip("10.0.0.1"), To: ip("10.0.0.2"), Hops: 64, Proto: 6, FromPort: 5_000, ToPort: 443, Syn: true, Seq: 0x01020304},
		"4500002800000000400666ce0a0000010a000002138801bb01020304000000005002ffff82970000"},
	{api.Packet{From: ip("10.0.0.1"), To: ip("10.0.0.2"), Hops: 1, Proto: 6, FromPort: 65_535, ToPort: 1, Syn: true, Fin: true, Rst: true, Has: true, Seq: 1<<32 - 1, Ack: 1<<32 - 2, Payload: []byte("hello")},
		"4500002d000000000106a5c90a0000010a000002ffff0001fffffffffffffffe5017ffff57f4000068656c6c6f"},
	{api.Packet{From: ip("2001:db8::1"), To: ip("fd00:1:2:3:4:5:6:7"), Hops: 255, Proto: 6, FromPort: 5_000, ToPort: 443, Has: true, Seq: 7, Ack: 9, Payload: []byte("abc")},
		"60000000001706ff20010db8000000000000000000000001fd000001000200030004000500060007138801bb00000007000000095010ffffab450000616263"},
	{api.Packet{From: ip("10.0.0.1"), To: ip("10.0.0.2"), Proto: 17, FromPort: 9, ToPort: 53, Payload: []byte("abc")},
		"4500001f000000000011a6cc0a0000010a00000200090035000b2735616263"},
	{api.Packet{From: ip("2001:db8::1"), To: ip("fd00:1:2:3:4:5:6:7"), Hops: 64, Proto: 17, FromPort: 9, ToPort: 53, Payload: []byte("abcd")},
		"60000000000c114020010db8000000000000000000000001fd00000100020003000400050006000700090035000c0ffb61626364"},
	{api.Packet{From: ip("10.0.0.1"), To: ip("10.0.0.2"), Hops: 64, Proto: 1, Id: 0x1234, Seq: 0x5678, Payload: []byte("ping!")},
		"4500002100000000400166da0a0000010a00000208008f821234567870696e6721"},
	{api.Packet{From: ip("10.0.0.2"), To: ip("10.0.0.1"), Hops: 64, Proto: 1, Reply: true, Id: 0x1234, Seq: 0x5678, Payload: []byte("ping!")},
		"4500002100000000400166da0a0000020a000001000097821234567870696e6721"},
	{api.Packet{From: ip("2001:db8::1"), To: ip("fd00:1:2:3:4:5:6:7"), Hops: 64, Proto: 1, Id: 0x1234, Seq: 0x5678, Payload: []byte("ping!")},
		"60000000000d3a4020010db8000000000000000000000001fd0000010002000300040005000600078000ec631234567870696e6721"},
	{api.Packet{From: ip("fd00:1:2:3:4:5:6:7"), To: ip("2001:db8::1"), Hops: 64, Proto: 1, Reply: true, Id: 1, Seq: 2},
		"6000000000083a40fd00000100020003000400050006000720010db8000000000000000000000001810053e300010002"},
	// The sum of the first one of these is 0, which is written as 65,535; that of the second one stays.
	{api.Packet{From: ip("10.0.0.1"), To: ip("10.0.0.2"), Hops: 64, Proto: 17, FromPort: 9, ToPort: 53, Payload: []byte{0xeb, 0x99}},
		"4500001e00000000401166cd0a0000010a00000200090035000affffeb99"},
	{api.Packet{From: ip("10.0.0.1"), To: ip("10.0.0.2"), Hops: 64, Proto: 6, FromPort: 9, ToPort: 53, Payload: []byte{0x9b, 0xa2}},
		"4500002a00000000400666cc0a0000010a0000020009003500000000000000005000ffff000000009ba2"},
}

func unhex(s string) []byte {
	b, err := hex.DecodeString(s)
	if err != nil {
		panic(s)
	}
	return b
}

// P4.6
func TestWrite(t *testing.T) {
	for _, c := range written {
		b, e := filter.Write(c.p)
		is(t, "Write", all(hex.EncodeToString(b), e), all(c.b, api.OK))
		is(t, "ReadPacket", all(filter.ReadPacket(unhex(c.b))), all(c.p, api.OK))
	}
}

// P4.6: what Write writes ReadPacket reads, up to MaxPayload.
func TestPacketsComeBack(t *testing.T) {
	r := newChance(9)
	list := right()
	for range 3_000 {
		list = append(list, r.packet())
	}
	for _, p := range list {
		b, e := filter.Write(p)
		is(t, "Write", e, api.OK)
		is(t, fmt.Sprintf("%.100v", p), all(filter.ReadPacket(b)), all(p, api.OK))
	}
}

// seal writes the sums of bytes that were changed anew.
func seal(b []byte) []byte {
	b = slices.Clone(b)
	six := b[0] == 0x60
	size, proto, ahead := 20, b[9], slices.Clone(b[12:min(20, len(b))])
	if six {
		size, proto, ahead = 40, b[6], slices.Clone(b[8:40])
	} else {
		copy(b[10:], []byte{0, 0})
		binary.BigEndian.PutUint16(b[10:], uint16(filter.Sum(b[:20])))
	}
	part := b[size:]
	at, known := map[byte]int{1: 2, 58: 2, 6: 16, 17: 6}[proto]
	if !known || len(part) < at+2 {
		return b
	}
	copy(part[at:], []byte{0, 0})
	if six {
		ahead = binary.BigEndian.AppendUint32(ahead, uint32(len(part)))
		ahead = append(ahead, 0, 0, 0, proto)
	} else if proto == 1 {
		ahead = nil
	} else {
		ahead = binary.BigEndian.AppendUint16(append(ahead, 0, proto), uint16(len(part)))
	}
	sum := filter.Sum(append(ahead, part...))
	if sum == 0 && proto == 17 {
		sum = 65_535
	}
	binary.BigEndian.PutUint16(part[at:], uint16(sum))
	return b
}

// withLength are bytes with the length in their head as it is.
func withLength(b []byte) []byte {
	b = slices.Clone(b)
	if b[0] == 0x60 {
		binary.BigEndian.PutUint16(b[4:], uint16(len(b)-40))
	} else {
		binary.BigEndian.PutUint16(b[2:], uint16(len(b)))
	}
	return b
}

// P4.6: each byte of each packet is changed, with the sums as they were, and with right ones: what is read then is what would be written so, or it is an error; and it is the right error.
func TestReadChangedBytes(t *testing.T) {
	count := map[api.Errno]int{}
	for _, c := range written {
		b := unhex(c.b)
		is(t, "seal", hex.EncodeToString(seal(b)), c.b)
		for i := range b {
			for _, x := range []byte{0, 1, 2, 4, 6, 8, 16, 17, 32, 58, 64, 128, 129, 0xff, b[i] ^ 1, b[i] ^ 0x80} {
				other := slices.Clone(b)
				other[i] = x
				if slices.Equal(other, b) {
					continue
				}
				for _, y := range [][]byte{other, seal(other)} {
					name := fmt.Sprintf("byte %d of %s is %d", i, c.b, x)
					p, e := filter.ReadPacket(y)
					is(t, name, e, wantOf(y))
					if e == api.OK {
						is(t, name, all(filter.Write(p)), all(y, api.OK))
					}
					count[e]++
				}
			}
		}
	}
	for _, e := range []api.Errno{api.OK, api.ErrForm, api.ErrKind, api.ErrSum} {
		if count[e] < 100 {
			t.Errorf("error %d: %d times", e, count[e])
		}
	}
}

// wantOf is the error of bytes, as the document tells it.
func wantOf(b []byte) api.Errno {
	zero := func(l ...byte) bool { return slices.Max(l) == 0 }
	long := func(at int) int { return int(b[at])<<8 + int(b[at+1]) }
	var part []byte
	var proto byte
	ok := seal(b)
	switch {
	case len(b) < 20:
		return api.ErrForm
	case b[0] != 0x45 && b[0] != 0x60:
		return api.ErrKind
	case b[0] == 0x45 && !slices.Equal(b[10:12], ok[10:12]):
		return api.ErrSum
	case b[0] == 0x45 && (long(2) != len(b) || !zero(b[1], b[4], b[5], b[6], b[7])):
		return api.ErrForm
	case b[0] == 0x45:
		part, proto = b[20:], map[byte]byte{1: 1, 6: 6, 17: 17}[b[9]]
	case len(b) < 40 || long(4) != len(b)-40 || !zero(b[1], b[2], b[3]):
		return api.ErrForm
	default:
		part, proto = b[40:], map[byte]byte{58: 1, 6: 6, 17: 17}[b[6]]
	}
	least := map[byte]int{1: 8, 17: 8, 6: 20}[proto]
	first := map[byte][]byte{0x45: {8, 0}, 0x60: {128, 129}}[b[0]]
	switch {
	case proto == 0:
		return api.ErrKind
	case len(part) < least:
		return api.ErrForm
	case proto == 1 && (!slices.Contains(first, part[0]) || part[1] != 0):
		return api.ErrForm
	case proto == 17 && int(part[4])<<8+int(part[5]) != len(part):
		return api.ErrForm
	case proto == 6 && (part[12] != 0x50 || part[13]&^23 != 0 || part[14] != 0xff || part[15] != 0xff || !zero(part[18], part[19])):
		return api.ErrForm
	case proto == 6 && part[13]&16 == 0 && !zero(part[8:12]...):
		return api.ErrForm
	case len(part)-least > api.MaxPayload:
		return api.ErrLarge
	case !slices.Equal(b, ok):
		return api.ErrSum
	}
	return api.OK
}

// P4.6: bytes that are cut, or too many, with and without the right length in their head.
func TestReadOtherLengths(t *testing.T) {
	for n := range 20 {
		is(t, "few bytes", all(filter.ReadPacket(make([]byte, n))), all(api.Packet{}, api.ErrForm))
		is(t, "few bytes", all(filter.ReadPacket(unhex(written[0].b)[:n])), all(api.Packet{}, api.ErrForm))
	}
	for n := 20; n < 60; n++ {
		is(t, "no kind", all(filter.ReadPacket(make([]byte, n))), all(api.Packet{}, api.ErrKind))
	}
	for _, c := range written {
		b := unhex(c.b)
		for n := 20; n <= len(b)+50; n++ {
			cut := append(slices.Clone(b), make([]byte, 50)...)[:n]
			for _, y := range [][]byte{cut, withLength(cut), seal(withLength(append(slices.Clone(cut), make([]byte, 20)...)))[:n]} {
				if y[0] == 0x60 && n < 40 {
					is(t, "few bytes", all(filter.ReadPacket(y)), all(api.Packet{}, api.ErrForm))
					continue
				}
				_, e := filter.ReadPacket(seal(y))
				is(t, fmt.Sprintf("%d bytes of %s", n, c.b), e, wantOf(seal(y)))
				_, e = filter.ReadPacket(y)
				is(t, fmt.Sprintf("%d bytes of %s", n, c.b), e, wantOf(y))
			}
		}
	}
}

// P4.6, Z4: of a head without a part the protocol is looked at first.
func TestReadHeadsAlone(t *testing.T) {
	for _, c := range written {
		b := unhex(c.b)
		size, protoAt := 20, 9
		if c.p.From.Six {
			size, protoAt = 40, 6
		}
		head := seal(withLength(b[:size]))
		is(t, "a head", all(filter.ReadPacket(head)), all(api.Packet{}, api.ErrForm))
		head[protoAt] = 2
		is(t, "another protocol", all(filter.ReadPacket(seal(head))), all(api.Packet{}, api.ErrKind))
	}
}

// P4.6, Z4: the errors of one packet that has many, one mended after the other.
func TestOrderOfPacketErrors(t *testing.T) {
	for _, base := range right()[:6] {
		base.Payload = make([]byte, api.MaxPayload)
		good, _ := filter.Write(base)
		good = seal(withLength(append(good, 0)))
		if base.Proto == api.ProtoUdp {
			size := len(good) - api.MaxPayload - 1 - 8
			binary.BigEndian.PutUint16(good[size+4:], uint16(len(good)-size))
			good = seal(good)
		}
		is(t, "Payload", all(filter.ReadPacket(good)), all(api.Packet{}, api.ErrLarge))
		change := func(b []byte, at int, x byte) []byte {
			b = slices.Clone(b)
			b[at] = x
			return b
		}
		last := len(good) - 1
		sum := change(good, last, 1)
		is(t, "Payload ahead of its sum", all(filter.ReadPacket(sum)), all(api.Packet{}, api.ErrLarge))
		size, protoAt := 20, 9
		if base.From.Six {
			size, protoAt = 40, 6
		}
		at := map[int]int{1: 1, 6: 12, 17: 4}[base.Proto]
		part := change(sum, size+at, 0xee)
		is(t, "a byte ahead of Payload", all(filter.ReadPacket(part)), all(api.Packet{}, api.ErrForm))
		// With another protocol the sum of the head is right, and that of the part is not.
		proto := change(part, protoAt, 99)
		mended := proto
		if !base.From.Six {
			mended = seal(proto)
		}
		is(t, "the protocol ahead of a byte", all(filter.ReadPacket(mended)), all(api.Packet{}, api.ErrKind))
		form := change(proto, 1, 1)
		mended = form
		if !base.From.Six {
			mended = seal(form)
		}
		is(t, "the head ahead of the protocol", all(filter.ReadPacket(mended)), all(api.Packet{}, api.ErrForm))
		if !base.From.Six {
			is(t, "the sum of the head ahead of all", all(filter.ReadPacket(change(form, 10, form[10]^1))), all(api.Packet{}, api.ErrSum))
		}
		is(t, "the kind ahead of all", all(filter.ReadPacket(change(form, 0, 0x46))), all(api.Packet{}, api.ErrKind))
	}
	// Of 0 and 65,535 just one is right, though both would add up.
	p := api.Packet{From: ip("10.0.0.0"), To: ip("10.0.0.2"), Proto: 1}
	b, _ := filter.Write(p)
	p.From.Lo += uint64(b[10])<<8 + uint64(b[11])
	b, _ = filter.Write(p)
	for _, c := range []struct {
		b  []byte
		at int
	}{{b, 10}, {unhex(written[9].b), 26}, {unhex(written[10].b), 36}} {
		is(t, "both bytes", all(c.b[c.at] == c.b[c.at+1], c.b[c.at] == 0 || c.b[c.at] == 0xff), all(true, true))
		c.b[c.at], c.b[c.at+1] = ^c.b[c.at], ^c.b[c.at+1]
		is(t, "the other sum", all(filter.ReadPacket(c.b)), all(api.Packet{}, api.ErrSum))
	}
	// Numbers of a protocol belong to one length.
	b = unhex(written[5].b)
	b[9] = 58
	is(t, "58", all(filter.ReadPacket(seal(b))), all(api.Packet{}, api.ErrKind))
	b = unhex(written[7].b)
	b[6] = 1
	is(t, "1", all(filter.ReadPacket(b)), all(api.Packet{}, api.ErrKind))
}

// P4.6, Z1: more bytes than a packet can have, or than its length can say.
func TestReadManyBytes(t *testing.T) {
	for _, n := range []int{1_500, 60_000, 65_535, 65_536, 65_576, 200_000} {
		for _, first := range []byte{0x45, 0x60} {
			b := make([]byte, n)
			b[0] = first
			b[6], b[9] = 0, 17
			if first == 0x60 {
				b[6] = 17
			}
			_, e := filter.ReadPacket(seal(withLength(b)))
			is(t, fmt.Sprint(n), e, api.ErrForm)
			size := map[byte]int{0x45: 20, 0x60: 40}[first]
			binary.BigEndian.PutUint16(b[size+4:], uint16(n-size))
			want := api.ErrLarge
			if first == 0x45 && n > 65_535 || n-size > 65_535 {
				want = api.ErrForm
			} else if n-size-8 <= api.MaxPayload {
				want = api.OK
			}
			_, e = filter.ReadPacket(seal(withLength(b)))
			is(t, fmt.Sprint(n), e, want)
		}
	}
}
