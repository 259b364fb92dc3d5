package ports_test

import (
	"bytes"
	"encoding/binary"
	"math"
	"math/rand/v2"
	"slices"
	"testing"

	"goosepond/api"
	"goosepond/icmp"
	"goosepond/ports"
	"goosepond/tcp"
	"goosepond/udp"
	"goosepond/v4"
)

const (
	src = 0x0A000001
	dst = 0xC6336401

	outer = 0xC0000201
)

// around is a packet with something in every field, and data within.
func around(proto int, data []byte) api.V4 {
	return api.V4{
		TOS: 0x1C, ID: 0xABCD, TTL: 63, Proto: proto, Src: src, Dst: dst, DF: true,
		Options: []byte{0x94, 4, 0, 0}, Data: data,
	}
}

// The bytes of what stands within, between src and dst.
var (
	datagramBytes = []byte{0x13, 0x88, 0, 53, 0, 11, 0x13, 0xDB, 7, 8, 9}
	noSumBytes    = []byte{0x13, 0x88, 0, 53, 0, 11, 0, 0, 7, 8, 9}
	segmentBytes  = []byte{
		0x13, 0x88, 0, 80, 1, 2, 3, 4, 0xA1, 0xB2, 0xC3, 0xD4, 0x75, 0x12, 0x23, 0x45, 0, 0, 0x67, 0x89,
		1, 2, 4, 5, 0xB4, 3, 3, 7, 9, 10, 11,
	}
	queryBytes  = []byte{8, 0, 0, 0, 0x13, 0x88, 0, 2, 5, 6, 7}
	answerBytes = []byte{0, 3, 0, 0, 0x13, 0x88, 0xFF, 0xFE}
)

// sumAt is where the sum of what a protocol has within stands.
var sumAt = map[int]int{api.ProtoUDP: 6, api.ProtoTCP: 16, api.ProtoICMP: 2}

// mended is b, new, with the right sum of a protocol between these addresses.
func mended(proto, src, dst int, b []byte) []byte {
	b = slices.Clone(b)
	at := sumAt[proto]
	b[at], b[at+1] = 0, 0
	s := 65535 - slow(proto, src, dst, b)
	if proto == api.ProtoUDP && s == 0 {
		s = 65535
	}
	binary.BigEndian.PutUint16(b[at:], s)
	return b
}

// slow adds all words of b, those of the pseudo header among them where the protocol has one, byte by byte.
func slow(proto, src, dst int, b []byte) uint16 {
	n := 0
	if proto != api.ProtoICMP {
		n = src>>16 + src&65535 + dst>>16 + dst&65535 + proto + len(b)
	}
	for i, x := range b {
		if i%2 == 0 {
			n += 256 * int(x)
		} else {
			n += int(x)
		}
	}
	for n > 65535 {
		n -= 65535
	}
	return uint16(n)
}

// datagram, segment and query are packets with these within, whose sums are right.
func datagram() api.V4 { return around(17, mended(17, src, dst, datagramBytes)) }
func noSum() api.V4    { return around(17, slices.Clone(noSumBytes)) }
func segment() api.V4  { return around(6, mended(6, src, dst, segmentBytes)) }
func query() api.V4    { return around(1, mended(1, src, dst, queryBytes)) }
func answer() api.V4   { return around(1, mended(1, src, dst, answerBytes)) }

// with is p, changed.
func with(p api.V4, change func(p *api.V4)) api.V4 {
	p.Options, p.Data = slices.Clone(p.Options), slices.Clone(p.Data)
	change(&p)
	return p
}

// within is p with a byte of its data changed, and no other sum for it.
func within(p api.V4, at int, x byte) api.V4 {
	return with(p, func(p *api.V4) { p.Data[at] = x })
}

// again is p with a byte of its data changed, and the sum that is right then.
func again(p api.V4, at int, x byte) api.V4 {
	p = within(p, at, x)
	p.Data = mended(p.Proto, p.Src, p.Dst, p.Data)
	return p
}

// spare is b with room behind that holds 0xEE.
func spare(b []byte) []byte {
	s := append(slices.Clone(b), bytes.Repeat([]byte{0xEE}, 8)...)
	return s[:len(b)]
}

// untouched fails if b, made by spare, is not want any more, or its room not as it was.
func untouched(t *testing.T, b, want []byte) {
	t.Helper()
	if !bytes.Equal(b, want) || !bytes.Equal(b[len(b):len(b)+8], bytes.Repeat([]byte{0xEE}, 8)) {
		t.Errorf("what was handed in is %v now, with %v behind; it was %v", b, b[len(b):len(b)+8], want)
	}
}

// equal is v4.Same in another way.
func equal(a, b api.V4) bool {
	return a.TOS == b.TOS && a.ID == b.ID && a.Off == b.Off && a.TTL == b.TTL && a.Proto == b.Proto && a.Src == b.Src && a.Dst == b.Dst &&
		a.DF == b.DF && a.MF == b.MF && string(a.Options) == string(b.Options) && string(a.Data) == string(b.Data)
}

func isZero(p api.V4) bool { return equal(p, api.V4{}) }

func some(r *rand.Rand, n int) []byte {
	b := make([]byte, n)
	for i := range b {
		b[i] = byte(r.IntN(256))
	}
	return b
}

// random is a packet that has ports.
func random(r *rand.Rand) api.V4 {
	p := api.V4{
		TOS: r.IntN(256), ID: r.IntN(65536), TTL: r.IntN(256), Src: int(r.Uint32()), Dst: int(r.Uint32()),
		DF: r.IntN(2) == 0, Options: some(r, 4*r.IntN(11)),
	}
	switch r.IntN(3) {
	case 0:
		p.Proto = api.ProtoUDP
		p.Data, _ = udp.Build(p.Src, p.Dst, api.UDP{Src: r.IntN(65536), Dst: r.IntN(65536), NoSum: r.IntN(4) == 0, Data: some(r, r.IntN(30))})
	case 1:
		p.Proto = api.ProtoTCP
		p.Data, _ = tcp.Build(p.Src, p.Dst, api.TCP{
			Src: r.IntN(65536), Dst: r.IntN(65536), Seq: int(r.Uint32()), Ack: int(r.Uint32()), Reserved: r.IntN(16), Flags: r.IntN(256),
			Window: r.IntN(65536), Urgent: r.IntN(65536), Options: some(r, 4*r.IntN(11)), Data: some(r, r.IntN(30)),
		})
	case 2:
		p.Proto = api.ProtoICMP
		p.Data, _ = icmp.Build(api.ICMP{Type: 8 * r.IntN(2), Code: r.IntN(256), Rest: int(r.Uint32()), Data: some(r, r.IntN(30))})
	}
	return p
}

// P11.1: Of, of packets that have ports.
func TestOf(t *testing.T) {
	for _, c := range []struct {
		name string
		p    api.V4
		want api.Ports
	}{
		{"a datagram", datagram(), api.Ports{Proto: 17, Src: 5000, Dst: 53}},
		{"a datagram without a sum", noSum(), api.Ports{Proto: 17, Src: 5000, Dst: 53}},
		{"a datagram without data", around(17, mended(17, src, dst, []byte{0, 1, 0, 2, 0, 8, 0, 0})), api.Ports{Proto: 17, Src: 1, Dst: 2}},
		{"a datagram of the port 0", again(again(datagram(), 0, 0), 1, 0), api.Ports{Proto: 17, Dst: 53}},
		{"a datagram of the last port", again(again(datagram(), 2, 255), 3, 255), api.Ports{Proto: 17, Src: 5000, Dst: 65535}},
		{"a segment", segment(), api.Ports{Proto: 6, Src: 5000, Dst: 80}},
		{"a segment of the port 0", again(segment(), 3, 0), api.Ports{Proto: 6, Src: 5000}},
		{"a segment of the last port", again(again(segment(), 0, 255), 1, 255), api.Ports{Proto: 6, Src: 65535, Dst: 80}},
		{"a query", query(), api.Ports{Proto: 1, Src: 5000, Dst: 5000}},
		{"an answer", answer(), api.Ports{Proto: 1, Src: 5000, Dst: 5000}},
		{"an identifier of 0", again(again(query(), 4, 0), 5, 0), api.Ports{Proto: 1}},
		{"the last identifier", again(again(query(), 4, 255), 5, 255), api.Ports{Proto: 1, Src: 65535, Dst: 65535}},
		{"no options, TTL 0", with(datagram(), func(p *api.V4) { p.TTL, p.DF, p.Options = 0, false, nil }), api.Ports{Proto: 17, Src: 5000, Dst: 53}},
		{"any ID and TOS", with(segment(), func(p *api.V4) { p.ID, p.TOS = 0, 255 }), api.Ports{Proto: 6, Src: 5000, Dst: 80}},
	} {
		if got, e := ports.Of(c.p); got != c.want || e != api.OK {
			t.Errorf("%s: Of = %v, %d; want %v", c.name, got, e, c.want)
		}
	}
}

// refused are packets that Of answers an error of.
var refused = []struct {
	name string
	p    api.V4
	want api.Errno
}{
	{"Src -1", with(datagram(), func(p *api.V4) { p.Src = -1 }), api.ErrArg},
	{"Dst 2^32", with(segment(), func(p *api.V4) { p.Dst = 1 << 32 }), api.ErrArg},
	{"TTL 256", with(query(), func(p *api.V4) { p.TTL = 256 }), api.ErrArg},
	{"Proto -1", with(query(), func(p *api.V4) { p.Proto = -1 }), api.ErrArg},
	{"Proto 17 and 256 more", with(datagram(), func(p *api.V4) { p.Proto += 256 }), api.ErrArg},
	{"Off -8", with(datagram(), func(p *api.V4) { p.Off = -8 }), api.ErrArg},
	{"Off 4", with(datagram(), func(p *api.V4) { p.Off = 4 }), api.ErrArg},
	{"3 bytes of options", with(datagram(), func(p *api.V4) { p.Options = p.Options[:3] }), api.ErrArg},
	{"MF with 11 bytes, ahead of ErrForm", with(datagram(), func(p *api.V4) { p.MF = true }), api.ErrArg},
	{"too long", around(17, make([]byte, 65512)), api.ErrLong},
	{"too long, ahead of ErrForm", with(around(6, make([]byte, 65504)), func(p *api.V4) { p.Off, p.MF = 40, true }), api.ErrLong},
	{"too long, ahead of ErrNone", around(50, make([]byte, 65512)), api.ErrLong},

	{"MF of a datagram", with(datagram(), func(p *api.V4) {
		p.MF, p.Data = true, mended(17, src, dst, []byte{0, 1, 0, 2, 0, 16, 0, 0, 1, 2, 3, 4, 5, 6, 7, 8})
	}), api.ErrForm},
	{"MF without data", with(datagram(), func(p *api.V4) { p.MF, p.Data = true, nil }), api.ErrForm},
	{"the last part of a datagram", with(datagram(), func(p *api.V4) { p.Off = 8 }), api.ErrForm},
	{"the last part of a segment", with(segment(), func(p *api.V4) { p.Off = 65488 }), api.ErrForm},
	{"the last part of a query", with(query(), func(p *api.V4) { p.Off = 8 }), api.ErrForm},
	{"a part, ahead of ErrShort", with(query(), func(p *api.V4) { p.Off, p.Data = 8, []byte{1} }), api.ErrForm},
	{"a part, ahead of ErrSum", with(within(datagram(), 8, 8), func(p *api.V4) { p.Off = 8 }), api.ErrForm},
	{"a part, ahead of ErrNone", with(around(50, nil), func(p *api.V4) { p.Off = 8 }), api.ErrForm},

	{"no datagram", around(17, nil), api.ErrShort},
	{"7 bytes of a datagram", around(17, datagramBytes[:7]), api.ErrShort},
	{"a datagram that is not all there", around(17, datagramBytes[:10]), api.ErrShort},
	{"a datagram that is less than there is", around(17, append(slices.Clone(noSumBytes), 0)), api.ErrForm},
	{"a datagram of 7 bytes", again(datagram(), 5, 7), api.ErrForm},
	{"a datagram with another sum", within(datagram(), 8, 8), api.ErrSum},
	{"a datagram from another", with(datagram(), func(p *api.V4) { p.Src++ }), api.ErrSum},
	{"a datagram to another", with(datagram(), func(p *api.V4) { p.Dst++ }), api.ErrSum},
	{"a datagram as if of TCP", with(datagram(), func(p *api.V4) { p.Proto = 6 }), api.ErrShort},

	{"no segment", around(6, nil), api.ErrShort},
	{"19 bytes of a segment", around(6, segmentBytes[:19]), api.ErrShort},
	{"a segment's head of 16", again(segment(), 12, 0x45), api.ErrForm},
	{"a segment's head of 32", again(segment(), 12, 0x85), api.ErrShort},
	{"a segment with another sum", within(segment(), 30, 12), api.ErrSum},
	{"a segment that is not all there", with(segment(), func(p *api.V4) { p.Data = p.Data[:30] }), api.ErrSum},
	{"a segment from another", with(segment(), func(p *api.V4) { p.Src++ }), api.ErrSum},
	{"a segment to another", with(segment(), func(p *api.V4) { p.Dst++ }), api.ErrSum},

	{"no message", around(1, nil), api.ErrShort},
	{"7 bytes of a message", around(1, queryBytes[:7]), api.ErrShort},
	{"a query with another sum", within(query(), 8, 6), api.ErrSum},
	{"a message that is no query, with another sum", within(query(), 0, 3), api.ErrSum},
	{"unreachable", again(query(), 0, 3), api.ErrNone},
	{"time exceeded", again(query(), 0, 11), api.ErrNone},

	{"nothing of the protocol 0", around(0, nil), api.ErrNone},
	{"IPv4", around(4, segmentBytes), api.ErrNone},
	{"messages of IPv6", around(58, queryBytes), api.ErrNone},
}

// P11.1: Of's errors, and which comes first; From and To have them, ahead of their own. R2: what stands beside them is zero.
func TestRefused(t *testing.T) {
	for _, c := range refused {
		if got, e := ports.Of(c.p); got != (api.Ports{}) || e != c.want {
			t.Errorf("%s: Of = %v, %d; want %d", c.name, got, e, c.want)
		}
		for _, at := range [][2]int{{outer, 7}, {-1, 7}, {outer, 65536}} {
			if got, e := ports.From(c.p, at[0], at[1]); !isZero(got) || e != c.want {
				t.Errorf("%s: From %v = %v, %d; want %d", c.name, at, got, e, c.want)
			}
			if got, e := ports.To(c.p, at[0], at[1]); !isZero(got) || e != c.want {
				t.Errorf("%s: To %v = %v, %d; want %d", c.name, at, got, e, c.want)
			}
		}
	}
}

// P11.1: packets of all other protocols have no ports, whatever is within.
func TestOtherProtocols(t *testing.T) {
	for proto := range 256 {
		if proto == 1 || proto == 6 || proto == 17 {
			continue
		}
		for _, p := range []api.V4{datagram(), segment(), query()} {
			p.Proto = proto
			if got, e := ports.Of(p); got != (api.Ports{}) || e != api.ErrNone {
				t.Errorf("of %d: Of = %v, %d", proto, got, e)
			}
			if got, e := ports.From(p, outer, 7); !isZero(got) || e != api.ErrNone {
				t.Errorf("of %d: From = %v, %d", proto, got, e)
			}
			if got, e := ports.To(p, outer, 7); !isZero(got) || e != api.ErrNone {
				t.Errorf("of %d: To = %v, %d", proto, got, e)
			}
		}
	}
}

// P11.1: of messages the queries alone have identifiers.
func TestOtherMessages(t *testing.T) {
	for kind := range 256 {
		p := again(query(), 0, byte(kind))
		got, e := ports.Of(p)
		if is := kind == 0 || kind == 8; is && (got != api.Ports{Proto: 1, Src: 5000, Dst: 5000} || e != api.OK) || !is && (got != api.Ports{} || e != api.ErrNone) {
			t.Errorf("of the type %d: Of = %v, %d", kind, got, e)
		}
	}
}

// P11.1: addresses that are none, and ports that are none.
func TestErrArg(t *testing.T) {
	for name, p := range map[string]api.V4{"datagram": datagram(), "without a sum": noSum(), "segment": segment(), "query": query(), "answer": answer()} {
		for _, at := range [][2]int{
			{-1, 7}, {1 << 32, 7}, {math.MinInt, 7}, {math.MaxInt, 7}, {outer + 1<<32, 7}, {outer - 1<<32, 7},
			{outer, -1}, {outer, 65536}, {outer, 65536 + 7}, {outer, 7 - 65536}, {outer, math.MinInt}, {outer, math.MaxInt},
			{-1, -1}, {1 << 32, 65536},
		} {
			if got, e := ports.From(p, at[0], at[1]); !isZero(got) || e != api.ErrArg {
				t.Errorf("%s: From %v = %v, %d", name, at, got, e)
			}
			if got, e := ports.To(p, at[0], at[1]); !isZero(got) || e != api.ErrArg {
				t.Errorf("%s: To %v = %v, %d", name, at, got, e)
			}
		}
	}
}

// placed is data with a port in this place, and the sum that is right between these addresses (none, where it had none).
func placed(p api.V4, at, src, dst, port int) []byte {
	b := slices.Clone(p.Data)
	binary.BigEndian.PutUint16(b[at:], uint16(port))
	if p.Proto == api.ProtoUDP && b[6] == 0 && b[7] == 0 {
		return b
	}
	return mended(p.Proto, src, dst, b)
}

// P11.1: From and To, byte by byte, at the bounds of addresses and ports: nothing but an address, a port or an identifier, and the sum, is another.
func TestFromAndTo(t *testing.T) {
	for _, c := range []struct {
		name            string
		p               api.V4
		srcPort, toPort int
	}{
		{"datagram", datagram(), 0, 2},
		{"without a sum", noSum(), 0, 2},
		{"segment", segment(), 0, 2},
		{"query", query(), 4, 4},
		{"answer", answer(), 4, 4},
	} {
		for _, at := range [][2]int{{outer, 7}, {0, 0}, {1<<32 - 1, 65535}, {src, 1}, {dst, 0x1234}, {0x7F000001, 65535}, {outer, 0}} {
			from, to := c.p, c.p
			from.Src, from.Data = at[0], placed(c.p, c.srcPort, at[0], dst, at[1])
			to.Dst, to.Data = at[0], placed(c.p, c.toPort, src, at[0], at[1])
			if got, e := ports.From(c.p, at[0], at[1]); !equal(got, from) || e != api.OK {
				t.Errorf("%s: From %v = %v, %d; want %v", c.name, at, got, e, from)
			}
			if got, e := ports.To(c.p, at[0], at[1]); !equal(got, to) || e != api.OK {
				t.Errorf("%s: To %v = %v, %d; want %v", c.name, at, got, e, to)
			}
		}
	}
}

// Example 1, and its bytes.
func TestExample(t *testing.T) {
	data, _ := udp.Build(0x0A000001, dst, api.UDP{Src: 5, Dst: 6, Data: []byte{1}})
	got, e := ports.From(api.V4{TTL: 64, Proto: 17, Src: 0x0A000001, Dst: dst, Data: data}, 0xC0000201, 7)
	if want := []byte{0, 7, 0, 6, 0, 9, 0x12, 0x99, 1}; e != api.OK || got.Src != 0xC0000201 || !bytes.Equal(got.Data, want) {
		t.Errorf("From = %v, %d; want the data %x", got, e, want)
	}
}

// P11.1: a datagram's sum that would be 0 is 65535, which tells that there is one.
func TestSumOfZero(t *testing.T) {
	p := around(17, mended(17, src, dst, []byte{0, 1, 0, 2, 0, 10, 0, 0, 0, 0}))
	sum := binary.BigEndian.Uint16(p.Data[6:]) // with the port sum more, all is 65535 without a sum
	got, e := ports.From(p, src, 1+int(sum))
	if want := []byte{byte((1 + sum) >> 8), byte(1 + sum), 0, 2, 0, 10, 255, 255, 0, 0}; e != api.OK || !bytes.Equal(got.Data, want) {
		t.Errorf("From = %x, %d; want %x", got.Data, e, want)
	}
}

// P11.1: the greatest packets of each protocol.
func TestGreatest(t *testing.T) {
	r := rand.New(rand.NewPCG(11, 0))
	var list []api.V4
	b, _ := udp.Build(src, dst, api.UDP{Src: 1, Dst: 2, Data: some(r, 65507)})
	list = append(list, api.V4{Proto: 17, Src: src, Dst: dst, Data: b})
	b, _ = tcp.Build(src, dst, api.TCP{Src: 1, Dst: 2, Options: make([]byte, 40), Data: some(r, 65435)})
	list = append(list, api.V4{Proto: 6, Src: src, Dst: dst, Options: make([]byte, 20), Data: b})
	b, _ = icmp.Build(api.ICMP{Type: 8, Data: some(r, 65507)})
	list = append(list, api.V4{Proto: 1, Src: src, Dst: dst, Data: b})
	for _, p := range list {
		got, e := ports.From(p, outer, 7)
		if e != api.OK || v4.Size(got) != v4.Size(p) || slow(p.Proto, outer, dst, got.Data) != 65535 {
			t.Errorf("From of the greatest packet of %d = %d bytes, %d", p.Proto, v4.Size(got), e)
		}
		if of, e := ports.Of(got); e != api.OK || of.Src != 7 {
			t.Errorf("Of From of the greatest packet of %d = %v, %d", p.Proto, of, e)
		}
	}
}

// R3: what From and To answer shares nothing with p, nor one of its lists with the other; p is not changed.
func TestSharesNothing(t *testing.T) {
	for name, p := range map[string]api.V4{"datagram": datagram(), "without a sum": noSum(), "segment": segment(), "query": query()} {
		for way, change := range map[string]func(api.V4, int, int) (api.V4, api.Errno){"From": ports.From, "To": ports.To} {
			in := p
			in.Options, in.Data = spare(p.Options), spare(p.Data)
			got, _ := change(in, outer, 7)
			want := with(got, func(*api.V4) {})
			_ = append(got.Options, bytes.Repeat([]byte{1}, 8)...)
			_ = append(got.Data, bytes.Repeat([]byte{2}, 8)...)
			if !equal(got, want) {
				t.Errorf("%s, %s: what was put behind a list came into the packet: %v", name, way, got)
			}
			for i := range got.Options {
				got.Options[i] = 99
			}
			for i := range got.Data {
				got.Data[i] = 98
			}
			untouched(t, in.Options, p.Options)
			untouched(t, in.Data, p.Data)
			kept, _ := change(in, outer, 7)
			clear(in.Options)
			clear(in.Data)
			if !equal(kept, want) {
				t.Errorf("%s, %s: the packet became %v with what was handed in", name, way, kept)
			}
		}
	}
}

// R3, R4: Of and Flags change nothing.
func TestOfChangesNothing(t *testing.T) {
	for _, p := range []api.V4{datagram(), segment(), query()} {
		in := p
		in.Options, in.Data = spare(p.Options), spare(p.Data)
		ports.Of(in)
		ports.Flags(in)
		untouched(t, in.Options, p.Options)
		untouched(t, in.Data, p.Data)
	}
}

// R6: no options and an empty list of them are the same.
func TestEmptyOptions(t *testing.T) {
	a, b := datagram(), datagram()
	a.Options, b.Options = nil, []byte{}
	one, e := ports.From(a, outer, 7)
	other, f := ports.From(b, outer, 7)
	if e != api.OK || f != api.OK || !equal(one, other) || len(one.Options) != 0 {
		t.Errorf("From = %v, %d and %v, %d", one, e, other, f)
	}
}

// P11.2: Flags of segments, whichever they have.
func TestFlags(t *testing.T) {
	for flags := range 256 {
		if got := ports.Flags(again(segment(), 13, byte(flags))); got != flags {
			t.Errorf("Flags of a segment with %d = %d", flags, got)
		}
	}
}

// P11.2: 0 of what is no segment, not all there, or refused by Of.
func TestNoFlags(t *testing.T) {
	for name, p := range map[string]api.V4{
		"datagram":           datagram(),
		"query":              query(),
		"zero":               {},
		"a segment of 4":     with(segment(), func(p *api.V4) { p.Proto = 4 }),
		"a datagram as long": around(17, mended(17, src, dst, append([]byte{0, 1, 0, 2, 0, 20, 0, 0}, segmentBytes[8:20]...))),
		"a first part":       with(segment(), func(p *api.V4) { p.MF, p.Data = true, mended(6, src, dst, segmentBytes[:24]) }),
		"a last part":        with(segment(), func(p *api.V4) { p.Off = 8 }),
		"no right sum":       within(segment(), 13, 2),
		"another address":    with(segment(), func(p *api.V4) { p.Src++ }),
		"TTL 256":            with(segment(), func(p *api.V4) { p.TTL = 256 }),
	} {
		if got := ports.Flags(p); got != 0 {
			t.Errorf("%s: Flags = %d", name, got)
		}
	}
	for _, c := range refused {
		if got := ports.Flags(c.p); got != 0 {
			t.Errorf("%s: Flags = %d", c.name, got)
		}
	}
}

// P11.3: From what it is from, p is p; Of From is the ports asked for. Likewise To.
func TestFollows(t *testing.T) {
	r := rand.New(rand.NewPCG(11, 3))
	for range 20000 {
		p := random(r)
		of, e := ports.Of(p)
		if e != api.OK || of.Proto != p.Proto {
			t.Fatalf("Of(%v) = %v, %d", p, of, e)
		}
		if got, e := ports.From(p, p.Src, of.Src); e != api.OK || !equal(got, p) {
			t.Fatalf("From what %v is from it is %v, %d", p, got, e)
		}
		if got, e := ports.To(p, p.Dst, of.Dst); e != api.OK || !equal(got, p) {
			t.Fatalf("To what %v is to it is %v, %d", p, got, e)
		}
		addr, port := int(r.Uint32()), r.IntN(65536)
		from, to := api.Ports{Proto: p.Proto, Src: port, Dst: of.Dst}, api.Ports{Proto: p.Proto, Src: of.Src, Dst: port}
		if p.Proto == api.ProtoICMP {
			from.Dst, to.Src = port, port
		}
		got, e := ports.From(p, addr, port)
		if asked, f := ports.Of(got); e != api.OK || f != api.OK || asked != from || got.Src != addr || got.Dst != p.Dst {
			t.Fatalf("From(%v, %#x, %d) = %v, %d, of %v", p, addr, port, got, e, asked)
		}
		if ports.Flags(got) != ports.Flags(p) {
			t.Fatalf("From(%v, %#x, %d) has other flags", p, addr, port)
		}
		got, e = ports.To(p, addr, port)
		if asked, f := ports.Of(got); e != api.OK || f != api.OK || asked != to || got.Dst != addr || got.Src != p.Src {
			t.Fatalf("To(%v, %#x, %d) = %v, %d, of %v", p, addr, port, got, e, asked)
		}
	}
}

// expected is Of's answer told in another way, from the packet's bytes, of a packet that may be.
func expected(p api.V4) (api.Ports, api.Errno) {
	b := p.Data
	least := map[int]int{17: 8, 6: 20, 1: 8}[p.Proto]
	switch {
	case p.MF || p.Off > 0:
		return api.Ports{}, api.ErrForm
	case least == 0:
		return api.Ports{}, api.ErrNone
	case len(b) < least:
		return api.Ports{}, api.ErrShort
	}
	port := func(at int) int { return int(b[at])*256 + int(b[at+1]) }
	switch {
	case p.Proto == 17 && (port(4) < 8 || port(4) < len(b)), p.Proto == 6 && b[12] < 0x50:
		return api.Ports{}, api.ErrForm
	case p.Proto == 17 && port(4) > len(b), p.Proto == 6 && int(b[12]>>4)*4 > len(b):
		return api.Ports{}, api.ErrShort
	case slow(p.Proto, p.Src, p.Dst, b) != 65535 && !(p.Proto == 17 && port(6) == 0):
		return api.Ports{}, api.ErrSum
	case p.Proto == 1 && b[0] != 0 && b[0] != 8:
		return api.Ports{}, api.ErrNone
	case p.Proto == 1:
		return api.Ports{Proto: 1, Src: port(4), Dst: port(4)}, api.OK
	}
	return api.Ports{Proto: p.Proto, Src: port(0), Dst: port(2)}, api.OK
}

// P11.1: packets that are near to such with ports.
func TestNearPackets(t *testing.T) {
	r := rand.New(rand.NewPCG(11, 1))
	met := map[api.Errno]int{}
	for range 100000 {
		p := random(r)
		if r.IntN(10) == 0 {
			p.Proto = []int{1, 6, 17, r.IntN(256)}[r.IntN(4)]
		}
		for range r.IntN(3) {
			p.Data[r.IntN(min(len(p.Data), 14))] ^= 1 << r.IntN(8)
		}
		if r.IntN(4) == 0 {
			p.Data = p.Data[:r.IntN(len(p.Data)+1)]
		}
		if at := sumAt[p.Proto]; at != 0 && len(p.Data) >= at+2 && r.IntN(2) == 0 {
			p.Data = mended(p.Proto, p.Src, p.Dst, p.Data)
		}
		if r.IntN(10) == 0 {
			p.Off = 8 * r.IntN(8000)
		}
		want, e := expected(p)
		met[e]++
		if got, f := ports.Of(p); got != want || f != e {
			t.Fatalf("Of(%v) = %v, %d; want %v, %d", p, got, f, want, e)
		}
		if got := ports.Flags(p); e == api.OK && p.Proto == 6 && got != int(p.Data[13]) || (e != api.OK || p.Proto != 6) && got != 0 {
			t.Fatalf("Flags(%v) = %d", p, got)
		}
	}
	for _, e := range []api.Errno{api.OK, api.ErrShort, api.ErrForm, api.ErrSum, api.ErrNone} {
		if met[e] < 1000 {
			t.Errorf("the test has met the error %d %d times", e, met[e])
		}
	}
}
