package quote_test

import (
	"bytes"
	"encoding/binary"
	"math"
	"math/rand/v2"
	"slices"
	"testing"

	"goosepond/api"
	"goosepond/icmp"
	"goosepond/ports"
	"goosepond/quote"
	"goosepond/tcp"
	"goosepond/udp"
	"goosepond/v4"
)

const (
	src = 0x0A000001
	dst = 0xC6336401

	outer = 0xC0000207
)

// What stands within, between src and dst, with right sums.
var (
	datagramBytes = []byte{0x13, 0x88, 0, 53, 0, 11, 0xA7, 0xDD, 7, 8, 9}
	noSumBytes    = []byte{0x13, 0x88, 0, 53, 0, 11, 0, 0, 7, 8, 9}
	segmentBytes  = []byte{
		0x13, 0x88, 0, 80, 1, 2, 3, 4, 0xA1, 0xB2, 0xC3, 0xD4, 0x50, 0x12, 0x23, 0x45, 0x6A, 0x5D, 0x67, 0x89, 9, 10,
	}
	queryBytes  = []byte{8, 0, 0xD8, 0x6F, 0x13, 0x88, 0, 2, 5, 6, 7}
	answerBytes = []byte{0, 3, 0xEC, 0x75, 0x13, 0x88, 0xFF, 0xFE}
)

// around is a packet with something in every field, options of so many bytes, and data within.
func around(proto, options int, data []byte) api.V4 {
	return api.V4{
		TOS: 0x1C, ID: 0xABCD, TTL: 63, Proto: proto, Src: src, Dst: dst, DF: true,
		Options: bytes.Repeat([]byte{1}, options), Data: data,
	}
}

// raw is the bytes of around.
func raw(proto, options int, data []byte) []byte {
	b, e := v4.Build(around(proto, options, data))
	if e != api.OK {
		panic("no packet")
	}
	return b
}

// edit is b, new, changed.
func edit(b []byte, change func(b []byte)) []byte {
	b = slices.Clone(b)
	change(b)
	return b
}

// spare is b with room behind that holds 0xEE.
func spare(b []byte) []byte {
	s := append(slices.Clone(b), bytes.Repeat([]byte{0xEE}, 8)...)
	return s[:len(b)]
}

// untouched fails if b, made by spare, is not want any more, or its room not as it was.
func untouched(t *testing.T, b, want []byte) {
	t.Helper()
	if !bytes.Equal(b, want) || !bytes.Equal(b[len(b):len(b)+8], bytes.Repeat([]byte{0xEE}, 8)) {
		t.Errorf("what was handed in is %x now, with %x behind; it was %x", b, b[len(b):len(b)+8], want)
	}
}

// isZero tells whether p is zero, lists of no bytes among it.
func isZero(p api.V4) bool {
	return v4.Same(p, api.V4{})
}

// says fails unless Ports answers these.
func says(t *testing.T, b []byte, want api.V4, n api.Ports) {
	t.Helper()
	if p, got, e := quote.Ports(b); !v4.Same(p, want) || got != n || e != api.OK {
		t.Errorf("Ports(%x) = %v, %v, %d; want %v, %v", b, p, got, e, want, n)
	}
}

// becomes fails unless From, or To, answers these bytes.
func becomes(t *testing.T, name string, b []byte, from bool, addr, port int, want []byte) {
	t.Helper()
	if got, e := either(from)(b, addr, port); !bytes.Equal(got, want) || e != api.OK {
		t.Errorf("%s, from %t: %x, %d; want %x", name, from, got, e, want)
	}
}

// either is From, or To.
func either(from bool) func(b []byte, addr, port int) ([]byte, api.Errno) {
	if from {
		return quote.From
	}
	return quote.To
}

// refused fails unless all calls answer this error, and nothing beside it.
func refused(t *testing.T, name string, b []byte, want api.Errno) {
	t.Helper()
	if p, n, e := quote.Ports(b); !isZero(p) || n != (api.Ports{}) || e != want {
		t.Errorf("%s: Ports = %v, %v, %d; want %d", name, p, n, e, want)
	}
	for _, from := range []bool{true, false} {
		for _, c := range [][2]int{{outer, 7}, {-1, 7}, {outer, 65536}} { // the packet's error comes ahead of the arguments'
			unchanged(t, name, b, from, c[0], c[1], want)
		}
	}
}

// unchanged fails unless From, or To, and Message answer this error, and nothing beside it.
func unchanged(t *testing.T, name string, b []byte, from bool, addr, port int, want api.Errno) {
	t.Helper()
	if got, e := either(from)(b, addr, port); len(got) != 0 || e != want {
		t.Errorf("%s, from %t, %d, %d: %x, %d; want %d", name, from, addr, port, got, e, want)
	}
	if m, e := quote.Message(api.ICMP{Type: 3, Code: 4, Rest: 5, Data: b}, from, addr, port); !icmp.Same(m, api.ICMP{}) || e != want {
		t.Errorf("%s: Message from %t, %d, %d = %v, %d; want %d", name, from, addr, port, m, e, want)
	}
}

// P26.2: the chapter's example.
func TestExample(t *testing.T) {
	b, e := quote.From(raw(api.ProtoUDP, 0, datagramBytes)[:28], outer, 7)
	if len(b) != 28 || e != api.OK {
		t.Errorf("From = %x, %d", b, e)
	}
}

// P26.1: ports, and identifiers, of what is all there, and of what is not.
func TestPorts(t *testing.T) {
	for _, c := range []struct {
		name  string
		proto int
		data  []byte
		want  api.Ports
	}{
		{"a datagram", api.ProtoUDP, datagramBytes, api.Ports{Proto: 17, Src: 5000, Dst: 53}},
		{"a datagram without a sum", api.ProtoUDP, noSumBytes, api.Ports{Proto: 17, Src: 5000, Dst: 53}},
		{"a datagram of another size", api.ProtoUDP, []byte{255, 254, 1, 0, 255, 255, 1, 2}, api.Ports{Proto: 17, Src: 65534, Dst: 256}},
		{"a segment", api.ProtoTCP, segmentBytes, api.Ports{Proto: 6, Src: 5000, Dst: 80}},
		{"a segment that could not be", api.ProtoTCP, make([]byte, 20), api.Ports{Proto: 6}},
		{"a query", api.ProtoICMP, queryBytes, api.Ports{Proto: 1, Src: 5000, Dst: 5000}},
		{"an answer", api.ProtoICMP, answerBytes, api.Ports{Proto: 1, Src: 5000, Dst: 5000}},
	} {
		for _, options := range []int{0, 4, 40} {
			b := raw(c.proto, options, c.data)
			for n := 8; n <= len(c.data); n++ {
				says(t, b[:20+options+n], around(c.proto, options, c.data[:n]), c.want)
			}
			says(t, append(b, 1, 2, 3), around(c.proto, options, c.data), c.want)
		}
	}
}

// P26.1: what a quoted packet need not be: its sum, its size, what it is a part of.
func TestPortsOfOddHeads(t *testing.T) {
	b := raw(api.ProtoUDP, 4, datagramBytes)
	n := api.Ports{Proto: 17, Src: 5000, Dst: 53}
	part := around(api.ProtoUDP, 4, datagramBytes)
	part.MF = true
	dead := around(api.ProtoUDP, 4, datagramBytes)
	dead.TTL = 0
	says(t, edit(b, func(b []byte) { b[10]++ }), around(api.ProtoUDP, 4, datagramBytes), n)
	says(t, edit(b, func(b []byte) { b[2], b[3] = 255, 255 }), around(api.ProtoUDP, 4, datagramBytes), n)
	says(t, edit(b, func(b []byte) { b[3] = 32 }), around(api.ProtoUDP, 4, datagramBytes[:8]), n)
	says(t, edit(b, func(b []byte) { b[6] |= 0x20 }), part, n)
	says(t, edit(b, func(b []byte) { b[8] = 0 }), dead, n)
}

// P26.1, P26.2: what is no packet, or has no ports, and which error comes first.
func TestErrors(t *testing.T) {
	whole := raw(api.ProtoUDP, 4, datagramBytes)
	other := raw(api.ProtoIP4, 4, datagramBytes)
	fault := edit(queryBytes, func(b []byte) { b[0] = 11 })
	off := func(b []byte) { b[7] = 1 }
	for _, c := range []struct {
		name string
		b    []byte
		want api.Errno
	}{
		{"nothing", nil, api.ErrShort},
		{"no bytes", []byte{}, api.ErrShort},
		{"19 bytes", whole[:19], api.ErrShort},
		{"19 bytes with an Off", edit(whole[:19], off), api.ErrShort},
		{"another version", edit(whole, func(b []byte) { b[0] = 0x66 }), api.ErrForm},
		{"another version, and too short", edit(whole[:20], func(b []byte) { b[0] = 0x66 }), api.ErrForm},
		{"a head of 16 bytes", edit(whole, func(b []byte) { b[0] = 0x44 }), api.ErrForm},
		{"a head beyond the end", edit(whole[:23], off), api.ErrShort},
		{"a size below the head", edit(whole, func(b []byte) { b[3] = 23 }), api.ErrForm},
		{"the bit 0x8000", edit(whole, func(b []byte) { b[6] = 0x80 }), api.ErrForm},
		{"an Off", edit(whole, off), api.ErrForm},
		{"the greatest Off", edit(whole, func(b []byte) { b[6], b[7] = 0x1F, 0xFF }), api.ErrForm},
		{"an Off, and MF", edit(whole, func(b []byte) { b[6], b[7] = 0x20, 1 }), api.ErrForm},
		{"an Off, and 7 bytes", edit(whole[:31], off), api.ErrForm},
		{"an Off, and another protocol", edit(other, off), api.ErrForm},
		{"no bytes within", whole[:24], api.ErrShort},
		{"7 bytes within", whole[:31], api.ErrShort},
		{"7 bytes, as the size tells", edit(whole, func(b []byte) { b[3] = 31 }), api.ErrShort},
		{"7 bytes of a segment", raw(api.ProtoTCP, 0, segmentBytes)[:27], api.ErrShort},
		{"7 bytes of a query", raw(api.ProtoICMP, 0, queryBytes)[:27], api.ErrShort},
		{"7 bytes of another protocol", other[:31], api.ErrShort},
		{"no bytes of ICMP", raw(api.ProtoICMP, 0, nil), api.ErrShort},
		{"another protocol", other, api.ErrNone},
		{"the protocol 0", raw(0, 0, datagramBytes), api.ErrNone},
		{"the protocol 58", raw(api.ProtoICMP6, 0, queryBytes), api.ErrNone},
		{"the protocol 255", raw(255, 0, datagramBytes), api.ErrNone},
		{"a fault", raw(api.ProtoICMP, 0, fault), api.ErrNone},
	} {
		refused(t, c.name, c.b, c.want)
	}
	for kind := range 256 {
		if b := raw(api.ProtoICMP, 0, edit(queryBytes, func(b []byte) { b[0] = byte(kind) })); kind != 0 && kind != 8 {
			refused(t, "ICMP of another kind", b, api.ErrNone)
		}
	}
}

// P26.2: addresses and ports that may not be, and those that just may.
func TestArguments(t *testing.T) {
	for name, b := range map[string][]byte{
		"a datagram": raw(api.ProtoUDP, 0, datagramBytes),
		"a segment":  raw(api.ProtoTCP, 4, segmentBytes)[:32],
		"a query":    raw(api.ProtoICMP, 40, queryBytes),
	} {
		for _, from := range []bool{true, false} {
			for _, c := range [][2]int{
				{-1, 7}, {1 << 32, 7}, {math.MinInt, 7}, {math.MaxInt, 7},
				{outer, -1}, {outer, 65536}, {outer, math.MinInt}, {outer, math.MaxInt}, {-1, 65536},
			} {
				unchanged(t, name, b, from, c[0], c[1], api.ErrArg)
			}
			for _, c := range [][2]int{{0, 0}, {1<<32 - 1, 65535}, {0, 65535}, {1<<32 - 1, 0}} {
				if got, e := either(from)(b, c[0], c[1]); len(got) != len(b) || e != api.OK {
					t.Errorf("%s, from %t, %v: %x, %d", name, from, c, got, e)
				}
			}
		}
	}
}

// P26.2: all bytes of a datagram from, and to, 192.0.2.7 port 7.
func TestBytes(t *testing.T) {
	b := []byte{
		0x45, 0, 0, 28, 0, 0, 0, 0, 64, 17, 0x46, 0x9C, 10, 0, 0, 1, 198, 51, 100, 1,
		0x13, 0x88, 0, 53, 0, 8, 0xB7, 0xEB,
	}
	becomes(t, "a datagram", b, true, outer, 7, []byte{
		0x45, 0, 0, 28, 0, 0, 0, 0, 64, 17, 0x8E, 0x95, 192, 0, 2, 7, 198, 51, 100, 1,
		0, 7, 0, 53, 0, 8, 0x13, 0x66,
	})
	becomes(t, "a datagram", b, false, outer, 7, []byte{
		0x45, 0, 0, 28, 0, 0, 0, 0, 64, 17, 0xAE, 0xC9, 10, 0, 0, 1, 192, 0, 2, 7,
		0x13, 0x88, 0, 7, 0, 8, 0x20, 0x47,
	})
}

// at16 is the number of two bytes.
func at16(b []byte, at int) int {
	return int(binary.BigEndian.Uint16(b[at:]))
}

// slow is what a sum becomes, by a remainder: 65535 less what is not 0 stays so.
func slow(sum int, old, now []byte) int {
	n := 65535 - sum
	for i := 0; i < len(old); i += 2 {
		n += 65535 - at16(old, i) + at16(now, i)
	}
	if n > 0 {
		n = (n-1)%65535 + 1
	}
	return 65535 - n
}

// sumAt is where the sum of what a protocol has within stands.
var sumAt = map[int]int{api.ProtoUDP: 6, api.ProtoTCP: 16, api.ProtoICMP: 2}

// expected is what From, or To, says of what Ports takes, told in another way, by P26.2's words.
func expected(b []byte, from bool, addr, port int) []byte {
	out := slices.Clone(b)
	head, size, proto := int(b[0]%16)*4, min(at16(b, 2), len(b)), int(b[9])
	a, n := 12, head
	if !from {
		a, n = 16, head+2
	}
	if proto == api.ProtoICMP {
		n = head + 4
	}
	binary.BigEndian.PutUint32(out[a:], uint32(addr))
	binary.BigEndian.PutUint16(out[n:], uint16(port))
	binary.BigEndian.PutUint16(out[10:], uint16(slow(at16(b, 10), b[a:a+4], out[a:a+4])))
	s := head + sumAt[proto]
	if s+2 > size || proto == api.ProtoUDP && at16(b, s) == 0 {
		return out
	}
	old, now := b[n:n+2], out[n:n+2]
	if proto != api.ProtoICMP {
		old, now = slices.Concat(b[a:a+4], old), slices.Concat(out[a:a+4], now)
	}
	changed := slow(at16(b, s), old, now)
	if proto == api.ProtoUDP && changed == 0 {
		changed = 65535
	}
	binary.BigEndian.PutUint16(out[s:], uint16(changed))
	return out
}

// P26.2: what is cut at each place, with and without options, and with bytes behind: as many bytes stay, and the sum of a segment changes where all of it is there.
func TestCutAnywhere(t *testing.T) {
	for name, c := range map[string]struct {
		proto int
		data  []byte
	}{
		"a datagram":              {api.ProtoUDP, datagramBytes},
		"a datagram without sum":  {api.ProtoUDP, noSumBytes},
		"a segment":               {api.ProtoTCP, segmentBytes},
		"a query":                 {api.ProtoICMP, queryBytes},
		"an answer":               {api.ProtoICMP, answerBytes},
		"a segment with sum zero": {api.ProtoTCP, make([]byte, 20)},
	} {
		for _, options := range []int{0, 4, 40} {
			b := append(raw(c.proto, options, c.data), 0xA5, 0x5A, 1)
			for n := 20 + options + 8; n <= len(b); n++ {
				for _, from := range []bool{true, false} {
					becomes(t, name, b[:n], from, outer, 0xFEDC, expected(b[:n], from, outer, 0xFEDC))
				}
			}
		}
	}
}

// P26.2: where the sum of a segment is, and is not: its place must be there in the packet as its size tells, with both its bytes.
func TestSumOfSegment(t *testing.T) {
	b := raw(api.ProtoTCP, 0, segmentBytes)
	for _, c := range []struct {
		name string
		b    []byte
		sum  bool
	}{
		{"all", b, true},
		{"18 bytes", b[:38], true},
		{"17 bytes", b[:37], false},
		{"16 bytes", b[:36], false},
		{"8 bytes", b[:28], false},
		{"18 bytes by its size", edit(b, func(b []byte) { b[3] = 38 }), true},
		{"17 bytes by its size", edit(b, func(b []byte) { b[3] = 37 }), false},
		{"8 bytes by its size", edit(b, func(b []byte) { b[3] = 28 }), false},
	} {
		for _, from := range []bool{true, false} {
			got, e := either(from)(c.b, outer, 7)
			if e != api.OK || len(got) != len(c.b) {
				t.Fatalf("%s, from %t: %x, %d", c.name, from, got, e)
			}
			if changed := !bytes.Equal(got[min(36, len(got)):], c.b[min(36, len(got)):]); changed != c.sum {
				t.Errorf("%s, from %t: %x became %x", c.name, from, c.b, got)
			}
		}
	}
}

// P26.2: a sum that becomes 0, and one that is 0: of UDP the one is told as 65535, and the other means that there is none.
func TestSumsOfZero(t *testing.T) {
	for _, c := range []struct {
		name           string
		proto, at      int
		sum, port, now int
	}{
		{"UDP, it becomes 0", api.ProtoUDP, 6, 1, 5001, 65535},
		{"UDP, it is none", api.ProtoUDP, 6, 0, 5001, 0},
		{"UDP, it is 65535", api.ProtoUDP, 6, 65535, 5001, 65534},
		{"UDP, it stays 65535", api.ProtoUDP, 6, 65535, 5000, 65535},
		{"UDP, it is 2", api.ProtoUDP, 6, 2, 5001, 1},
		{"TCP, it becomes 0", api.ProtoTCP, 16, 1, 5001, 0},
		{"TCP, it is 0", api.ProtoTCP, 16, 0, 5001, 65534},
		{"TCP, it is 65535", api.ProtoTCP, 16, 65535, 5001, 65534},
		{"ICMP, it becomes 0", api.ProtoICMP, 2, 1, 5001, 0},
		{"ICMP, it is 0", api.ProtoICMP, 2, 0, 5001, 65534},
		{"ICMP, it is 65535", api.ProtoICMP, 2, 65535, 5001, 65534},
	} {
		data := make([]byte, 18)
		port := 0
		if c.proto == api.ProtoICMP {
			data[0], port = 8, 4
		}
		binary.BigEndian.PutUint16(data[port:], 5000)
		binary.BigEndian.PutUint16(data[c.at:], uint16(c.sum))
		b := raw(c.proto, 0, data)
		want := slices.Clone(b)
		binary.BigEndian.PutUint16(want[20+port:], uint16(c.port))
		binary.BigEndian.PutUint16(want[20+c.at:], uint16(c.now))
		becomes(t, c.name, b, true, src, c.port, want)
	}
}

// P26.2: the address counts in the sums of UDP and TCP alone, and the port in that of the head never.
func TestWhatSumsAreOf(t *testing.T) {
	b := raw(api.ProtoICMP, 0, queryBytes)
	for _, from := range []bool{true, false} {
		if got, _ := either(from)(b, outer, 5000); !bytes.Equal(got[20:], b[20:]) || bytes.Equal(got[10:12], b[10:12]) {
			t.Errorf("from %t: another address made %x of %x", from, got, b)
		}
	}
	for _, x := range [][]byte{b, raw(api.ProtoUDP, 0, datagramBytes), raw(api.ProtoTCP, 0, segmentBytes)} {
		if got, _ := quote.From(x, src, 9); !bytes.Equal(got[:20], x[:20]) || bytes.Equal(got[20:], x[20:]) {
			t.Errorf("another port made %x of %x", got, x)
		}
		if got, _ := quote.To(x, dst, 9); !bytes.Equal(got[:20], x[:20]) || bytes.Equal(got[20:], x[20:]) {
			t.Errorf("another port made %x of %x", got, x)
		}
	}
}

// P26.2: what is what it was from, or to, stays as it is.
func TestSame(t *testing.T) {
	for _, b := range [][]byte{
		raw(api.ProtoUDP, 4, datagramBytes), raw(api.ProtoUDP, 0, noSumBytes), raw(api.ProtoTCP, 40, segmentBytes),
		raw(api.ProtoICMP, 0, queryBytes), raw(api.ProtoICMP, 8, answerBytes),
	} {
		_, n, e := quote.Ports(b)
		if e != api.OK {
			t.Fatalf("Ports(%x) = %d", b, e)
		}
		becomes(t, "the same", b, true, src, n.Src, b)
		becomes(t, "the same", b, false, dst, n.Dst, b)
	}
}

// P26.3: messages, with their quotes as From and To say; nothing else of them counts.
func TestMessage(t *testing.T) {
	b := raw(api.ProtoTCP, 0, segmentBytes)[:28]
	for _, m := range []api.ICMP{
		{Data: b},
		{Type: 3, Code: 4, Rest: 1400, Data: b},
		{Type: 11, Code: 1, Rest: 0xFFFFFFFF, Data: b},
		{Type: 8, Code: 255, Rest: 7, Data: b},
		{Type: -1, Code: 256, Rest: math.MinInt, Data: b},
	} {
		for _, from := range []bool{true, false} {
			want := m
			want.Data, _ = either(from)(b, outer, 7)
			if got, e := quote.Message(m, from, outer, 7); !icmp.Same(got, want) || e != api.OK || bytes.Equal(want.Data, b) {
				t.Errorf("Message(%v, %t) = %v, %d; want %v", m, from, got, e, want)
			}
		}
	}
}

// P26.3: From is of who sent what is quoted, To of who was to get it.
func TestMessageSides(t *testing.T) {
	m := api.ICMP{Type: 3, Code: 3, Data: raw(api.ProtoUDP, 0, datagramBytes)}
	out, _ := quote.Message(m, true, outer, 7)
	back, _ := quote.Message(m, false, outer, 7)
	sent, got := around(api.ProtoUDP, 0, nil), around(api.ProtoUDP, 0, nil)
	sent.Src, got.Dst = outer, outer
	sent.Data, got.Data = out.Data[20:], back.Data[20:]
	says(t, out.Data, sent, api.Ports{Proto: 17, Src: 7, Dst: 53})
	says(t, back.Data, got, api.Ports{Proto: 17, Src: 5000, Dst: 7})
}

// R3: what is handed in is not changed, nor its room, and what is answered shares nothing with it.
func TestSharesNothing(t *testing.T) {
	for _, was := range [][]byte{
		raw(api.ProtoUDP, 4, datagramBytes), raw(api.ProtoTCP, 4, segmentBytes), raw(api.ProtoICMP, 4, queryBytes),
	} {
		b := spare(was)
		p, _, _ := quote.Ports(b)
		from, _ := quote.From(b, outer, 7)
		to, _ := quote.To(b, outer, 7)
		m, _ := quote.Message(api.ICMP{Data: b}, true, outer, 7)
		for _, l := range [][]byte{p.Options, p.Data, from, to, m.Data} {
			_ = append(l, 1, 2, 3, 4, 5, 6, 7, 8)
			for i := range l {
				l[i] = 99
			}
		}
		untouched(t, b, was)
		if q, _, _ := quote.Ports(b); q.Data[0] == 99 || q.Options[0] == 99 {
			t.Errorf("Ports of %x is %v", b, q)
		}
		again, _ := quote.From(b, outer, 7)
		want := slices.Clone(again)
		clear(b)
		if !bytes.Equal(again, want) {
			t.Errorf("From became %x with its bytes", again)
		}
	}
}

func some(r *rand.Rand, n int) []byte {
	b := make([]byte, n)
	for i := range b {
		b[i] = byte(r.IntN(256))
	}
	return b
}

// random is a packet with ports that is all there, with right sums.
func random(r *rand.Rand) api.V4 {
	p := api.V4{
		TOS: r.IntN(256), ID: r.IntN(65536), TTL: r.IntN(256), Src: int(r.Uint32()), Dst: int(r.Uint32()),
		DF: r.IntN(2) == 0, Options: some(r, 4*r.IntN(11)),
	}
	switch data := some(r, r.IntN(30)); r.IntN(3) {
	case 0:
		p.Proto = api.ProtoUDP
		p.Data, _ = udp.Build(p.Src, p.Dst, api.UDP{Src: r.IntN(65536), Dst: r.IntN(65536), NoSum: r.IntN(4) == 0, Data: data})
	case 1:
		p.Proto = api.ProtoTCP
		p.Data, _ = tcp.Build(p.Src, p.Dst, api.TCP{Src: r.IntN(65536), Dst: r.IntN(65536), Seq: int(r.Uint32()), Flags: r.IntN(256), Data: data})
	case 2:
		p.Proto = api.ProtoICMP
		p.Data, _ = icmp.Build(api.ICMP{Type: 8 * r.IntN(2), Code: r.IntN(256), Rest: int(r.Uint32()), Data: data})
	}
	return p
}

// P26.2, P26.4: of a packet that is all there From is what Build makes of the packet from there, so that all sums stay right; To likewise.
func TestWholePackets(t *testing.T) {
	r := rand.New(rand.NewPCG(26, 2))
	for range 20000 {
		p := random(r)
		b, e := v4.Build(p)
		addr, port := int(r.Uint32()), r.IntN(65536)
		from, f := ports.From(p, addr, port)
		to, g := ports.To(p, addr, port)
		if e != api.OK || f != api.OK || g != api.OK {
			t.Fatalf("%v: %d, %d, %d", p, e, f, g)
		}
		sent, _ := v4.Build(from)
		got, _ := v4.Build(to)
		becomes(t, "a whole packet", b, true, addr, port, sent)
		becomes(t, "a whole packet", b, false, addr, port, got)
	}
}

// near is bytes that a packet begins with, or nearly so, with any sums.
func near(r *rand.Rand) []byte {
	p := random(r)
	if r.IntN(2) == 0 {
		p.Data = append(p.Data[:len(p.Data):len(p.Data)], some(r, r.IntN(40))...)
	}
	b, _ := v4.Build(p)
	if r.IntN(2) == 0 {
		copy(b[10:12], some(r, 2))
	}
	for range r.IntN(3) {
		b[r.IntN(len(b))] ^= 1 << r.IntN(8)
	}
	b = append(b, some(r, r.IntN(10))...)
	return b[:len(b)-r.IntN(3)*r.IntN(len(b))/2]
}

// taken is Ports's error, told in another way, by P26.1's words.
func taken(b []byte) api.Errno {
	p, e := v4.Quoted(b)
	switch {
	case e != api.OK:
		return e
	case p.Off != 0:
		return api.ErrForm
	case len(p.Data) <= 7:
		return api.ErrShort
	case p.Proto == 6, p.Proto == 17, p.Proto == 1 && p.Data[0]|8 == 8:
		return api.OK
	}
	return api.ErrNone
}

// P26.1 to P26.4: bytes that are near to packets. What is answered has the ports that were asked for, as many bytes, and all else as it was.
func TestNearPackets(t *testing.T) {
	r := rand.New(rand.NewPCG(26, 4))
	met := map[api.Errno]int{}
	for range 50000 {
		b, addr, port := near(r), int(r.Uint32()), r.IntN(65536)
		want := taken(b)
		met[want]++
		if want != api.OK {
			refused(t, "near to a packet", b, want)
			continue
		}
		p, n, e := quote.Ports(b)
		if q, _ := v4.Quoted(b); e != api.OK || !v4.Same(p, q) || n.Proto != p.Proto {
			t.Fatalf("Ports(%x) = %v, %v, %d", b, p, n, e)
		}
		for _, from := range []bool{true, false} {
			becomes(t, "near to a packet", b, from, addr, port, expected(b, from, addr, port))
			got, _ := either(from)(b, addr, port)
			q, m, e := quote.Ports(got)
			if e != api.OK || len(got) != len(b) || m != asked(n, from, port) || side(q, from) != addr || side(q, !from) != side(p, !from) {
				t.Fatalf("Ports of %x, from %t, %d, %d is %v, %v, %d", b, from, addr, port, q, m, e)
			}
		}
		if t.Failed() {
			return
		}
	}
	for _, e := range []api.Errno{api.OK, api.ErrShort, api.ErrForm, api.ErrNone} {
		if met[e] < 100 {
			t.Errorf("the test has met the error %d %d times", e, met[e])
		}
	}
}

// asked is n with this port on the one side, or as the identifier.
func asked(n api.Ports, from bool, port int) api.Ports {
	if from || n.Proto == api.ProtoICMP {
		n.Src = port
	}
	if !from || n.Proto == api.ProtoICMP {
		n.Dst = port
	}
	return n
}

// side is p's address on the one side.
func side(p api.V4, from bool) int {
	if from {
		return p.Src
	}
	return p.Dst
}
