package relay_test

import (
	"bytes"
	"math"
	"math/rand/v2"
	"reflect"
	"slices"
	"testing"

	"goosepond/api"
	"goosepond/errs"
	"goosepond/icmp"
	"goosepond/icmp6"
	"goosepond/relay"
	"goosepond/udp"
	"goosepond/v4"
	"goosepond/v6"
	"goosepond/wrap"
)

const (
	host = 0x0A000001 // 10.0.0.1
	far  = 0xCB007101 // 203.0.113.1
	self = 0xC0000002 // 192.0.0.2
)

// own and peer are the tunnel's ends; on is one between them, which tells.
var (
	own  = api.Six{0x20, 1, 2, 3, 4, 5, 6, 7, 8, 9, 10, 11, 12, 13, 14, 15}
	peer = api.Six{0x20, 21, 22, 23, 24, 25, 26, 27, 28, 29, 30, 31, 32, 33, 34, 35}
	on   = api.Six{0x20, 41, 42, 43, 44, 45, 46, 47, 48, 49, 50, 51, 52, 53, 54, 55}
)

// sent is the bytes of a datagram with so many bytes of data, with changes.
func sent(t *testing.T, data int, changes ...func(*api.V4)) []byte {
	t.Helper()
	d, e := udp.Build(host, far, api.UDP{Src: 5000, Dst: 53, Data: bytes.Repeat([]byte{1, 2, 3}, data)[:data]})
	if e != api.OK {
		t.Fatal(e)
	}
	p := api.V4{TOS: 4, ID: 5, TTL: 63, Proto: 17, Src: host, Dst: far, Data: d}
	for _, change := range changes {
		change(&p)
	}
	b, e := v4.Build(p)
	if e != api.OK {
		t.Fatal(e)
	}
	return b
}

// outer is the bytes of a packet of IPv6 from own to peer, with changes.
func outer(t *testing.T, next int, data []byte, changes ...func(*api.V6)) []byte {
	t.Helper()
	p := api.V6{Next: next, Hop: 64, Src: own, Dst: peer, Data: data}
	for _, change := range changes {
		change(&p)
	}
	b, e := v6.Build(p)
	if e != api.OK {
		t.Fatal(e)
	}
	return b
}

// frag is data behind a fragment header.
func frag(t *testing.T, f api.Frag, data []byte) []byte {
	t.Helper()
	b, e := v6.BuildFrag(f)
	if e != api.OK {
		t.Fatal(e)
	}
	return append(b, data...)
}

// tells fails unless Of answers this.
func tells(t *testing.T, name string, m api.ICMP, want relay.Told) {
	t.Helper()
	got, e := relay.Of(own, m)
	same := got.Peer == want.Peer && got.Kind == want.Kind && got.Code == want.Code && got.Rest == want.Rest && bytes.Equal(got.Inner, want.Inner)
	if e != api.OK || !same {
		t.Errorf("%s: Of = %v, %d; want %v", name, got, e, want)
	}
}

// refuses fails unless Of answers this error, and nothing beside it.
func refuses(t *testing.T, name string, m api.ICMP, want api.Errno) {
	t.Helper()
	if got, e := relay.Of(own, m); e != want || !reflect.DeepEqual(got, relay.Told{}) {
		t.Errorf("%s: Of = %v, %d; want %d", name, got, e, want)
	}
}

// P30.1: the chapter's example, and the bounds of what is too big.
func TestTableTooBig(t *testing.T) {
	for _, c := range []struct{ rest, want int }{
		{1400, 1360},
		{1280, 1240},
		{math.MinInt, 68}, {math.MinInt + 39, 68}, {-1, 68}, {0, 68}, {40, 68}, {67, 68}, {68, 68}, {107, 68}, {108, 68}, {109, 69},
		{65535, 65495}, {65536, 65496}, {65574, 65534}, {65575, 65535}, {65576, 65535}, {1<<32 - 1, 65535}, {math.MaxInt, 65535},
	} {
		for _, code := range []int{0, 1, -1, 255, math.MaxInt} {
			kind, told, rest, ok := relay.Table(2, code, c.rest)
			if kind != 3 || told != 4 || rest != c.want || !ok {
				t.Errorf("Table(2, %d, %d) = %d, %d, %d, %t; want 3, 4, %d", code, c.rest, kind, told, rest, ok, c.want)
			}
		}
	}
}

// P30.1: all other kinds, whatever their code and rest.
func TestTableOthers(t *testing.T) {
	kinds := []int{math.MinInt, math.MaxInt, -1, -2, 256, 257, 258}
	for kind := range 256 {
		kinds = append(kinds, kind)
	}
	for _, kind := range kinds {
		if kind == 2 {
			continue
		}
		known := kind == 1 || kind == 3 || kind == 4
		want := [3]int{}
		if known {
			want = [3]int{3, 1, 0}
		}
		for _, code := range []int{0, 1, 4, -1} {
			for _, rest := range []int{0, 1400, -1, math.MinInt} {
				k, c, r, ok := relay.Table(kind, code, rest)
				if got := [3]int{k, c, r}; got != want || ok != known {
					t.Errorf("Table(%d, %d, %d) = %v, %t", kind, code, rest, got, ok)
				}
			}
		}
	}
}

// P30.2: of whole packets within, of each kind.
func TestOf(t *testing.T) {
	b := sent(t, 30)
	q := outer(t, 4, b)
	tells(t, "too big", api.ICMP{Type: 2, Rest: 1400, Data: q}, relay.Told{Peer: peer, Kind: 3, Code: 4, Rest: 1360, Inner: b})
	for _, kind := range []int{1, 3, 4} {
		m := api.ICMP{Type: kind, Code: 3, Rest: 1400, Data: q}
		tells(t, "another kind", m, relay.Told{Peer: peer, Kind: 3, Code: 1, Inner: b})
	}
}

// P30.2: kinds that tell of nothing, whatever they quote; this goes first.
func TestOfKinds(t *testing.T) {
	for _, kind := range []int{math.MinInt, -1, 0, 5, 100, 127, 128, 129, 135, 255, 256, 258, math.MaxInt} {
		refuses(t, "another kind", api.ICMP{Type: kind, Data: outer(t, 4, sent(t, 30))}, api.ErrNone)
		refuses(t, "another kind, nothing quoted", api.ICMP{Type: kind}, api.ErrNone)
	}
}

// P30.2: what the message's own numbers are otherwise is not looked at.
func TestOfWildNumbers(t *testing.T) {
	b := sent(t, 30)
	m := api.ICMP{Type: 2, Code: -1, Rest: math.MinInt, Data: outer(t, 4, b)}
	tells(t, "wild", m, relay.Told{Peer: peer, Kind: 3, Code: 4, Rest: 68, Inner: b})
}

// P30.2: what is quoted of the tunnel's packet.
func TestOfOuter(t *testing.T) {
	b := sent(t, 30)
	q := outer(t, 4, b)
	told := func(inner []byte) relay.Told {
		return relay.Told{Peer: peer, Kind: 3, Code: 4, Rest: 1360, Inner: inner}
	}
	set := func(at int, to ...byte) []byte {
		c := slices.Clone(q)
		copy(c[at:], to)
		return c
	}
	message := func(data []byte) api.ICMP { return api.ICMP{Type: 2, Rest: 1400, Data: data} }

	tells(t, "bytes behind it", message(append(slices.Clone(q), 1, 2, 3)), told(b))
	tells(t, "a part of it", message(q[:40+20+10]), told(b[:30]))
	tells(t, "as little as will do", message(q[:40+28]), told(b[:28]))
	tells(t, "a size that tells less", message(set(4, 0, 28)), told(b[:28]))
	tells(t, "another traffic, flow and hop", message(set(0, 0x61, 0x23, 0x45, 0x67)), told(b))
	tells(t, "a hop that is over", message(set(7, 0)), told(b))
	tells(t, "to nobody", message(outer(t, 4, b, func(p *api.V6) { p.Dst = api.Six{} })), relay.Told{Kind: 3, Code: 4, Rest: 1360, Inner: b})

	refuses(t, "nothing", message(nil), api.ErrShort)
	refuses(t, "no bytes", message([]byte{}), api.ErrShort)
	refuses(t, "less than a head", message(q[:39]), api.ErrShort)
	refuses(t, "of IPv4", message(set(0, 0x45)), api.ErrForm)
	refuses(t, "of IPv4, less than a head", message(set(0, 0x45)[:39]), api.ErrShort)
	refuses(t, "of another's, of IPv4", message(set(0, 0x40, 0, 0, 0, 0, 0, 0, 0, 1)), api.ErrForm)
	for at := 8; at < 24; at++ {
		refuses(t, "of another", message(set(at, q[at]^1)), api.ErrNone)
	}
	refuses(t, "from peer to own", message(outer(t, 4, b, func(p *api.V6) { p.Src, p.Dst = peer, own })), api.ErrNone)
	refuses(t, "of another, of another Next", message(outer(t, 17, b, func(p *api.V6) { p.Src = on })), api.ErrNone)
	refuses(t, "of another, nothing within", message(outer(t, 4, nil, func(p *api.V6) { p.Src = on })), api.ErrNone)
	for _, next := range []int{0, 1, 3, 5, 6, 17, 41, 43, 45, 58, 60, 255} {
		refuses(t, "of another Next", message(outer(t, next, b)), api.ErrForm)
		refuses(t, "of another Next, nothing within", message(outer(t, next, nil)), api.ErrForm)
	}
}

// P30.2: an element whose address is none's still has one.
func TestOfNobody(t *testing.T) {
	q := outer(t, 4, sent(t, 30), func(p *api.V6) { p.Src = api.Six{} })
	if got, e := relay.Of(api.Six{}, api.ICMP{Type: 1, Data: q}); e != api.OK || got.Peer != peer {
		t.Errorf("Of = %v, %d", got, e)
	}
}

// P30.2: fragments in the tunnel.
func TestOfFragments(t *testing.T) {
	b := sent(t, 100)
	first := api.Frag{Next: 4, ID: 7, More: true}
	told := func(inner []byte) relay.Told { return relay.Told{Peer: peer, Kind: 3, Code: 1, Inner: inner} }
	message := func(data []byte) api.ICMP { return api.ICMP{Type: 3, Code: 1, Data: outer(t, 44, data)} }

	tells(t, "the first one", message(frag(t, first, b[:48])), told(b[:48]))
	tells(t, "the first one, with as little as will do", message(frag(t, first, b[:28])), told(b[:28]))
	tells(t, "the only one", message(frag(t, api.Frag{Next: 4}, b)), told(b))
	odd := frag(t, first, b[:48])
	odd[1], odd[3] = 0xFF, odd[3]|6
	tells(t, "bits that are nothing", message(odd), told(b[:48]))
	tells(t, "a head and a part of it", api.ICMP{Type: 4, Data: outer(t, 44, frag(t, first, b))[:40+8+28]}, told(b[:28]))

	refuses(t, "nothing behind", message(nil), api.ErrShort)
	refuses(t, "less than a fragment header", message(frag(t, first, nil)[:7]), api.ErrShort)
	refuses(t, "less than a fragment header, of another Next", message(frag(t, api.Frag{Next: 17}, nil)[:7]), api.ErrShort)
	refuses(t, "a fragment header alone", message(frag(t, first, nil)), api.ErrShort)
	refuses(t, "less than a head of IPv4", message(frag(t, first, b[:19])), api.ErrShort)
	refuses(t, "one byte too few", message(frag(t, first, b[:27])), api.ErrShort)
	for _, off := range []int{8, 16, 1232, 65528} {
		refuses(t, "another one", message(frag(t, api.Frag{Next: 4, Off: off, ID: 7, More: true}, b)), api.ErrForm)
		refuses(t, "the last one", message(frag(t, api.Frag{Next: 4, Off: off, ID: 7}, nil)), api.ErrForm)
	}
	for _, next := range []int{0, 3, 5, 6, 17, 44, 58, 255} {
		refuses(t, "of another Next", message(frag(t, api.Frag{Next: next, More: true}, b)), api.ErrForm)
		refuses(t, "of another Next, nothing within", message(frag(t, api.Frag{Next: next, More: true}, nil)), api.ErrForm)
	}
	twice := frag(t, api.Frag{Next: 44}, frag(t, first, b))
	refuses(t, "a fragment of a fragment", message(twice), api.ErrForm)
}

// P30.2: what is quoted of the packet within.
func TestOfInner(t *testing.T) {
	b := sent(t, 30)
	set := func(at int, to ...byte) []byte {
		c := slices.Clone(b)
		copy(c[at:], to)
		return c
	}
	long := sent(t, 30, func(p *api.V4) { p.Options = []byte{1, 1, 1, 1, 1, 1, 1, 0} })
	for _, c := range []struct {
		name  string
		inner []byte
		want  api.Errno
	}{
		{"nothing", nil, api.ErrShort},
		{"less than a head", b[:19], api.ErrShort},
		{"of IPv6", set(0, 0x65), api.ErrForm},
		{"a head that is too short", set(0, 0x44), api.ErrForm},
		{"a head that is longer than all there is", long[:27], api.ErrShort},
		{"a size that is less than the head", set(2, 0, 19), api.ErrForm},
		{"a bit that may not be", set(6, 0x80), api.ErrForm},
		{"a head alone", b[:20], api.ErrShort},
		{"7 bytes behind the head", b[:27], api.ErrShort},
		{"8 bytes behind the head", b[:28], api.OK},
		{"a head with options alone", long[:28], api.ErrShort},
		{"7 bytes behind options", long[:35], api.ErrShort},
		{"8 bytes behind options", long[:36], api.OK},
		{"a size that tells of 7 bytes behind the head", set(2, 0, 27), api.ErrShort},
		{"a size that tells of 8 bytes behind the head", set(2, 0, 28), api.OK},
		{"a size that is more than there is", set(2, 0xFF, 0xFF), api.OK},
		{"a sum that is not right", set(10, 1, 2), api.OK},
		{"a later fragment", set(6, 0, 2), api.OK},
		{"of a protocol that nobody has", set(9, 255), api.OK},
		{"from nobody", set(12, 0, 0, 0, 0), api.OK},
		{"a fault", sent(t, 0, func(p *api.V4) { p.Proto, p.Data = 1, []byte{3, 1, 0, 0, 0, 0, 0, 0} }), api.OK},
	} {
		for _, tunnel := range []api.ICMP{
			{Type: 2, Rest: 1400, Data: outer(t, 4, c.inner)},
			{Type: 2, Rest: 1400, Data: outer(t, 44, frag(t, api.Frag{Next: 4, ID: 7, More: true}, c.inner))},
		} {
			if c.want != api.OK {
				refuses(t, c.name, tunnel, c.want)
				continue
			}
			tells(t, c.name, tunnel, relay.Told{Peer: peer, Kind: 3, Code: 4, Rest: 1360, Inner: c.inner})
		}
	}
}

// P30.3: Packet is as errs.Make, whatever stands in what is told; the peer is not looked at.
func TestPacket(t *testing.T) {
	b := sent(t, 700)
	for _, from := range []int{self, 0, -1, 1 << 32} {
		for _, told := range []relay.Told{
			{Peer: peer, Kind: 3, Code: 4, Rest: 1360, Inner: b},
			{Kind: 3, Code: 1, Inner: b},
			{Kind: 11, Code: 200, Rest: 1<<32 - 1, Inner: b[:28]},
			{Kind: 256, Inner: b},
			{Kind: 3, Code: -1, Inner: b},
			{Kind: 3, Code: 4, Rest: 1 << 32, Inner: b},
			{Kind: 3, Code: 4, Rest: 1360, Inner: b[:19]},
			{Kind: 3, Code: 4, Rest: 1360},
			{},
		} {
			got, e := relay.Packet(from, told)
			want, f := errs.Make(from, told.Kind, told.Code, told.Rest, told.Inner)
			if e != f || !v4.Same(got, want) {
				t.Errorf("Packet(%#x, %v) = %v, %d; want %v, %d", from, told, got, e, want, f)
			}
		}
	}
}

// P30.3: what is told to who sent, byte by byte.
func TestPacketFields(t *testing.T) {
	b := sent(t, 700)
	told := relay.Told{Peer: peer, Kind: 3, Code: 4, Rest: 1360, Inner: b}
	got, e := relay.Packet(self, told)
	m, f := icmp.Build(api.ICMP{Type: 3, Code: 4, Rest: 1360, Data: b[:548]})
	want := api.V4{TTL: 64, Proto: 1, Src: self, Dst: host, Data: m}
	if e != api.OK || f != api.OK || !v4.Same(got, want) {
		t.Errorf("Packet = %v, %d; want %v, %d", got, e, want, f)
	}
}

// P30.4: nothing is told of messages that tell of faults, and none of what is not told of at all.
func TestTellsOfNoFault(t *testing.T) {
	message := func(kind byte) func(*api.V4) {
		return func(p *api.V4) { p.Proto, p.Data = 1, []byte{kind, 0, 0, 0, 0, 7, 0, 0} }
	}
	for kind := range 256 {
		b := sent(t, 0, message(byte(kind)))
		told, e := relay.Of(own, api.ICMP{Type: 1, Data: outer(t, 4, b)})
		if e != api.OK {
			t.Fatal(e)
		}
		want := api.OK
		if slices.Contains([]int{3, 4, 5, 11, 12}, kind) {
			want = api.ErrState
		}
		got, e := relay.Packet(self, told)
		if e != want || want != api.OK && !reflect.DeepEqual(got, api.V4{}) {
			t.Errorf("of the type %d Packet is %v, %d", kind, got, e)
		}
	}
}

// P30.4: what is told once, and meets a fault on its own way, is told of no more.
func TestTellsOnce(t *testing.T) {
	rest := 1400
	b := sent(t, 700)
	for _, kind := range []int{1, 2, 3, 4} {
		told, e := relay.Of(own, api.ICMP{Type: kind, Rest: rest, Data: outer(t, 4, b)})
		if e != api.OK {
			t.Fatal(e)
		}
		p, e := relay.Packet(self, told)
		if e != api.OK {
			t.Fatal(e)
		}
		c, e := v4.Build(p)
		if e != api.OK || errs.May(c) {
			t.Fatalf("of %v may be told, %d", p, e)
		}
		again, e := relay.Of(own, api.ICMP{Type: kind, Rest: rest, Data: outer(t, 4, c)})
		if e != api.OK {
			t.Fatal(e)
		}
		if p, e := relay.Packet(self, again); e != api.ErrState {
			t.Errorf("Packet = %v, %d", p, e)
		}
	}
}

// oracle is Of by bytes alone, of messages of kinds that tell.
func oracle(data []byte) ([]byte, api.Errno) {
	if len(data) < 40 {
		return nil, api.ErrShort
	}
	if data[0]>>4 != 6 {
		return nil, api.ErrForm
	}
	if !bytes.Equal(data[8:24], own[:]) {
		return nil, api.ErrNone
	}
	inner := data[40:min(len(data), 40+int(data[4])<<8+int(data[5]))]
	switch data[6] {
	case 4:
	case 44:
		if len(inner) < 8 {
			return nil, api.ErrShort
		}
		if inner[0] != 4 || inner[2] != 0 || inner[3]>>3 != 0 {
			return nil, api.ErrForm
		}
		inner = inner[8:]
	default:
		return nil, api.ErrForm
	}
	if len(inner) < 20 {
		return nil, api.ErrShort
	}
	head, size := int(inner[0]&15)*4, int(inner[2])<<8+int(inner[3])
	if inner[0]>>4 != 4 || head < 20 {
		return nil, api.ErrForm
	}
	if head > len(inner) {
		return nil, api.ErrShort
	}
	if size < head || inner[6] > 127 {
		return nil, api.ErrForm
	}
	if min(size, len(inner)) < head+8 {
		return nil, api.ErrShort
	}
	return inner, api.OK
}

// P30.2: random quotes, spoilt at random places, against one that goes by bytes alone.
func TestOfAtRandom(t *testing.T) {
	rnd := rand.New(rand.NewPCG(30, 2))
	met := map[api.Errno]int{}
	for range 20000 {
		b := sent(t, rnd.IntN(60))
		q := outer(t, 4, b)
		if rnd.IntN(2) == 0 {
			q = outer(t, 44, frag(t, api.Frag{Next: 4, ID: rnd.IntN(9), More: rnd.IntN(2) == 0}, b))
		}
		for range rnd.IntN(3) {
			at := []int{0, 4, 5, 6, 8, 23, 40, 41, 42, 43, 46, 48, 50, 51, 54}[rnd.IntN(15)]
			q[at] = []byte{0, 1, 4, 5, 8, 20, 28, 44, 60, 0x45, 0x46, 0x60, 0x80, 255}[rnd.IntN(14)]
		}
		if rnd.IntN(3) == 0 {
			q = q[:rnd.IntN(len(q)+1)]
		}
		want, e := oracle(q)
		met[e]++
		m := api.ICMP{Type: 2, Rest: 1400, Data: q}
		if e != api.OK {
			refuses(t, "at random", m, e)
			continue
		}
		told := relay.Told{Kind: 3, Code: 4, Rest: 1360, Inner: want}
		copy(told.Peer[:], q[24:40])
		tells(t, "at random", m, told)
	}
	for _, e := range []api.Errno{api.OK, api.ErrShort, api.ErrForm, api.ErrNone} {
		if met[e] < 500 {
			t.Errorf("the answer %d was met %d times", e, met[e])
		}
	}
}

// P30.2, P30.3: from the element that sent, by the one between that tells, to the host that sent what is within.
func TestWholeWay(t *testing.T) {
	b := sent(t, 1300)
	p, e := wrap.Wrap(own, peer, 64, b)
	q, f := v6.Build(p)
	if e != api.OK || f != api.OK {
		t.Fatal(e, f)
	}
	m, e := icmp6.Build(on, own, api.ICMP{Type: 2, Rest: 1300, Data: q[:1232]})
	if e != api.OK {
		t.Fatal(e)
	}
	parsed, e := icmp6.Parse(on, own, m)
	if e != api.OK {
		t.Fatal(e)
	}
	told, e := relay.Of(own, parsed)
	if e != api.OK || told.Peer != peer || told.Rest != 1260 || !bytes.Equal(told.Inner, b[:1192]) {
		t.Fatal(told, e)
	}
	got, e := relay.Packet(self, told)
	if e != api.OK || got.Dst != host || got.Src != self {
		t.Fatal(got, e)
	}
	if m, e := icmp.Parse(got.Data); e != api.OK || m.Type != 3 || m.Code != 4 || m.Rest != 1260 || !bytes.Equal(m.Data, b[:548]) {
		t.Error(m, e)
	}
}

// spare is b with room behind that holds 0xEE.
func spare(b []byte) []byte {
	s := append(slices.Clone(b), bytes.Repeat([]byte{0xEE}, 8)...)
	return s[:len(b)]
}

// spoil writes over a list, and the room behind it.
func spoil(b []byte) {
	b = b[:cap(b)]
	for i := range b {
		b[i] ^= 0x55
	}
}

// untouched fails if b, made by spare, is not want any more, or its room not as it was.
func untouched(t *testing.T, b, want []byte) {
	t.Helper()
	if !bytes.Equal(b, want) || !bytes.Equal(b[len(b):len(b)+8], bytes.Repeat([]byte{0xEE}, 8)) {
		t.Error("what was handed in, or its room, is changed")
	}
}

// R3: nothing that is handed in is changed, and nothing that is answered is shared with it.
func TestSharesNothing(t *testing.T) {
	b := sent(t, 30)
	for _, want := range [][]byte{
		outer(t, 4, b),
		outer(t, 44, frag(t, api.Frag{Next: 4, More: true}, b)),
	} {
		q := spare(want)
		told, e := relay.Of(own, api.ICMP{Type: 2, Data: q})
		if e != api.OK {
			t.Fatal(e)
		}
		spoil(told.Inner)
		untouched(t, q, want)
	}

	inner := spare(b)
	p, e := relay.Packet(self, relay.Told{Kind: 3, Inner: inner})
	if e != api.OK {
		t.Fatal(e)
	}
	spoil(p.Data)
	untouched(t, inner, b)
}
