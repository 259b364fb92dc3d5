package b4_test

import (
	"bytes"
	"math"
	"reflect"
	"slices"
	"testing"

	"goosepond/api"
	"goosepond/b4"
	"goosepond/icmp"
	"goosepond/icmp6"
	"goosepond/udp"
	"goosepond/v4"
	"goosepond/v6"
)

const (
	host = 0x0A000001 // 10.0.0.1
	far  = 0xCB007101 // 203.0.113.1
	self = 0xC0000002 // 192.0.0.2
)

// own and aftr are the tunnel's ends; on is one between them.
var (
	own  = api.Six{0x20, 1, 2, 3, 4, 5, 6, 7, 8, 9, 10, 11, 12, 13, 14, 15}
	aftr = api.Six{0x20, 21, 22, 23, 24, 25, 26, 27, 28, 29, 30, 31, 32, 33, 34, 35}
	on   = api.Six{0x20, 41, 42, 43, 44, 45, 46, 47, 48, 49, 50, 51, 52, 53, 54, 55}
)

// setup is one that may be, with changes.
func setup(changes ...func(*b4.Setup)) b4.Setup {
	s := b4.Setup{Own: own, AFTR: aftr, MTU: 1280, Hop: 64, Buffers: 4, Bytes: 10000, Frag: 60}
	for _, change := range changes {
		change(&s)
	}
	return s
}

// element is a new one of that setup.
func element(t *testing.T, changes ...func(*b4.Setup)) *b4.B4 {
	t.Helper()
	x, e := b4.New(setup(changes...))
	if e != api.OK || x == nil {
		t.Fatalf("New = %v, %d", x, e)
	}
	return x
}

// sent is the bytes of a datagram with so many bytes of data, with changes.
func sent(t *testing.T, data int, changes ...func(*api.V4)) []byte {
	t.Helper()
	d, e := udp.Build(host, far, api.UDP{Src: 5000, Dst: 53, Data: counted(data)})
	if e != api.OK {
		t.Fatal(e)
	}
	p := api.V4{TOS: 4, ID: 5, DF: true, TTL: 63, Proto: 17, Src: host, Dst: far, Data: d}
	for _, change := range changes {
		change(&p)
	}
	return four(t, p)
}

// counted is so many bytes, of which neighbours differ.
func counted(n int) []byte {
	b := make([]byte, n)
	for i := range b {
		b[i] = byte(i*7 + i>>8)
	}
	return b
}

// four is the bytes of a packet of IPv4.
func four(t *testing.T, p api.V4) []byte {
	t.Helper()
	b, e := v4.Build(p)
	if e != api.OK {
		t.Fatal(e, p)
	}
	return b
}

// outer is the bytes of a packet of IPv6 from the AFTR to own, with changes.
func outer(t *testing.T, next int, data []byte, changes ...func(*api.V6)) []byte {
	t.Helper()
	p := api.V6{Next: next, Hop: 64, Src: aftr, Dst: own, Data: data}
	for _, change := range changes {
		change(&p)
	}
	b, e := v6.Build(p)
	if e != api.OK {
		t.Fatal(e)
	}
	return b
}

// frag is the bytes of a packet of IPv6 from the AFTR to own with data behind a fragment header, with changes.
func frag(t *testing.T, f api.Frag, data []byte, changes ...func(*api.V6)) []byte {
	t.Helper()
	b, e := v6.BuildFrag(f)
	if e != api.OK {
		t.Fatal(e)
	}
	return outer(t, 44, append(b, data...), changes...)
}

// message is the bytes of a packet of IPv6 with a message from on to own, with changes.
func message(t *testing.T, m api.ICMP, changes ...func(*api.V6)) []byte {
	t.Helper()
	b, e := icmp6.Build(on, own, m)
	if e != api.OK {
		t.Fatal(e)
	}
	return outer(t, 58, b, append([]func(*api.V6){func(p *api.V6) { p.Src = on }}, changes...)...)
}

// with is b with other bytes from a place on.
func with(b []byte, at int, to ...byte) []byte {
	c := slices.Clone(b)
	copy(c[at:], to)
	return c
}

// less is b, the bytes of a packet of IPv4, with a TTL of one less.
func less(t *testing.T, b []byte) []byte {
	t.Helper()
	p, e := v4.Parse(b)
	if e != api.OK {
		t.Fatal(e)
	}
	p.TTL--
	return four(t, p)
}

// same tells whether two lists have the same bytes.
func same(a, b [][]byte) bool {
	return slices.EqualFunc(a, b, bytes.Equal)
}

// list is a list of what is told.
func list(l ...[]byte) [][]byte { return l }

// tick is what the counts are with one more of a reason.
func tick(counts []int, why int) []int {
	c := slices.Clone(counts)
	if why != api.DropNone {
		c[why]++
	}
	return c
}

// ups fails unless Host answers this, and counts it.
func ups(t *testing.T, name string, x *b4.B4, b []byte, softwire, hosts [][]byte, why int) {
	t.Helper()
	counts := tick(x.Counts(), why)
	a, c, got := x.Host(b)
	if !same(a, softwire) || !same(c, hosts) || got != why {
		t.Errorf("%s: Host = %v, %v, %d; want %v, %v, %d", name, a, c, got, softwire, hosts, why)
	}
	if !slices.Equal(x.Counts(), counts) {
		t.Errorf("%s: Counts = %v; want %v", name, x.Counts(), counts)
	}
}

// downs fails unless Tunnel answers this, and counts it.
func downs(t *testing.T, name string, x *b4.B4, b []byte, hosts [][]byte, why int) {
	t.Helper()
	counts := tick(x.Counts(), why)
	a, c, got := x.Tunnel(b)
	if len(a) != 0 || !same(c, hosts) || got != why {
		t.Errorf("%s: Tunnel = %v, %v, %d; want %v, %d", name, a, c, got, hosts, why)
	}
	if !slices.Equal(x.Counts(), counts) {
		t.Errorf("%s: Counts = %v; want %v", name, x.Counts(), counts)
	}
}

// P32.1: what New takes, and what it refuses.
func TestNew(t *testing.T) {
	for _, c := range []struct {
		name   string
		change func(*b4.Setup)
		want   api.Errno
	}{
		{"as it is", func(*b4.Setup) {}, api.OK},
		{"the least numbers", func(s *b4.Setup) { s.MTU, s.Hop, s.Buffers, s.Bytes, s.Frag = 1280, 1, 0, 0, 1 }, api.OK},
		{"the greatest numbers", func(s *b4.Setup) { s.MTU, s.Hop, s.Buffers, s.Bytes, s.Frag = 65535, 255, 4096, 1<<26, 1<<20 }, api.OK},
		{"addresses of one bit", func(s *b4.Setup) { s.Own, s.AFTR = api.Six{15: 1}, api.Six{15: 2} }, api.OK},
		{"the greatest addresses", func(s *b4.Setup) { s.Own, s.AFTR = api.Six{0xFE, 0xFF}, api.Six{0xFE, 0xFF, 0xFF} }, api.OK},
		{"nothing", func(s *b4.Setup) { *s = b4.Setup{} }, api.ErrArg},
		{"own of all 0", func(s *b4.Setup) { s.Own = api.Six{} }, api.ErrArg},
		{"AFTR of all 0", func(s *b4.Setup) { s.AFTR = api.Six{} }, api.ErrArg},
		{"own of many", func(s *b4.Setup) { s.Own[0] = 0xFF }, api.ErrArg},
		{"AFTR of many", func(s *b4.Setup) { s.AFTR[0] = 0xFF }, api.ErrArg},
		{"own of many, all else 0", func(s *b4.Setup) { s.Own = api.Six{0xFF} }, api.ErrArg},
		{"the same", func(s *b4.Setup) { s.Own = s.AFTR }, api.ErrArg},
		{"MTU too low", func(s *b4.Setup) { s.MTU = 1279 }, api.ErrArg},
		{"MTU too high", func(s *b4.Setup) { s.MTU = 65536 }, api.ErrArg},
		{"MTU 0", func(s *b4.Setup) { s.MTU = 0 }, api.ErrArg},
		{"MTU below 0", func(s *b4.Setup) { s.MTU = math.MinInt }, api.ErrArg},
		{"Hop too low", func(s *b4.Setup) { s.Hop = 0 }, api.ErrArg},
		{"Hop too high", func(s *b4.Setup) { s.Hop = 256 }, api.ErrArg},
		{"Hop below 0", func(s *b4.Setup) { s.Hop = -1 }, api.ErrArg},
		{"Buffers too low", func(s *b4.Setup) { s.Buffers = -1 }, api.ErrArg},
		{"Buffers too high", func(s *b4.Setup) { s.Buffers = 4097 }, api.ErrArg},
		{"Bytes too low", func(s *b4.Setup) { s.Bytes = -1 }, api.ErrArg},
		{"Bytes too high", func(s *b4.Setup) { s.Bytes = 1<<26 + 1 }, api.ErrArg},
		{"Frag too low", func(s *b4.Setup) { s.Frag = 0 }, api.ErrArg},
		{"Frag below 0", func(s *b4.Setup) { s.Frag = math.MinInt }, api.ErrArg},
		{"Frag too high", func(s *b4.Setup) { s.Frag = 1<<20 + 1 }, api.ErrArg},
		{"all too high", func(s *b4.Setup) {
			s.MTU, s.Hop, s.Buffers, s.Bytes, s.Frag = math.MaxInt, math.MaxInt, math.MaxInt, math.MaxInt, math.MaxInt
		}, api.ErrArg},
	} {
		x, e := b4.New(setup(c.change))
		if e != c.want || (x == nil) != (e != api.OK) {
			t.Errorf("%s: New = %v, %d; want %d", c.name, x, e, c.want)
		}
		if e == api.OK && (x.Bytes() != 0 || !slices.Equal(x.Counts(), make([]int, api.Drops))) {
			t.Errorf("%s: %d bytes, counts %v", c.name, x.Bytes(), x.Counts())
		}
	}
}

// P32.1: the element's own address of IPv4.
func TestAddr(t *testing.T) {
	if b4.Addr() != self {
		t.Errorf("Addr = %#x", b4.Addr())
	}
}

// P32.2: what goes into the softwire, byte by byte.
func TestHostBytes(t *testing.T) {
	b := []byte{0x45, 4, 0, 29, 0, 5, 0x40, 0, 64, 17, 0, 0, 10, 0, 0, 1, 203, 0, 113, 1, 0x13, 0x88, 0, 53, 0, 9, 0, 0, 'x'}
	p, e := v4.Quoted(b)
	if e != api.OK {
		t.Fatal(e)
	}
	b = four(t, p)
	inner := with(b, 8, 63)
	inner = with(inner, 10, byte(int(b[10])+1), b[11]) // one less in a high byte, one more in the sum's
	want := slices.Concat(
		[]byte{0x60, 0, 0, 0, 0, 29, 4, 7},
		[]byte{0x20, 1, 2, 3, 4, 5, 6, 7, 8, 9, 10, 11, 12, 13, 14, 15},
		[]byte{0x20, 21, 22, 23, 24, 25, 26, 27, 28, 29, 30, 31, 32, 33, 34, 35},
		inner)
	x := element(t, func(s *b4.Setup) { s.Hop = 7 })
	ups(t, "a datagram", x, b, list(want), nil, api.DropNone)
}

// P32.2: packets of all kinds go on; only their TTL and their sum change.
func TestHostKinds(t *testing.T) {
	x := element(t)
	for _, c := range []struct {
		name   string
		change func(*api.V4)
	}{
		{"a datagram", func(*api.V4) {}},
		{"the least TTL that goes on", func(p *api.V4) { p.TTL = 2 }},
		{"the greatest TTL", func(p *api.V4) { p.TTL = 255 }},
		{"no data", func(p *api.V4) { p.Data = nil }},
		{"options", func(p *api.V4) { p.Options = []byte{1, 1, 1, 0} }},
		{"all options", func(p *api.V4) { p.Options = make([]byte, 40) }},
		{"the first fragment", func(p *api.V4) { p.DF, p.MF, p.Data = false, true, counted(16) }},
		{"a later fragment", func(p *api.V4) { p.DF, p.Off = false, 800 }},
		{"of another protocol", func(p *api.V4) { p.Proto = 47 }},
		{"of the protocol 255", func(p *api.V4) { p.Proto = 255 }},
		{"a message", func(p *api.V4) { p.Proto, p.Data = 1, []byte{3, 1, 0, 0, 0, 0, 0, 0} }},
		{"from a public address", func(p *api.V4) { p.Src = far }},
		{"from the least Host", func(p *api.V4) { p.Src = 1 << 24 }},
		{"from the greatest Host", func(p *api.V4) { p.Src = 224<<24 - 1 }},
		{"from the element's own address", func(p *api.V4) { p.Src = self }},
		{"to many", func(p *api.V4) { p.Dst = 224 << 24 }},
		{"to nobody", func(p *api.V4) { p.Dst = 0 }},
		{"to who sent it", func(p *api.V4) { p.Dst = p.Src }},
	} {
		b := sent(t, 30, c.change)
		want := outer(t, 4, less(t, b), func(p *api.V6) { p.Src, p.Dst = own, aftr })
		ups(t, c.name, x, b, list(want), nil, api.DropNone)
	}
}

// P32.2: bytes behind a packet's size do not go on, and a sum that is right in another way is as Build makes it.
func TestHostBuiltAnew(t *testing.T) {
	x := element(t)
	b := sent(t, 30)
	want := outer(t, 4, less(t, b), func(p *api.V6) { p.Src, p.Dst = own, aftr })
	ups(t, "bytes behind", x, append(slices.Clone(b), 1, 2, 3), list(want), nil, api.DropNone)
}

// P32.2: what is no packet.
func TestHostForm(t *testing.T) {
	x := element(t)
	b := sent(t, 30)
	for _, c := range []struct {
		name string
		b    []byte
	}{
		{"nothing", nil},
		{"no bytes", []byte{}},
		{"less than a head", b[:19]},
		{"less than its size", b[:len(b)-1]},
		{"of IPv6", with(b, 0, 0x65)},
		{"a head that is too short", with(b, 0, 0x44)},
		{"a head that is longer than all", with(b[:40], 0, 0x4F)},
		{"a wrong sum", with(b, 10, b[10]^1)},
		{"a packet of IPv6", outer(t, 4, b)},
		{"a wrong sum, with a TTL that is over", with(b, 8, 1)},
	} {
		ups(t, c.name, x, c.b, nil, nil, api.DropForm)
	}
}

// P32.2: from addresses that nobody has, of whatever TTL.
func TestHostSource(t *testing.T) {
	x := element(t)
	for _, src := range []int{0, 1, 1<<24 - 1, 127 << 24, 127<<24 + 1, 128<<24 - 1, 224 << 24, 255 << 24, 1<<32 - 1} {
		for _, ttl := range []int{0, 1, 2, 64} {
			b := sent(t, 30, func(p *api.V4) { p.Src, p.TTL = src, ttl })
			ups(t, "from nobody", x, b, nil, nil, api.DropSource)
		}
	}
}

// over is the bytes that tell of the first bytes of a packet from host that their time is over.
func over(t *testing.T, quoted []byte) []byte {
	t.Helper()
	m, e := icmp.Build(api.ICMP{Type: 11, Data: quoted})
	if e != api.OK {
		t.Fatal(e)
	}
	return four(t, api.V4{TTL: 64, Proto: 1, Src: self, Dst: host, Data: m})
}

// P32.2: the chapter's example, and how much is quoted.
func TestHostTTL(t *testing.T) {
	x := element(t)
	for _, ttl := range []int{0, 1} {
		b := sent(t, 30, func(p *api.V4) { p.TTL = ttl })
		ups(t, "a packet", x, b, nil, list(over(t, b)), api.DropTTL)
		ups(t, "bytes behind", x, append(slices.Clone(b), 1, 2, 3), nil, list(over(t, b)), api.DropTTL)
		long := sent(t, 1500, func(p *api.V4) { p.TTL = ttl })
		ups(t, "a long one", x, long, nil, list(over(t, long[:548])), api.DropTTL)
		first := sent(t, 24, func(p *api.V4) { p.TTL, p.DF, p.MF = ttl, false, true })
		ups(t, "a first fragment", x, first, nil, list(over(t, first)), api.DropTTL)
		query := sent(t, 0, func(p *api.V4) { p.TTL, p.Proto, p.Data = ttl, 1, []byte{8, 0, 0, 0, 0, 0, 0, 0} })
		ups(t, "a query", x, query, nil, list(over(t, query)), api.DropTTL)
	}
	b := sent(t, 0, func(p *api.V4) { p.TTL = 2 })
	ups(t, "one more", x, b, list(outer(t, 4, less(t, b), func(p *api.V6) { p.Src, p.Dst = own, aftr })), nil, api.DropNone)
}

// P32.2: what is quoted is as Build makes it, whatever other right sum it came with.
func TestHostTTLQuotesWhatBuildMakes(t *testing.T) {
	x := element(t)
	for id := range 1 << 16 {
		b := sent(t, 30, func(p *api.V4) { p.TTL, p.ID = 1, id })
		if b[10] != 0 || b[11] != 0 {
			continue
		}
		ups(t, "another right sum", x, with(b, 10, 0xFF, 0xFF), nil, list(over(t, b)), api.DropTTL)
		return
	}
	t.Error("no identifier has the sum 0")
}

// P32.2: of some packets nothing is told, but they are dropped all the same.
func TestHostTTLTellsNothing(t *testing.T) {
	x := element(t)
	for _, c := range []struct {
		name   string
		change func(*api.V4)
	}{
		{"a later fragment", func(p *api.V4) { p.DF, p.Off = false, 8 }},
		{"to many", func(p *api.V4) { p.Dst = 224 << 24 }},
		{"to nobody", func(p *api.V4) { p.Dst = 0 }},
		{"to who sent it, inside", func(p *api.V4) { p.Dst = 127<<24 + 1 }},
		{"a fault", func(p *api.V4) { p.Proto, p.Data = 1, []byte{11, 0, 0, 0, 0, 0, 0, 0} }},
		{"no byte of a message", func(p *api.V4) { p.Proto, p.Data = 1, nil }},
	} {
		b := sent(t, 30, func(p *api.V4) { p.TTL = 1 }, c.change)
		ups(t, c.name, x, b, nil, nil, api.DropTTL)
	}
}

// cuts is the fragments, by hand, of a packet's bytes that are to go into the tunnel.
func cuts(t *testing.T, b []byte, id, mtu int) [][]byte {
	t.Helper()
	var l [][]byte
	room := mtu - 48
	up := func(p *api.V6) { p.Src, p.Dst = own, aftr }
	off := 0
	for ; len(b)-off > room; off += room / 8 * 8 {
		l = append(l, frag(t, api.Frag{Next: 4, Off: off, More: true, ID: id}, b[off:off+room/8*8], up))
	}
	return append(l, frag(t, api.Frag{Next: 4, Off: off, ID: id}, b[off:], up))
}

// P32.2: what is greater than the tunnel takes goes in fragments; only those take identifiers.
func TestHostCut(t *testing.T) {
	for _, mtu := range []int{1280, 1281, 1287, 1288, 1500, 9000, 65535} {
		x := element(t, func(s *b4.Setup) { s.MTU = mtu })
		up := func(p *api.V6) { p.Src, p.Dst = own, aftr }
		fits := sent(t, mtu-40-28)
		ups(t, "as much as fits", x, fits, list(outer(t, 4, less(t, fits), up)), nil, api.DropNone)
		ups(t, "dropped", x, sent(t, 1, func(p *api.V4) { p.TTL = 1 }), nil, list(over(t, sent(t, 1, func(p *api.V4) { p.TTL = 1 }))), api.DropTTL)
		long := sent(t, mtu-40-28+1)
		ups(t, "one more", x, long, cuts(t, less(t, long), 1, mtu), nil, api.DropNone)
		ups(t, "again", x, long, cuts(t, less(t, long), 2, mtu), nil, api.DropNone)
		ups(t, "as much as fits, again", x, fits, list(outer(t, 4, less(t, fits), up)), nil, api.DropNone)
		greatest := sent(t, 65535-28)
		ups(t, "the greatest", x, greatest, cuts(t, less(t, greatest), 3, mtu), nil, api.DropNone)
		ups(t, "wrong", x, greatest[:100], nil, nil, api.DropForm)
		ups(t, "at last", x, long, cuts(t, less(t, long), 4, mtu), nil, api.DropNone)
	}
}

// P32.2: the document's example 9.
func TestHostCutExample(t *testing.T) {
	x := element(t)
	parts, hosts, why := x.Host(sent(t, 2000))
	if len(parts) != 2 || len(parts[0]) != 1280 || len(parts[1]) != 844 || len(hosts) != 0 || why != api.DropNone {
		t.Errorf("Host = %v, %v, %d", parts, hosts, why)
	}
}

// P32.3: what comes whole goes to the hosts as it is; its TTL is not looked at, nor are its addresses.
func TestTunnel(t *testing.T) {
	x := element(t)
	for _, c := range []struct {
		name   string
		change func(*api.V4)
	}{
		{"a datagram", func(*api.V4) {}},
		{"a TTL of 0", func(p *api.V4) { p.TTL = 0 }},
		{"a TTL of 1", func(p *api.V4) { p.TTL = 1 }},
		{"from nobody to nobody", func(p *api.V4) { p.Src, p.Dst = 0, 1<<32-1 }},
		{"options", func(p *api.V4) { p.Options = []byte{1, 1, 1, 0} }},
		{"a fragment", func(p *api.V4) { p.DF, p.MF, p.Off, p.Data = false, true, 800, counted(16) }},
		{"of another protocol", func(p *api.V4) { p.Proto = 200 }},
		{"no data", func(p *api.V4) { p.Data = nil }},
	} {
		b := sent(t, 30, c.change)
		downs(t, c.name, x, outer(t, 4, b), list(b), api.DropNone)
	}
	b := sent(t, 30)
	downs(t, "bytes behind", x, append(outer(t, 4, b), 1, 2, 3), list(b), api.DropNone)
	downs(t, "bytes behind within", x, outer(t, 4, append(slices.Clone(b), 1, 2, 3)), list(b), api.DropNone)
	downs(t, "another traffic, flow and hop", x, with(outer(t, 4, b), 0, 0x61, 0x23, 0x45, 0x67), list(b), api.DropNone)
	downs(t, "a hop that is over", x, outer(t, 4, b, func(p *api.V6) { p.Hop = 0 }), list(b), api.DropNone)
	greatest := sent(t, 65535-28)
	downs(t, "the greatest", x, outer(t, 4, greatest), list(greatest), api.DropNone)
}

// P32.3: a sum that is right in another way is as Build makes it.
func TestTunnelBuiltAnew(t *testing.T) {
	x := element(t)
	for id := range 1 << 16 {
		b := sent(t, 30, func(p *api.V4) { p.ID = id })
		if b[10] == 0 && b[11] == 0 {
			downs(t, "another right sum", x, outer(t, 4, with(b, 10, 0xFF, 0xFF)), list(b), api.DropNone)
			return
		}
	}
	t.Error("no identifier has the sum 0")
}

// P32.3: what does not go on, and which reason goes first.
func TestTunnelRefuses(t *testing.T) {
	x := element(t)
	b := sent(t, 30)
	q := outer(t, 4, b)
	from := func(a api.Six) func(*api.V6) { return func(p *api.V6) { p.Src = a } }
	to := func(a api.Six) func(*api.V6) { return func(p *api.V6) { p.Dst = a } }
	for _, c := range []struct {
		name string
		b    []byte
		want int
	}{
		{"nothing", nil, api.DropForm},
		{"no bytes", []byte{}, api.DropForm},
		{"less than a head", q[:39], api.DropForm},
		{"less than its size", q[:len(q)-1], api.DropForm},
		{"of IPv4", b, api.DropForm},
		{"of version 4", with(q, 0, 0x40), api.DropForm},
		{"less than its size, to another", outer(t, 4, b, to(on))[:len(q)-1], api.DropForm},
		{"to another", outer(t, 4, b, to(on)), api.DropSource},
		{"to nobody", outer(t, 4, b, to(api.Six{})), api.DropSource},
		{"to the AFTR", outer(t, 4, b, to(aftr)), api.DropSource},
		{"from own to the AFTR", outer(t, 4, b, from(own), to(aftr)), api.DropSource},
		{"a message to another", message(t, api.ICMP{Type: 128}, to(on)), api.DropSource},
		{"a fragment to another", frag(t, api.Frag{Next: 4}, b, to(on)), api.DropSource},
		{"from another", outer(t, 4, b, from(on)), api.DropSource},
		{"from own", outer(t, 4, b, from(own)), api.DropSource},
		{"from nobody", outer(t, 4, b, from(api.Six{})), api.DropSource},
		{"a fragment from another", frag(t, api.Frag{Next: 4}, b, from(on)), api.DropSource},
		{"less than a fragment header from another", outer(t, 44, nil, from(on)), api.DropSource},
		{"of another protocol from another", outer(t, 6, b, from(on)), api.DropSource},
		{"no packet within", outer(t, 4, nil), api.DropForm},
		{"less than a head within", outer(t, 4, b[:19]), api.DropForm},
		{"less than its size within", outer(t, 4, b[:len(b)-1]), api.DropForm},
		{"a wrong sum within", outer(t, 4, with(b, 10, b[10]^1)), api.DropForm},
		{"a packet of IPv6 within", outer(t, 4, q), api.DropForm},
	} {
		downs(t, c.name, x, c.b, nil, c.want)
	}
	for at := range own {
		downs(t, "to another, by one bit", x, with(q, 24+at, q[24+at]^1), nil, api.DropSource)
		downs(t, "from another, by one bit", x, with(q, 8+at, q[8+at]^0x80), nil, api.DropSource)
	}
	for next := range 256 {
		if next != 4 && next != 44 && next != 58 {
			downs(t, "of another protocol", x, outer(t, next, b), nil, api.DropProto)
			downs(t, "of another protocol, of no form", x, outer(t, next, nil), nil, api.DropProto)
		}
	}
}

// quoted is the bytes of what own sent into the tunnel, with changes.
func quoted(t *testing.T, next int, data []byte, changes ...func(*api.V6)) []byte {
	t.Helper()
	return outer(t, next, data, append([]func(*api.V6){func(p *api.V6) { p.Src, p.Dst = own, aftr }}, changes...)...)
}

// tells is the bytes that tell host this of the first bytes of what it sent.
func tells(t *testing.T, code, rest int, b []byte) []byte {
	t.Helper()
	m, e := icmp.Build(api.ICMP{Type: 3, Code: code, Rest: rest, Data: b})
	if e != api.OK {
		t.Fatal(e)
	}
	return four(t, api.V4{TTL: 64, Proto: 1, Src: self, Dst: host, Data: m})
}

// P32.3: what tells of the tunnel is told to who sent what is within, whoever on the way tells it.
func TestTunnelTold(t *testing.T) {
	x := element(t)
	b := sent(t, 100)
	q := quoted(t, 4, b)
	downs(t, "too big", x, message(t, api.ICMP{Type: 2, Rest: 1400, Data: q}), list(tells(t, 4, 1360, b)), api.DropNone)
	downs(t, "too big for very little", x, message(t, api.ICMP{Type: 2, Rest: 40, Data: q}), list(tells(t, 4, 68, b)), api.DropNone)
	for _, kind := range []int{1, 3, 4} {
		downs(t, "another fault", x, message(t, api.ICMP{Type: kind, Code: 1, Rest: 9, Data: q}), list(tells(t, 1, 0, b)), api.DropNone)
	}
	downs(t, "a part", x, message(t, api.ICMP{Type: 1, Data: q[:40+28]}), list(tells(t, 1, 0, b[:28])), api.DropNone)
	first, e := v6.BuildFrag(api.Frag{Next: 4, More: true, ID: 1})
	if e != api.OK {
		t.Fatal(e)
	}
	downs(t, "of a fragment", x, message(t, api.ICMP{Type: 1, Data: quoted(t, 44, append(first, b[:48]...))}), list(tells(t, 1, 0, b[:48])), api.DropNone)
	long := sent(t, 1200)
	downs(t, "of a long one", x, message(t, api.ICMP{Type: 1, Data: quoted(t, 4, long)}), list(tells(t, 1, 0, long[:548])), api.DropNone)
	elsewhere := func(p *api.V6) { p.Dst = on }
	downs(t, "of what was sent elsewhere", x, message(t, api.ICMP{Type: 1, Data: quoted(t, 4, b, elsewhere)}), list(tells(t, 1, 0, b)), api.DropNone)
	m, e := icmp6.Build(aftr, own, api.ICMP{Type: 1, Data: q})
	if e != api.OK {
		t.Fatal(e)
	}
	downs(t, "from the AFTR", x, outer(t, 58, m), list(tells(t, 1, 0, b)), api.DropNone)
}

// P32.3: messages that do not go on.
func TestTunnelToldRefuses(t *testing.T) {
	x := element(t)
	b := sent(t, 100)
	right := message(t, api.ICMP{Type: 1, Data: quoted(t, 4, b)})
	fault := sent(t, 0, func(p *api.V4) { p.Proto, p.Data = 1, []byte{3, 1, 0, 0, 0, 0, 0, 0} })
	later := sent(t, 100, func(p *api.V4) { p.DF, p.Off = false, 8 })
	for _, c := range []struct {
		name string
		b    []byte
		want int
	}{
		{"no message", outer(t, 58, nil), api.DropForm},
		{"less than a message", outer(t, 58, make([]byte, 7)), api.DropForm},
		{"a wrong sum", with(right, 43, right[43]^1), api.DropForm},
		{"the sum of other addresses", with(right, 23, right[23]^1), api.DropForm},
		{"another kind", message(t, api.ICMP{Type: 5, Data: quoted(t, 4, b)}), api.DropProto},
		{"a query", message(t, api.ICMP{Type: 128}), api.DropProto},
		{"nothing quoted", message(t, api.ICMP{Type: 1}), api.DropProto},
		{"of another", message(t, api.ICMP{Type: 1, Data: outer(t, 4, b)}), api.DropProto},
		{"of another Next", message(t, api.ICMP{Type: 1, Data: quoted(t, 6, b)}), api.DropProto},
		{"too little quoted", message(t, api.ICMP{Type: 1, Data: quoted(t, 4, b)[:67]}), api.DropProto},
		{"of a fault", message(t, api.ICMP{Type: 1, Data: quoted(t, 4, fault)}), api.DropProto},
		{"of a later fragment", message(t, api.ICMP{Type: 1, Data: quoted(t, 4, later)}), api.DropProto},
	} {
		downs(t, c.name, x, c.b, nil, c.want)
	}
}

// cut is b in parts of so many bytes, as fragments from the AFTR.
func cut(t *testing.T, b []byte, id, size int, changes ...func(*api.V6)) [][]byte {
	t.Helper()
	var l [][]byte
	for off := 0; off < len(b); off += size {
		end := min(off+size, len(b))
		l = append(l, frag(t, api.Frag{Next: 4, Off: off, More: end < len(b), ID: id}, b[off:end], changes...))
	}
	return l
}

// P32.3: fragments are put together, in whatever order they come.
func TestTunnelFragments(t *testing.T) {
	b := sent(t, 100)
	l := cut(t, b, 7, 48)
	if len(l) != 3 {
		t.Fatal(len(l))
	}
	for _, order := range [][]int{{0, 1, 2}, {0, 2, 1}, {1, 0, 2}, {1, 2, 0}, {2, 0, 1}, {2, 1, 0}, {0, 0, 1, 1, 0, 2}, {2, 2, 1, 2, 1, 0}} {
		x := element(t)
		last := len(order) - 1
		seen, size := map[int]bool{}, 0
		for i, n := range order {
			if !seen[n] {
				size += len(l[n]) - 48
			}
			seen[n] = true
			if i < last {
				downs(t, "one of three", x, l[n], nil, api.DropNone)
				if x.Bytes() != size {
					t.Errorf("%v: %d bytes; want %d", order, x.Bytes(), size)
				}
				continue
			}
			downs(t, "the last one", x, l[n], list(b), api.DropNone)
			if x.Bytes() != 0 {
				t.Errorf("%v: %d bytes are left", order, x.Bytes())
			}
		}
	}
}

// P32.3: only the addresses, of which there is one pair, and the identifier tell packets' fragments apart.
func TestTunnelFragmentsApart(t *testing.T) {
	ids := []int{0, 1, 256, 65536, 1 << 24, 1<<24 + 1, 1<<32 - 1, 0x01020304}
	x := element(t, func(s *b4.Setup) { s.Buffers = len(ids) })
	var whole [][]byte
	for i, id := range ids {
		b := sent(t, 100, func(p *api.V4) { p.ID = i })
		whole = append(whole, b)
		downs(t, "the first part", x, cut(t, b, id, 64, func(p *api.V6) { p.Hop, p.Traffic, p.Flow = 1, 2, 3 })[0], nil, api.DropNone)
	}
	if x.Bytes() != 64*len(ids) {
		t.Errorf("%d bytes", x.Bytes())
	}
	for i, id := range ids {
		downs(t, "the second part", x, cut(t, whole[i], id, 64)[1], list(whole[i]), api.DropNone)
	}
	if x.Bytes() != 0 {
		t.Errorf("%d bytes are left", x.Bytes())
	}
}

// P32.3: parts that may not be; with them their buffer is gone.
func TestTunnelFragmentsRefuses(t *testing.T) {
	b := sent(t, 100)
	l := cut(t, b, 7, 48)
	for _, c := range []struct {
		name string
		bad  []byte
		want int
		left int
	}{
		{"none of a header", outer(t, 44, nil), api.DropForm, 48},
		{"less than a header", outer(t, 44, []byte{4, 0, 0, 1, 0, 0, 0}), api.DropForm, 48},
		{"no bytes, and more", frag(t, api.Frag{Next: 4, Off: 48, More: true, ID: 7}, nil), api.DropForm, 0},
		{"more, and no multiple of 8", frag(t, api.Frag{Next: 4, Off: 48, More: true, ID: 7}, b[48:55]), api.DropForm, 0},
		{"an end within", frag(t, api.Frag{Next: 4, Off: 40, ID: 7}, nil), api.DropForm, 0},
		{"too long", frag(t, api.Frag{Next: 4, Off: 65528, ID: 7}, b[:8]), api.DropForm, 0},
		{"overlapping", frag(t, api.Frag{Next: 4, Off: 40, More: true, ID: 7}, b[40:56]), api.DropOverlap, 0},
		{"other bytes of the same place", frag(t, api.Frag{Next: 4, More: true, ID: 7}, b[1:49]), api.DropOverlap, 0},
		{"the same bytes as the last ones", frag(t, api.Frag{Next: 4, ID: 7}, b[:48]), api.DropOverlap, 0},
		{"as long as may be", frag(t, api.Frag{Next: 4, Off: 65528, ID: 7}, b[:7]), api.DropNone, 55},
		{"of another packet, and wrong", frag(t, api.Frag{Next: 4, More: true, ID: 8}, b[:7]), api.DropForm, 48},
	} {
		x := element(t)
		downs(t, c.name+": one ahead", x, l[0], nil, api.DropNone)
		downs(t, c.name, x, c.bad, nil, c.want)
		if x.Bytes() != c.left {
			t.Errorf("%s: %d bytes are left; want %d", c.name, x.Bytes(), c.left)
		}
	}
}

// P32.3: a second last part, or one behind the end.
func TestTunnelFragmentsEnds(t *testing.T) {
	b := sent(t, 100)
	l := cut(t, b, 7, 48)
	for _, bad := range [][]byte{
		frag(t, api.Frag{Next: 4, Off: 136, ID: 7}, b[:8]),
		frag(t, api.Frag{Next: 4, Off: 136, More: true, ID: 7}, b[:8]),
		frag(t, api.Frag{Next: 4, Off: 64, ID: 7}, b[64:72]),
	} {
		x := element(t)
		downs(t, "the last one", x, l[2], nil, api.DropNone)
		downs(t, "another end", x, bad, nil, api.DropForm)
		downs(t, "anew", x, l[0], nil, api.DropNone)
		downs(t, "anew", x, l[1], nil, api.DropNone)
		downs(t, "anew", x, l[2], list(b), api.DropNone)
	}
}

// P32.3: what is put together is of the Next that its first part told, and is looked at as what comes whole.
func TestTunnelFragmentsNext(t *testing.T) {
	b := sent(t, 100)
	for next := range 256 {
		x := element(t)
		want, hosts := api.DropProto, list()
		if next == 4 {
			want, hosts = api.DropNone, list(b)
		}
		first := frag(t, api.Frag{Next: next, More: true, ID: 7}, b[:48])
		last := frag(t, api.Frag{Next: 255 - next, Off: 48, ID: 7}, b[48:])
		downs(t, "the first part", x, first, nil, api.DropNone)
		downs(t, "the last part", x, last, hosts, want)
		downs(t, "the last part ahead", x, last, nil, api.DropNone)
		downs(t, "the first part behind", x, first, hosts, want)
		downs(t, "all in one part", x, frag(t, api.Frag{Next: next, ID: 7}, b), hosts, want)
		if x.Bytes() != 0 {
			t.Errorf("%d bytes are left", x.Bytes())
		}
	}
}

// P32.3: what is put together may be no packet.
func TestTunnelFragmentsForm(t *testing.T) {
	x := element(t)
	b := sent(t, 100)
	downs(t, "no bytes", x, frag(t, api.Frag{Next: 4, ID: 7}, nil), nil, api.DropForm)
	downs(t, "no bytes, of another Next", x, frag(t, api.Frag{Next: 6, ID: 7}, nil), nil, api.DropProto)
	l := cut(t, with(b, 10, b[10]^1), 7, 64)
	downs(t, "the first part", x, l[0], nil, api.DropNone)
	downs(t, "the last part", x, l[1], nil, api.DropForm)
	l = cut(t, append(slices.Clone(b), 1, 2, 3), 7, 64)
	downs(t, "the first part", x, l[0], nil, api.DropNone)
	downs(t, "the last part, with bytes behind", x, l[2], nil, api.DropNone)
	downs(t, "the part between", x, l[1], list(b), api.DropNone)
}

// P32.3: no room for another buffer, or for more bytes.
func TestTunnelFragmentsFull(t *testing.T) {
	b := sent(t, 100)
	one, two := cut(t, b, 1, 64), cut(t, b, 2, 64)
	x := element(t, func(s *b4.Setup) { s.Buffers = 1 })
	downs(t, "the first one's", x, one[0], nil, api.DropNone)
	downs(t, "the second one's", x, two[0], nil, api.DropFull)
	downs(t, "the second one, whole", x, frag(t, api.Frag{Next: 4, ID: 2}, b), nil, api.DropFull)
	downs(t, "the rest of the first one", x, one[1], list(b), api.DropNone)
	downs(t, "the second one's", x, two[0], nil, api.DropNone)

	x = element(t, func(s *b4.Setup) { s.Bytes = 128 })
	downs(t, "64 bytes", x, one[0], nil, api.DropNone)
	downs(t, "64 more", x, two[0], nil, api.DropNone)
	downs(t, "64 too many", x, one[1], nil, api.DropFull)
	downs(t, "the same again", x, one[0], nil, api.DropNone)
	if x.Bytes() != 128 {
		t.Errorf("%d bytes", x.Bytes())
	}

	x = element(t, func(s *b4.Setup) { s.Bytes = len(b) })
	downs(t, "64 bytes", x, one[0], nil, api.DropNone)
	downs(t, "all there may be", x, one[1], list(b), api.DropNone)

	x = element(t, func(s *b4.Setup) { s.Buffers, s.Bytes = 0, 0 })
	downs(t, "no buffers", x, frag(t, api.Frag{Next: 4, ID: 2}, b), nil, api.DropFull)
	downs(t, "no buffers, less than a header", x, outer(t, 44, make([]byte, 7)), nil, api.DropForm)
	downs(t, "no buffers, whole", x, outer(t, 4, b), list(b), api.DropNone)
}

// P32.1: buffers wait for Frag seconds, and no longer; time does not go back.
func TestAdvance(t *testing.T) {
	b := sent(t, 100)
	one, two := cut(t, b, 1, 64), cut(t, b, 2, 64)
	x := element(t, func(s *b4.Setup) { s.Frag = 10 })
	downs(t, "at 0", x, one[0], nil, api.DropNone)
	x.Advance(5)
	downs(t, "at 5", x, two[0], nil, api.DropNone)
	for _, c := range []struct{ now, left int }{{9, 128}, {10, 64}, {3, 64}, {-1, 64}, {math.MinInt, 64}, {14, 64}, {15, 0}} {
		x.Advance(c.now)
		if x.Bytes() != c.left {
			t.Errorf("at %d there are %d bytes; want %d", c.now, x.Bytes(), c.left)
		}
	}
	downs(t, "the rest of what is gone", x, one[1], nil, api.DropNone)
	x.Advance(0)
	downs(t, "the first part again", x, one[0], list(b), api.DropNone)

	downs(t, "at 15, though 0 was told", x, two[0], nil, api.DropNone)
	x.Advance(24)
	if x.Bytes() != 64 {
		t.Errorf("%d bytes; want 64", x.Bytes())
	}
	x.Advance(25)
	if x.Bytes() != 0 {
		t.Errorf("%d bytes; want 0", x.Bytes())
	}
}

// P32.1: a buffer's time is that of its first part to come.
func TestAdvanceFromTheFirst(t *testing.T) {
	b := sent(t, 100)
	l := cut(t, b, 1, 48)
	x := element(t, func(s *b4.Setup) { s.Frag = 10 })
	downs(t, "at 0", x, l[0], nil, api.DropNone)
	x.Advance(9)
	downs(t, "at 9", x, l[1], nil, api.DropNone)
	x.Advance(10)
	if x.Bytes() != 0 {
		t.Errorf("%d bytes", x.Bytes())
	}
}

// P32.1: time is held to MaxTime.
func TestAdvanceHeld(t *testing.T) {
	b := sent(t, 100)
	l := cut(t, b, 1, 64)
	for _, now := range []int{api.MaxTime, api.MaxTime + 1, math.MaxInt} {
		x := element(t, func(s *b4.Setup) { s.Frag = 1 })
		x.Advance(api.MaxTime - 1)
		downs(t, "ahead", x, l[0], nil, api.DropNone)
		x.Advance(now)
		if x.Bytes() != 0 {
			t.Errorf("at %d there are %d bytes", now, x.Bytes())
		}
		downs(t, "at the end of time", x, l[0], nil, api.DropNone)
		x.Advance(math.MaxInt)
		if x.Bytes() != 64 {
			t.Errorf("at %d there are %d bytes", now, x.Bytes())
		}
	}
}

// P32.1: who gets the counts may change them; they are of all calls together.
func TestCounts(t *testing.T) {
	x := element(t)
	for range 3 {
		x.Host(nil)
		x.Tunnel(nil)
		x.Host(sent(t, 1, func(p *api.V4) { p.TTL = 1 }))
		x.Host(sent(t, 1))
	}
	want := make([]int, api.Drops)
	want[api.DropForm], want[api.DropTTL] = 6, 3
	got := x.Counts()
	if !slices.Equal(got, want) {
		t.Errorf("Counts = %v; want %v", got, want)
	}
	clear(got)
	if got := x.Counts(); !slices.Equal(got, want) {
		t.Errorf("Counts = %v; want %v", got, want)
	}
}

// R5, P32.3: of what no call made.
func TestNotMade(t *testing.T) {
	for _, x := range []*b4.B4{nil, {}, {Setup: setup()}} {
		x.Advance(5)
		for _, b := range [][]byte{nil, sent(t, 30), sent(t, 30, func(p *api.V4) { p.TTL = 1 })} {
			if a, c, why := x.Host(b); a != nil || c != nil || why != api.DropForm {
				t.Errorf("Host = %v, %v, %d", a, c, why)
			}
		}
		for _, b := range [][]byte{nil, outer(t, 4, sent(t, 30)), frag(t, api.Frag{Next: 4, More: true}, make([]byte, 8))} {
			if a, c, why := x.Tunnel(b); a != nil || c != nil || why != api.DropForm {
				t.Errorf("Tunnel = %v, %v, %d", a, c, why)
			}
		}
		if x.Counts() != nil || x.Bytes() != 0 {
			t.Errorf("Counts = %v, %d bytes", x.Counts(), x.Bytes())
		}
	}
}

// R1: a refused setup leaves nothing.
func TestRefusedIsNil(t *testing.T) {
	x, e := b4.New(b4.Setup{})
	if e != api.ErrArg || !reflect.DeepEqual(x, (*b4.B4)(nil)) {
		t.Errorf("New = %v, %d", x, e)
	}
}

// spare is b with room behind that holds 0xEE.
func spare(b []byte) []byte {
	s := append(slices.Clone(b), bytes.Repeat([]byte{0xEE}, 8)...)
	return s[:len(b)]
}

// spoil writes over lists, and the room behind them.
func spoil(l ...[]byte) {
	for _, b := range l {
		b = b[:cap(b)]
		for i := range b {
			b[i] ^= 0x55
		}
	}
}

// untouched fails if b, made by spare, is not want any more, or its room not as it was.
func untouched(t *testing.T, b, want []byte) {
	t.Helper()
	if !bytes.Equal(b, want) || !bytes.Equal(b[len(b):len(b)+8], bytes.Repeat([]byte{0xEE}, 8)) {
		t.Error("what was handed in, or its room, is changed")
	}
}

// R3: nothing that is handed in is changed or kept, and nothing that is answered is shared.
func TestSharesNothing(t *testing.T) {
	x := element(t)
	short, long, late := sent(t, 30), sent(t, 3000), sent(t, 30, func(p *api.V4) { p.TTL = 1 })
	for _, want := range [][]byte{short, long, late} {
		b := spare(want)
		softwire, hosts, _ := x.Host(b)
		spoil(softwire...)
		spoil(hosts...)
		untouched(t, b, want)
	}
	for _, want := range [][]byte{
		outer(t, 4, short),
		frag(t, api.Frag{Next: 4, ID: 9}, short),
		message(t, api.ICMP{Type: 1, Data: quoted(t, 4, short)}),
	} {
		b := spare(want)
		_, hosts, why := x.Tunnel(b)
		if why != api.DropNone || len(hosts) != 1 {
			t.Fatal(why)
		}
		spoil(hosts...)
		untouched(t, b, want)
	}
}

// R3: of fragments, what waits is not what was handed in; and what goes out shares no room.
func TestKeepsNothing(t *testing.T) {
	x := element(t)
	b := sent(t, 100)
	l := cut(t, b, 7, 48)
	for _, part := range l[:2] {
		p := spare(part)
		downs(t, "a part", x, p, nil, api.DropNone)
		untouched(t, p, part)
		spoil(p)
	}
	downs(t, "the last one", x, l[2], list(b), api.DropNone)

	parts, _, _ := x.Host(sent(t, 3000))
	want := cuts(t, less(t, sent(t, 3000)), 1, 1280)
	for i := range parts {
		_ = append(parts[i], 0xEE, 0xEE)
		spoil(parts[i])
		if !same(parts[i+1:], want[i+1:]) {
			t.Error("parts share room")
		}
	}
}
