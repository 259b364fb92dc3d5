package aftr_test

import (
	"bytes"
	"math"
	"reflect"
	"slices"
	"testing"

	"goosepond/aftr"
	"goosepond/api"
	"goosepond/config"
	"goosepond/icmp"
	"goosepond/napt"
	"goosepond/tcp"
	"goosepond/udp"
	"goosepond/v4"
	"goosepond/v6"
)

const (
	host   = 0x0A000001 // 10.0.0.1
	other  = 0x0A000002
	pool   = 0xC6336401 // 198.51.100.1, the address of Base's pool
	second = 0xC6336402
	far    = 0xCB007101 // 203.0.113.1
	far2   = 0xCB007102
	self   = 0xC0000001 // 192.0.0.1

	internet = -1
)

// on is between the ends of the tunnel.
var on = api.Six{0x20, 41, 42, 43, 44, 45, 46, 47, 48, 49, 50, 51, 52, 53, 54, 55}

// base is Base, of a tunnel that takes 1280 bytes, with changes.
func base(changes ...func(*api.Config)) api.Config {
	c := config.Base()
	c.TunnelMTU = 1280
	for _, change := range changes {
		change(&c)
	}
	return c
}

// element is a new one that is set up so.
func element(t *testing.T, changes ...func(*api.Config)) *aftr.AFTR {
	t.Helper()
	x, e := aftr.New(base(changes...))
	if e != api.OK || x == nil {
		t.Fatalf("New = %v, %d", x, e)
	}
	return x
}

// counted is so many bytes, of which neighbours differ.
func counted(n int) []byte {
	b := make([]byte, n)
	for i := range b {
		b[i] = byte(i*7 + i>>8)
	}
	return b
}

// plain is a packet with changes.
func plain(proto, src, dst int, data []byte, changes ...func(*api.V4)) api.V4 {
	p := api.V4{TOS: 4, ID: 5, TTL: 9, Proto: proto, Src: src, Dst: dst, Data: data}
	for _, change := range changes {
		change(&p)
	}
	return p
}

// datagram is one with so many bytes of data.
func datagram(src, sport, dst, dport, size int, changes ...func(*api.V4)) api.V4 {
	b, _ := udp.Build(src, dst, api.UDP{Src: sport, Dst: dport, Data: counted(size)})
	return plain(17, src, dst, b, changes...)
}

// segment is one with these flags, and a greatest size, if that is above 0, and so many bytes of data.
func segment(src, sport, dst, dport, flags, mss, size int, changes ...func(*api.V4)) api.V4 {
	s := api.TCP{Src: sport, Dst: dport, Seq: 5, Flags: flags, Window: 7, Data: counted(size)}
	if mss > 0 {
		s.Options = []byte{2, 4, byte(mss >> 8), byte(mss)}
	}
	b, _ := tcp.Build(src, dst, s)
	return plain(6, src, dst, b, changes...)
}

// message is a packet of ICMP.
func message(src, dst int, m api.ICMP, changes ...func(*api.V4)) api.V4 {
	b, _ := icmp.Build(m)
	return plain(1, src, dst, b, changes...)
}

// ping is a query, of kind 8, or its answer, of kind 0.
func ping(kind, src, dst, id int, changes ...func(*api.V4)) api.V4 {
	return message(src, dst, api.ICMP{Type: kind, Rest: id<<16 | 3, Data: []byte("ping")}, changes...)
}

// told is the packet that tells of a fault of a packet with these bytes.
func told(src, dst, kind, code, rest int, b []byte) api.V4 {
	m, _ := icmp.Build(api.ICMP{Type: kind, Code: code, Rest: rest, Data: b[:min(len(b), 548)]})
	return api.V4{TTL: 64, Proto: 1, Src: src, Dst: dst, Data: m}
}

// dont says that a packet is not to be cut.
func dont(p *api.V4) { p.DF = true }

// ttl is the change to another TTL.
func ttl(n int) func(*api.V4) { return func(p *api.V4) { p.TTL = n } }

// four is the bytes of a packet of IPv4.
func four(t *testing.T, p api.V4) []byte {
	t.Helper()
	b, e := v4.Build(p)
	if e != api.OK {
		t.Fatal(e, p)
	}
	return b
}

// six is the bytes of a packet of IPv6 from one of Base's softwires to the AFTR, with changes.
func six(t *testing.T, softwire, next int, data []byte, changes ...func(*api.V6)) []byte {
	t.Helper()
	c := config.Base()
	p := api.V6{Next: next, Hop: 64, Src: c.Softwires[softwire], Dst: c.AFTR, Data: data}
	for _, change := range changes {
		change(&p)
	}
	b, e := v6.Build(p)
	if e != api.OK {
		t.Fatal(e)
	}
	return b
}

// up is the bytes of p as they come from a softwire.
func up(t *testing.T, softwire int, p api.V4) []byte {
	t.Helper()
	return six(t, softwire, 4, four(t, p))
}

// with is b with other bytes from a place on.
func with(b []byte, at int, to ...byte) []byte {
	c := slices.Clone(b)
	copy(c[at:], to)
	return c
}

// out is p on its way to the Internet.
func out(t *testing.T, list ...api.V4) []aftr.Way {
	t.Helper()
	var l []aftr.Way
	for _, p := range list {
		l = append(l, aftr.Way{Softwire: internet, Bytes: four(t, p)})
	}
	return l
}

// into is p on its way into one of Base's softwires, in one packet.
func into(t *testing.T, softwire int, p api.V4, changes ...func(*api.V6)) []aftr.Way {
	t.Helper()
	changes = append([]func(*api.V6){func(p *api.V6) { p.Src, p.Dst = p.Dst, p.Src }}, changes...)
	return []aftr.Way{{Softwire: softwire, Bytes: six(t, softwire, 4, four(t, p), changes...)}}
}

// pieces is p on its way into one of Base's softwires, in fragments with this identifier, of at most mtu bytes.
func pieces(t *testing.T, softwire int, p api.V4, id, mtu int) []aftr.Way {
	t.Helper()
	var l []aftr.Way
	b, room := four(t, p), (mtu-48)/8*8
	for off := 0; off < len(b); off += room {
		end := min(off+room, len(b))
		if len(b)-off <= mtu-48 {
			end = len(b)
		}
		more := byte(0)
		if end < len(b) {
			more = 1
		}
		head := []byte{4, 0, byte(off >> 8), byte(off) | more, byte(id >> 24), byte(id >> 16), byte(id >> 8), byte(id)}
		l = append(l, aftr.Way{Softwire: softwire, Bytes: six(t, softwire, 44, append(head, b[off:end]...), func(p *api.V6) { p.Src, p.Dst = p.Dst, p.Src })})
		if end == len(b) {
			break
		}
	}
	return l
}

// same tells whether two lists have the same ways.
func same(a, b []aftr.Way) bool {
	return slices.EqualFunc(a, b, func(v, w aftr.Way) bool { return v.Softwire == w.Softwire && bytes.Equal(v.Bytes, w.Bytes) })
}

// tick is what the counts are with one more of a reason.
func tick(counts []int, why int) []int {
	c := slices.Clone(counts)
	if why != api.DropNone {
		c[why]++
	}
	return c
}

// tunnels fails unless Tunnel answers this, and counts it.
func tunnels(t *testing.T, name string, x *aftr.AFTR, b []byte, want []aftr.Way, why int) {
	t.Helper()
	answers(t, name, x, x.Tunnel, b, want, why)
}

// nets fails unless Net answers this, and counts it.
func nets(t *testing.T, name string, x *aftr.AFTR, b []byte, want []aftr.Way, why int) {
	t.Helper()
	answers(t, name, x, x.Net, b, want, why)
}

func answers(t *testing.T, name string, x *aftr.AFTR, ask func([]byte) ([]aftr.Way, int), b []byte, want []aftr.Way, why int) {
	t.Helper()
	counts := tick(x.View().Counts, why)
	got, because := ask(b)
	if !same(got, want) || because != why {
		t.Errorf("%s: %v, %d; want %v, %d", name, got, because, want, why)
	}
	if got := x.View().Counts; !slices.Equal(got, counts) {
		t.Errorf("%s: Counts = %v; want %v", name, got, counts)
	}
}

// binds is an element in which the datagram from host's port 5000 behind the softwire has gone to far's port 53.
func binds(t *testing.T, softwire int, changes ...func(*api.Config)) *aftr.AFTR {
	t.Helper()
	x := element(t, changes...)
	tunnels(t, "the datagram that binds", x, up(t, softwire, datagram(host, 5000, far, 53, 4)), out(t, datagram(pool, 5000, far, 53, 4)), api.DropNone)
	return x
}

// holds fails unless the element has so many bindings, sessions, bytes, buffers and timers.
func holds(t *testing.T, name string, x *aftr.AFTR, want ...int) {
	t.Helper()
	v := x.View()
	if got := []int{len(v.Bindings), len(v.Sessions), v.Bytes, v.Bufs, v.Timers}; !slices.Equal(got, want) {
		t.Errorf("%s: bindings, sessions, bytes, buffers and timers are %v; want %v", name, got, want)
	}
}

// static is a binding that is told.
func static(softwire, port, to int) api.Static {
	return api.Static{Inner: api.Inner{Softwire: softwire, Proto: 17, Addr: host, Port: port}, Outer: api.Outer{Proto: 17, Addr: pool, Port: to}}
}

// P33.1: New has the translator's errors, in its order, and nothing beside them.
func TestNewRefuses(t *testing.T) {
	for _, c := range []struct {
		name   string
		change func(*api.Config)
		want   api.Errno
	}{
		{"nothing", func(c *api.Config) { *c = api.Config{} }, api.ErrArg},
		{"no softwire", func(c *api.Config) { c.Softwires = nil }, api.ErrArg},
		{"no pool", func(c *api.Config) { c.Pool = nil }, api.ErrArg},
		{"too many buffers", func(c *api.Config) { c.Buffers = 4097 }, api.ErrArg},
		{"less than no buffers", func(c *api.Config) { c.Buffers = -1 }, api.ErrArg},
		{"too many bytes", func(c *api.Config) { c.Bytes = 1<<26 + 1 }, api.ErrArg},
		{"no time for fragments", func(c *api.Config) { c.Frag = 0 }, api.ErrArg},
		{"a tunnel that takes too little", func(c *api.Config) { c.TunnelMTU = 1279 }, api.ErrArg},
		{"an Internet that takes too little", func(c *api.Config) { c.NetMTU = 1279 }, api.ErrArg},
		{"a greatest size that is too low", func(c *api.Config) { c.MSS = 535 }, api.ErrArg},
		{"no hop", func(c *api.Config) { c.Hop = 0 }, api.ErrArg},
		{"a softwire twice", func(c *api.Config) { c.Softwires[1] = c.Softwires[0] }, api.ErrTwice},
		{"a softwire that is the AFTR", func(c *api.Config) { c.Softwires[1] = c.AFTR }, api.ErrTwice},
		{"one binding twice", func(c *api.Config) { c.Static = []api.Static{static(0, 1, 2), static(0, 1, 3)} }, api.ErrTwice},
		{"more bindings than the quota", func(c *api.Config) { c.Quota, c.Static = 1, []api.Static{static(0, 1, 1), static(0, 2, 2)} }, api.ErrTwice},
	} {
		cfg := base(c.change)
		x, e := aftr.New(cfg)
		if e != c.want || x != nil {
			t.Errorf("%s: New = %v, %d; want %d", c.name, x, e, c.want)
		}
		if _, below := napt.New(cfg); below != e {
			t.Errorf("%s: the translator's error is %d, not %d", c.name, below, e)
		}
	}
}

// P33.1: what a new element has.
func TestNew(t *testing.T) {
	for _, change := range []func(*api.Config){
		func(*api.Config) {},
		func(c *api.Config) { c.Static = []api.Static{static(1, 1, 2), static(0, 3, 4)} },
		func(c *api.Config) {
			c.Buffers, c.Bytes, c.Frag, c.TunnelMTU, c.NetMTU, c.Hop, c.MSS = 4096, 1<<26, 1<<20, 65535, 65535, 255, 65535
		},
		func(c *api.Config) { c.Buffers, c.Bytes, c.Frag, c.NetMTU, c.Hop, c.MSS = 0, 0, 1, 1280, 1, 536 },
	} {
		x := element(t, change)
		v := x.View()
		var want []api.Binding
		for _, s := range base(change).Static {
			want = append(want, api.Binding{Inner: s.Inner, Outer: s.Outer, Static: true})
		}
		if v.Now != 0 || !slices.Equal(v.Bindings, want) || !slices.Equal(v.Counts, make([]int, api.Drops)) {
			t.Errorf("View = %+v", v)
		}
		holds(t, "a new one", x, len(want), 0, 0, 0, 0)
		if e := x.Engine(); e == nil || !e.Has(pool) || e.Has(second) || e.Now() != 0 {
			t.Errorf("Engine = %v", e)
		}
	}
}

// P33.1: the element's own address of IPv4.
func TestAddr(t *testing.T) {
	if aftr.Addr() != self {
		t.Errorf("Addr = %#x", aftr.Addr())
	}
}

// P33.1: time passes for bindings, which are told of when they go, and for all buffers; it does not go back.
func TestAdvance(t *testing.T) {
	x := binds(t, 0, func(c *api.Config) { c.Frag, c.UDP = 10, 120 })
	tunnels(t, "part of a packet of IPv6, at 0", x, six(t, 0, 44, fragment(4, 0, true, 1, counted(8))), nil, api.DropNone)
	steps := []struct {
		now, gone, bytes int
	}{
		{5, 0, 8}, {9, 0, 24}, {10, 0, 16}, {4, 0, 16}, {-1, 0, 16}, {math.MinInt, 0, 16}, {14, 0, 16}, {15, 0, 0}, {119, 0, 0}, {120, 1, 0}, {120, 0, 0}, {0, 0, 0},
	}
	for i, c := range steps {
		if got := x.Advance(c.now); got != c.gone {
			t.Errorf("Advance(%d) = %d; want %d", c.now, got, c.gone)
		}
		if i == 0 {
			p := datagram(far, 53, pool, 5000, 24)
			p.MF, p.Data = true, p.Data[:16]
			nets(t, "part of a packet of IPv4, at 5", x, four(t, p), nil, api.DropNone)
			c.bytes += 16
		}
		if got := x.View().Bytes; got != c.bytes {
			t.Errorf("at %d there are %d bytes; want %d", c.now, got, c.bytes)
		}
	}
	if got := x.View().Now; got != 120 {
		t.Errorf("Now = %d; want 120", got)
	}
}

// P33.1: many bindings that go at once are told of together.
func TestAdvanceTells(t *testing.T) {
	x := element(t)
	for i := range 5 {
		x.Tunnel(up(t, i%2, datagram(host, 2000+i, far, 53, 1)))
	}
	if got := x.Advance(300); got != 5 {
		t.Errorf("Advance = %d; want 5", got)
	}
}

// P33.1: time is held to MaxTime, for bindings and for buffers.
func TestAdvanceHeld(t *testing.T) {
	for _, now := range []int{api.MaxTime, api.MaxTime + 1, math.MaxInt} {
		x := element(t, func(c *api.Config) { c.Frag = 2 })
		part := six(t, 0, 44, fragment(4, 0, true, 1, counted(8)))
		x.Advance(api.MaxTime - 2)
		tunnels(t, "ahead", x, part, nil, api.DropNone)
		x.Advance(api.MaxTime - 1)
		holds(t, "ahead", x, 0, 0, 8, 1, 1)
		x.Advance(now)
		holds(t, "at the end of time", x, 0, 0, 0, 0, 0)
		if got := x.View().Now; got != api.MaxTime {
			t.Errorf("Now = %d", got)
		}
		tunnels(t, "at the end of time", x, part, nil, api.DropNone)
		x.Advance(math.MaxInt)
		holds(t, "still there", x, 0, 0, 8, 1, 1)
	}
}

// P33.1: the translator is the one that the element works by, and may be worked on.
func TestEngine(t *testing.T) {
	x := element(t)
	if x.Engine() != x.Engine() {
		t.Error("two engines")
	}
	nets(t, "no binding", x, four(t, datagram(far, 53, pool, 80, 4)), nil, api.DropBinding)
	if e := x.Engine().Map(static(1, 8080, 80)); e != api.OK {
		t.Fatal(e)
	}
	nets(t, "one that was told", x, four(t, datagram(far, 53, pool, 80, 4)), into(t, 1, datagram(far, 53, host, 8080, 4, ttl(8))), api.DropNone)
	holds(t, "one that was told", x, 1, 0, 0, 0, 0)
	if e := x.Engine().Unmap(static(1, 8080, 80).Inner); e != api.OK {
		t.Fatal(e)
	}
	nets(t, "no binding any more", x, four(t, datagram(far, 53, pool, 80, 4)), nil, api.DropBinding)
	x.Tunnel(up(t, 0, datagram(host, 5000, far, 53, 1)))
	if n := x.Engine().Flush(0); n != 1 {
		t.Errorf("Flush = %d", n)
	}
	holds(t, "flushed", x, 0, 0, 0, 0, 0)
}

// P33.1: the element's time is its own: buffers wait by what Advance was told, whatever its translator was told.
func TestTimeOfItsOwn(t *testing.T) {
	x := element(t)
	x.Engine().Advance(100)
	tunnels(t, "at 0", x, six(t, 0, 44, fragment(4, 0, true, 1, counted(8))), nil, api.DropNone)
	x.Advance(59)
	holds(t, "at 59", x, 0, 0, 8, 1, 1)
	x.Advance(60)
	holds(t, "at 60", x, 0, 0, 0, 0, 0)
	if got := x.View().Now; got != 100 {
		t.Errorf("Now = %d; want 100, the translator's", got)
	}
}

// P33.1: a view is the translator's, with both kinds of buffers, whose timers count, too; it is made anew each time.
func TestView(t *testing.T) {
	x := binds(t, 1)
	x.Tunnel(up(t, 0, segment(host, 1, far, 2, api.FlagSyn, 0, 0)))
	x.Tunnel(six(t, 0, 44, fragment(4, 0, true, 1, counted(8))))
	x.Tunnel(six(t, 1, 44, fragment(4, 0, true, 1, counted(16))))
	p := datagram(far, 53, pool, 5000, 24)
	p.MF, p.Data = true, p.Data[:32]
	x.Net(four(t, p))
	x.Net(nil)
	x.Advance(7)
	holds(t, "all", x, 2, 2, 56, 3, 5)
	v, e := x.View(), x.Engine().View()
	if v.Now != 7 || !slices.Equal(v.Bindings, e.Bindings) || !slices.Equal(v.Sessions, e.Sessions) || v.Counts[api.DropForm] != 1 {
		t.Errorf("View = %+v; the translator's is %+v", v, e)
	}
	want := x.View()
	clear(v.Bindings)
	clear(v.Sessions)
	clear(v.Counts)
	if got := x.View(); !reflect.DeepEqual(got, want) {
		t.Errorf("View = %+v; want %+v", got, want)
	}
}

// R5, P33.5: of what no call made.
func TestNotMade(t *testing.T) {
	for _, x := range []*aftr.AFTR{nil, {}, new(aftr.AFTR)} {
		for _, b := range [][]byte{nil, up(t, 0, datagram(host, 1, far, 2, 3)), four(t, datagram(far, 1, pool, 2, 3)), four(t, datagram(far, 1, pool, 2, 3, ttl(1)))} {
			if ways, why := x.Tunnel(b); ways != nil || why != api.DropForm {
				t.Errorf("Tunnel = %v, %d", ways, why)
			}
			if ways, why := x.Net(b); ways != nil || why != api.DropForm {
				t.Errorf("Net = %v, %d", ways, why)
			}
		}
		if n := x.Advance(5); n != 0 || x.Engine() != nil {
			t.Errorf("Advance = %d, Engine = %v", n, x.Engine())
		}
		if v := x.View(); !reflect.DeepEqual(v, api.View{}) {
			t.Errorf("View = %+v", v)
		}
	}
}

// R3: nothing of the settings is kept.
func TestKeepsNoSettings(t *testing.T) {
	c := base(func(c *api.Config) { c.Static = []api.Static{static(1, 8080, 80)} })
	x, e := aftr.New(c)
	if e != api.OK {
		t.Fatal(e)
	}
	clear(c.Softwires)
	clear(c.Pool)
	clear(c.Static)
	tunnels(t, "out", x, up(t, 1, datagram(host, 5000, far, 53, 4)), out(t, datagram(pool, 5000, far, 53, 4)), api.DropNone)
	nets(t, "in", x, four(t, datagram(far, 53, pool, 80, 4)), into(t, 1, datagram(far, 53, host, 8080, 4, ttl(8))), api.DropNone)
}

// spare is b with room behind that holds 0xEE.
func spare(b []byte) []byte {
	s := append(slices.Clone(b), bytes.Repeat([]byte{0xEE}, 8)...)
	return s[:len(b)]
}

// spoil writes over bytes, and the room behind them.
func spoil(b []byte) {
	b = b[:cap(b)]
	for i := range b {
		b[i] ^= 0x55
	}
}

// untouched fails if b, made by spare, is not want any more, or its room not as it was.
func untouched(t *testing.T, b, want []byte) {
	t.Helper()
	if !bytes.Equal(b, want) || !bytes.Equal(b[len(b):len(b)+8], bytes.Repeat([]byte{0xEE}, 8)) {
		t.Error("what was handed in, or its room, is changed")
	}
}

// R3: nothing that is handed in is changed, or shared with what is answered, and no two ways share anything.
func TestSharesNothing(t *testing.T) {
	x := binds(t, 0, func(c *api.Config) { c.Static = []api.Static{static(1, 8080, 80)}; c.NetMTU = 1280 })
	for _, c := range []struct {
		name string
		ask  func([]byte) ([]aftr.Way, int)
		b    []byte
		ways int
	}{
		{"out", x.Tunnel, up(t, 0, datagram(host, 5000, far, 53, 4)), 1},
		{"out, cut", x.Tunnel, up(t, 0, datagram(host, 5000, far, 53, 4000)), 4},
		{"too long", x.Tunnel, up(t, 0, datagram(host, 5000, far, 53, 4000, dont)), 1},
		{"in", x.Net, four(t, datagram(far, 53, pool, 80, 4)), 1},
		{"in, cut", x.Net, four(t, datagram(far, 53, pool, 80, 4000)), 4},
		{"late", x.Net, four(t, datagram(far, 53, pool, 80, 4, ttl(1))), 1},
		{"within", x.Tunnel, up(t, 0, datagram(host, 5000, pool, 80, 4000)), 4},
	} {
		b := spare(c.b)
		ways, _ := c.ask(b)
		if len(ways) != c.ways {
			t.Fatalf("%s: %d ways; want %d", c.name, len(ways), c.ways)
		}
		var all [][]byte
		for _, w := range ways {
			all = append(all, slices.Clone(w.Bytes))
		}
		for i, w := range ways {
			if !bytes.Equal(w.Bytes, all[i]) {
				t.Errorf("%s: ways share room", c.name)
			}
			spoil(w.Bytes)
		}
		untouched(t, b, c.b)
	}
}

// R3: what waits is not what was handed in.
func TestKeepsNoBytes(t *testing.T) {
	x := binds(t, 0)
	whole := datagram(host, 5000, far, 53, 92)
	b := four(t, whole)
	for _, c := range []struct{ off, end int }{{0, 48}, {48, 96}} {
		p := spare(six(t, 0, 44, fragment(4, c.off, true, 1, b[c.off:c.end])))
		tunnels(t, "a part of the tunnel", x, p, nil, api.DropNone)
		spoil(p)
	}
	tunnels(t, "the last one", x, six(t, 0, 44, fragment(4, 96, false, 1, b[96:])), out(t, datagram(pool, 5000, far, 53, 92)), api.DropNone)

	for _, c := range []struct{ off, end int }{{0, 48}, {48, 96}} {
		p := spare(four(t, part(datagram(far, 53, pool, 5000, 92), c.off, c.end)))
		nets(t, "a part of the Internet", x, p, nil, api.DropNone)
		spoil(p)
	}
	nets(t, "the last one", x, four(t, part(datagram(far, 53, pool, 5000, 92), 96, 100)), into(t, 0, datagram(far, 53, host, 5000, 92, ttl(8))), api.DropNone)
}
