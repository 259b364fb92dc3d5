package aftr_test

import (
	"testing"

	"goosepond/aftr"
	"goosepond/api"
)

// P33.5: what does not go on, and which reason goes first.
func TestNetRefuses(t *testing.T) {
	x := binds(t, 0, func(c *api.Config) { c.Buffers = 0 })
	b := four(t, datagram(far, 53, pool, 5000, 4))
	for _, c := range []struct {
		name string
		b    []byte
		want int
	}{
		{"nothing", nil, api.DropForm},
		{"no bytes", []byte{}, api.DropForm},
		{"less than a head", b[:19], api.DropForm},
		{"less than its size", b[:len(b)-1], api.DropForm},
		{"a wrong sum", with(b, 10, b[10]^1), api.DropForm},
		{"a packet of IPv6", six(t, 0, 4, b), api.DropForm},
		{"to another, of no form", four(t, datagram(far, 53, second, 5000, 4))[:31], api.DropForm},
		{"to another", four(t, datagram(far, 53, second, 5000, 4)), api.DropBinding},
		{"to a host", four(t, datagram(far, 53, host, 5000, 4)), api.DropBinding},
		{"to the element", four(t, datagram(far, 53, self, 5000, 4)), api.DropBinding},
		{"to another, late", four(t, datagram(far, 53, second, 5000, 4, ttl(1))), api.DropBinding},
		{"a fragment to another", four(t, part(datagram(far, 53, second, 5000, 92), 0, 48)), api.DropBinding},
		{"a fragment without room", four(t, part(datagram(far, 53, pool, 5000, 92), 0, 48)), api.DropFull},
		{"a fragment without room, late", four(t, part(datagram(far, 53, pool, 5000, 92, ttl(1)), 0, 48)), api.DropFull},
		{"to another port", four(t, datagram(far, 53, pool, 5001, 4)), api.DropBinding},
		{"of another protocol", four(t, segment(far, 53, pool, 5000, api.FlagSyn, 0, 0)), api.DropBinding},
		{"of one that is not translated", four(t, plain(47, far, pool, counted(8))), api.DropProto},
		{"less than a datagram", four(t, plain(17, far, pool, counted(7))), api.DropForm},
		{"from another port", four(t, datagram(far, 54, pool, 5000, 4)), api.DropFilter},
		{"from another address", four(t, datagram(far2, 53, pool, 5000, 4)), api.DropFilter},
		{"a fault of nothing", four(t, message(far, pool, api.ICMP{Type: 3, Data: four(t, datagram(pool, 5001, far, 53, 4))})), api.DropBinding},
		{"a fault that quotes nothing", four(t, message(far, pool, api.ICMP{Type: 3})), api.DropForm},
	} {
		nets(t, c.name, x, c.b, nil, c.want)
	}
	holds(t, "as it was", x, 1, 1, 0, 0, 1)
}

// P33.5, examples 3, 5 and 6 of the document: answers go into the softwire that was bound, until the binding is gone.
func TestInbound(t *testing.T) {
	x := element(t, func(c *api.Config) { c.Filter, c.Hop = api.FilterAddress, 7 })
	hop := func(p *api.V6) { p.Hop = 7 }
	for softwire := range 2 {
		x.Tunnel(up(t, softwire, datagram(host, 5000, far, 53, 4)))
	}
	for _, c := range []struct{ softwire, port int }{{1, 5002}, {0, 5000}, {1, 5002}} {
		nets(t, "an answer", x, four(t, datagram(far, 53, pool, c.port, 4)), into(t, c.softwire, datagram(far, 53, host, 5000, 4, ttl(8)), hop), api.DropNone)
		nets(t, "bytes behind", x, append(four(t, datagram(far, 53, pool, c.port, 4)), 1, 2, 3), into(t, c.softwire, datagram(far, 53, host, 5000, 4, ttl(8)), hop), api.DropNone)
		nets(t, "from another address", x, four(t, datagram(far2, 53, pool, c.port, 4)), nil, api.DropFilter)
		nets(t, "from another port", x, four(t, datagram(far, 54, pool, c.port, 4)), into(t, c.softwire, datagram(far, 54, host, 5000, 4, ttl(8)), hop), api.DropNone)
	}
	x.Advance(299)
	nets(t, "in time", x, four(t, datagram(far, 53, pool, 5002, 4)), into(t, 1, datagram(far, 53, host, 5000, 4, ttl(8)), hop), api.DropNone)
	x.Advance(300)
	nets(t, "too late", x, four(t, datagram(far, 53, pool, 5002, 4)), nil, api.DropBinding)
}

// P33.5: how a packet goes on is as it came, but for one hop.
func TestInboundKeeps(t *testing.T) {
	x := binds(t, 1)
	for _, c := range []struct{ change, want func(*api.V4) }{
		{ttl(2), ttl(1)},
		{ttl(255), ttl(254)},
		{dont, func(p *api.V4) { p.DF, p.TTL = true, 8 }},
		{func(p *api.V4) { p.TOS, p.ID = 255, 65535 }, func(p *api.V4) { p.TOS, p.ID, p.TTL = 255, 65535, 8 }},
		{func(p *api.V4) { p.Options = []byte{7, 4, 4, 0} }, func(p *api.V4) { p.Options, p.TTL = []byte{7, 4, 4, 0}, 8 }},
	} {
		nets(t, "a datagram", x, four(t, datagram(far, 53, pool, 5000, 40, c.change)), into(t, 1, datagram(far, 53, host, 5000, 40, c.want)), api.DropNone)
	}
	x.Tunnel(up(t, 1, ping(8, host, far, 9)))
	nets(t, "an answer to a query", x, four(t, ping(0, far, pool, 1024)), into(t, 1, ping(0, far, host, 9, ttl(8))), api.DropNone)
}

// P33.5: a fault that is told comes to who is told by the same binding, with what it quotes.
func TestInboundFault(t *testing.T) {
	x := binds(t, 1)
	p := message(far2, pool, api.ICMP{Type: 11, Data: four(t, datagram(pool, 5000, far, 53, 4, ttl(0)))})
	q := message(far2, host, api.ICMP{Type: 11, Data: four(t, datagram(host, 5000, far, 53, 4, ttl(0)))}, ttl(8))
	nets(t, "a fault", x, four(t, p), into(t, 1, q), api.DropNone)
	p.TTL = 1
	nets(t, "a late fault", x, four(t, p), nil, api.DropTTL)
}

// P33.5: time that is over is told to the Internet from the address that was sent to, ahead of all that a binding is asked.
func TestInboundTTL(t *testing.T) {
	x := binds(t, 1, func(c *api.Config) { c.Pool = []int{second, pool}; c.Softwires = c.Softwires[:2] })
	for _, n := range []int{0, 1} {
		for _, p := range []api.V4{
			datagram(far, 53, pool, 5000, 4, ttl(n)),
			datagram(far, 53, second, 5000, 4, ttl(n)),
			datagram(far, 53, pool, 5001, 4, ttl(n)),
			datagram(far2, 53, pool, 5000, 600, ttl(n)),
			datagram(far2, 53, pool, 5000, 1400, ttl(n), dont),
			plain(47, far, pool, nil, ttl(n)),
			segment(far, 443, pool, 5000, api.FlagAck, 0, 4, ttl(n)),
			ping(8, far, pool, 3, ttl(n)),
		} {
			want := out(t, told(p.Dst, p.Src, 11, 0, 0, four(t, p)))
			nets(t, "late", x, four(t, p), want, api.DropTTL)
			nets(t, "late, with bytes behind", x, append(four(t, p), 1, 2, 3), want, api.DropTTL)
		}
	}
	holds(t, "as it was", x, 1, 1, 0, 0, 1)
}

// P33.5, P33.6: of some packets nothing is told, but they are dropped all the same.
func TestInboundTTLTellsNothing(t *testing.T) {
	x := binds(t, 1)
	for _, src := range []int{0, 1, 1<<24 - 1, 127<<24 + 1, 224 << 24, 1<<32 - 1} {
		nets(t, "from nobody", x, four(t, datagram(src, 53, pool, 5000, 4, ttl(1))), nil, api.DropTTL)
	}
	for _, kind := range []int{3, 4, 5, 11, 12} {
		nets(t, "a fault", x, four(t, message(far, pool, api.ICMP{Type: kind, Data: four(t, datagram(pool, 5000, far, 53, 4))}, ttl(1))), nil, api.DropTTL)
	}
	nets(t, "no byte of a message", x, four(t, plain(1, far, pool, nil, ttl(1))), nil, api.DropTTL)
}

// P33.2, example 9 of the document: what is greater than the tunnel takes goes in fragments.
func TestDown(t *testing.T) {
	for _, mtu := range []int{1280, 1281, 1287, 1288, 1500, 9000, 65535} {
		x := binds(t, 1, func(c *api.Config) { c.TunnelMTU = mtu })
		in := func(size int) []byte { return four(t, datagram(far, 53, pool, 5000, size)) }
		goes := func(size int) api.V4 { return datagram(far, 53, host, 5000, size, ttl(8)) }
		fits := mtu - 40 - 28
		nets(t, "as much as fits", x, in(fits), into(t, 1, goes(fits)), api.DropNone)
		nets(t, "one more", x, in(fits+1), pieces(t, 1, goes(fits+1), 1, mtu), api.DropNone)
		nets(t, "as much as fits, again", x, in(fits), into(t, 1, goes(fits)), api.DropNone)
		nets(t, "one more, again", x, in(fits+1), pieces(t, 1, goes(fits+1), 2, mtu), api.DropNone)
		nets(t, "wrong", x, in(fits + 1)[:99], nil, api.DropForm)
		nets(t, "the greatest", x, in(65535-28), pieces(t, 1, goes(65535-28), 3, mtu), api.DropNone)
		nets(t, "not to be cut", x, four(t, datagram(far, 53, pool, 5000, fits+1, dont)), pieces(t, 1, datagram(far, 53, host, 5000, fits+1, dont, ttl(8)), 4, mtu), api.DropNone)
	}
	x := binds(t, 0)
	ways, _ := x.Net(four(t, datagram(far, 53, pool, 5000, 2000)))
	if len(ways) != 2 || len(ways[0].Bytes) != 1280 || len(ways[1].Bytes) != 844 {
		t.Errorf("Net = %v", ways)
	}
}

// P33.2: what goes into a softwire, byte by byte.
func TestDownBytes(t *testing.T) {
	c := base()
	x, e := aftr.New(c)
	if e != api.OK {
		t.Fatal(e)
	}
	x.Engine().Map(static(1, 8080, 80))
	ways, why := x.Net(four(t, datagram(far, 53, pool, 80, 1)))
	inner := four(t, datagram(far, 53, host, 8080, 1, ttl(8)))
	want := append([]byte{0x60, 0, 0, 0, 0, 29, 4, 64}, c.AFTR[:]...)
	want = append(append(want, c.Softwires[1][:]...), inner...)
	if !same(ways, []aftr.Way{{Softwire: 1, Bytes: want}}) || why != api.DropNone {
		t.Errorf("Net = %v, %d; want %v", ways, why, want)
	}
}

// The chapter's example: a packet to the pool without a binding.
func TestExample(t *testing.T) {
	nets(t, "a datagram", element(t), four(t, datagram(far, 53, pool, 5000, 4)), nil, api.DropBinding)
}
