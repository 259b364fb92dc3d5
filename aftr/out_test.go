package aftr_test

import (
	"slices"
	"testing"

	"goosepond/aftr"
	"goosepond/api"
	"goosepond/icmp6"
	"goosepond/v4"
)

// P33.3: what does not go on, and which reason goes first.
func TestTunnelRefuses(t *testing.T) {
	x := element(t)
	b := four(t, datagram(host, 5000, far, 53, 4))
	q := six(t, 0, 4, b)
	from := func(a api.Six) func(*api.V6) { return func(p *api.V6) { p.Src = a } }
	to := func(a api.Six) func(*api.V6) { return func(p *api.V6) { p.Dst = a } }
	c := base()
	for _, c := range []struct {
		name string
		b    []byte
		want int
	}{
		{"nothing", nil, api.DropForm},
		{"no bytes", []byte{}, api.DropForm},
		{"less than a head", q[:39], api.DropForm},
		{"less than its size", q[:len(q)-1], api.DropForm},
		{"of IPv4", b, api.DropForm},
		{"of version 4", with(q, 0, 0x40), api.DropForm},
		{"less than its size, to another", six(t, 0, 4, b, to(on))[:len(q)-1], api.DropForm},
		{"to another", six(t, 0, 4, b, to(on)), api.DropSource},
		{"to nobody", six(t, 0, 4, b, to(api.Six{})), api.DropSource},
		{"to a softwire", six(t, 0, 4, b, to(c.Softwires[1])), api.DropSource},
		{"a message to another", six(t, 0, 58, nil, to(on)), api.DropSource},
		{"a fragment to another", six(t, 0, 44, fragment(4, 0, false, 1, b), to(on)), api.DropSource},
		{"from another", six(t, 0, 4, b, from(on)), api.DropSource},
		{"from the AFTR", six(t, 0, 4, b, from(c.AFTR)), api.DropSource},
		{"from nobody", six(t, 0, 4, b, from(api.Six{})), api.DropSource},
		{"a fragment from another", six(t, 0, 44, fragment(4, 0, false, 1, b), from(on)), api.DropSource},
		{"less than a fragment header from another", six(t, 0, 44, nil, from(on)), api.DropSource},
		{"of another protocol from another", six(t, 0, 6, b, from(on)), api.DropSource},
		{"no packet from another", six(t, 0, 4, nil, from(on)), api.DropSource},
		{"less than a fragment header", six(t, 0, 44, make([]byte, 7)), api.DropForm},
		{"no packet within", six(t, 0, 4, nil), api.DropForm},
		{"less than a head within", six(t, 0, 4, b[:19]), api.DropForm},
		{"less than its size within", six(t, 0, 4, b[:len(b)-1]), api.DropForm},
		{"a wrong sum within", six(t, 0, 4, with(b, 10, b[10]^1)), api.DropForm},
		{"a packet of IPv6 within", six(t, 0, 4, q), api.DropForm},
	} {
		tunnels(t, c.name, x, c.b, nil, c.want)
	}
	for at := range 16 {
		tunnels(t, "to another, by one bit", x, with(q, 24+at, q[24+at]^1), nil, api.DropSource)
		tunnels(t, "from another, by one bit", x, with(q, 8+at, q[8+at]^0x80), nil, api.DropSource)
	}
	for next := range 256 {
		if next != 4 && next != 44 && next != 58 {
			tunnels(t, "of another protocol", x, six(t, 0, next, b), nil, api.DropProto)
			tunnels(t, "of another protocol, of no form", x, six(t, 0, next, nil), nil, api.DropProto)
		}
	}
	holds(t, "nothing", x, 0, 0, 0, 0, 0)
}

// P33.4, examples 1, 2 and 4 of the document: what goes to the Internet, byte by byte, in source and port another, and in sums.
func TestOutbound(t *testing.T) {
	x := element(t)
	for _, c := range []struct{ softwire, port, want int }{
		{0, 5000, 5000}, {1, 5000, 5002}, {0, 53, 1025}, {1, 53, 1027}, {0, 5000, 5000}, {1, 5001, 5001},
	} {
		b := six(t, c.softwire, 4, four(t, datagram(host, c.port, far, 53, 4)), func(p *api.V6) { p.Hop, p.Traffic, p.Flow = 0, 3, 4 })
		tunnels(t, "a datagram", x, b, out(t, datagram(pool, c.want, far, 53, 4)), api.DropNone)
	}
	holds(t, "five", x, 5, 5, 0, 0, 5)
	tunnels(t, "a beginning", x, up(t, 0, segment(host, 80, far, 443, api.FlagSyn, 1460, 0)), out(t, segment(pool, 1024, far, 443, api.FlagSyn, 1460, 0)), api.DropNone)
	tunnels(t, "a query", x, up(t, 0, ping(8, host, far, 9)), out(t, ping(8, pool, far, 9+1015)), api.DropNone)
	greatest := datagram(host, 5000, far, 53, 65535-28)
	ways, why := x.Tunnel(up(t, 0, greatest))
	if len(ways) != 45 || why != api.DropNone {
		t.Errorf("the greatest: %d ways, %d", len(ways), why)
	}
}

// P33.4: how a packet goes on is as it came: its TTL, which a B4 has counted, and all that has to do with nobody's address.
func TestOutboundKeeps(t *testing.T) {
	x := element(t)
	for _, change := range []func(*api.V4){
		ttl(0), ttl(1), ttl(255), dont,
		func(p *api.V4) { p.TOS, p.ID = 255, 65535 },
		func(p *api.V4) { p.Options = []byte{7, 4, 4, 0, 1, 1, 1, 0} },
	} {
		tunnels(t, "a datagram", x, up(t, 1, datagram(host, 5000, far, 53, 40, change)), out(t, datagram(pool, 5000, far, 53, 40, change)), api.DropNone)
	}
}

// P33.4, example 7 of the document: the translator's other reasons, of which nothing is told.
func TestOutboundDrops(t *testing.T) {
	x := element(t)
	for _, c := range []struct {
		name string
		p    api.V4
		want int
	}{
		{"a segment without a beginning", segment(host, 80, far, 443, api.FlagAck, 0, 4), api.DropState},
		{"an answer to nothing", ping(0, host, far, 9), api.DropBinding},
		{"a fault of nothing", message(host, far, api.ICMP{Type: 3, Data: four(t, datagram(far, 1, host, 2, 4))}), api.DropBinding},
		{"a fault that quotes nothing", message(host, far, api.ICMP{Type: 3}), api.DropForm},
		{"of another protocol", plain(47, host, far, counted(8)), api.DropProto},
		{"another message", message(host, far, api.ICMP{Type: 13}), api.DropProto},
		{"less than a datagram", plain(17, host, far, counted(7)), api.DropForm},
		{"a wrong sum", plain(6, host, far, counted(20)), api.DropForm},
	} {
		tunnels(t, c.name, x, up(t, 0, c.p), nil, c.want)
		tunnels(t, c.name+", late", x, up(t, 0, plain(c.p.Proto, c.p.Src, c.p.Dst, c.p.Data, ttl(0))), nil, c.want)
	}
	holds(t, "nothing", x, 0, 0, 0, 0, 0)
}

// P33.4: who finds no quota, no room and no port is told so, into the softwire from which it came.
func TestOutboundTold(t *testing.T) {
	for _, c := range []struct {
		name   string
		change func(*api.Config)
		want   int
	}{
		{"no quota", func(c *api.Config) { c.Quota = 1 }, api.DropQuota},
		{"no binding", func(c *api.Config) { c.Bindings = 1 }, api.DropFull},
		{"no session", func(c *api.Config) { c.Sessions = 1 }, api.DropFull},
		{"no port", func(c *api.Config) { c.Lo, c.Hi = 5000, 5000 }, api.DropPool},
	} {
		x := binds(t, 1, c.change)
		for _, size := range []int{0, 4, 520, 521, 1400} {
			p := datagram(host, 5001, far, 53, size)
			tunnels(t, c.name, x, up(t, 1, p), into(t, 1, told(self, host, 3, 1, 0, four(t, p))), c.want)
		}
		segments := segment(host, 5001, far, 443, api.FlagSyn, 1460, 0)
		if c.want != api.DropPool {
			tunnels(t, c.name+", of a segment", x, up(t, 1, segments), into(t, 1, told(self, host, 3, 1, 0, four(t, segments))), c.want)
		}
		holds(t, c.name, x, 1, 1, 0, 0, 1)
	}
	x := binds(t, 1, func(c *api.Config) { c.Bindings = 1 })
	p := datagram(other, 5001, far, 53, 4)
	tunnels(t, "another softwire", x, up(t, 0, p), into(t, 0, told(self, other, 3, 1, 0, four(t, p))), api.DropFull)
}

// P33.4: what is quoted is what came, not what its greatest size was held to, nor bytes behind it; built anew.
func TestOutboundToldAsItCame(t *testing.T) {
	x := binds(t, 0, func(c *api.Config) { c.Quota, c.MSS = 1, 1400 })
	p := segment(host, 80, far, 443, api.FlagSyn, 1460, 10)
	want := into(t, 0, told(self, host, 3, 1, 0, four(t, p)))
	tunnels(t, "a beginning", x, up(t, 0, p), want, api.DropQuota)
	tunnels(t, "bytes behind", x, six(t, 0, 4, append(four(t, p), 1, 2, 3)), want, api.DropQuota)
	for id := range 1 << 16 {
		b := four(t, datagram(host, 80, far, 443, 10, func(p *api.V4) { p.ID = id }))
		if b[10] == 0 && b[11] == 0 {
			tunnels(t, "another right sum", x, six(t, 0, 4, with(b, 10, 0xFF, 0xFF)), into(t, 0, told(self, host, 3, 1, 0, b)), api.DropQuota)
			break
		}
	}
	whole := datagram(host, 80, far, 443, 92)
	tunnels(t, "a first part", x, up(t, 0, part(whole, 0, 48)), nil, api.DropNone)
	tunnels(t, "the rest of it", x, up(t, 0, part(whole, 48, 100)), into(t, 0, told(self, host, 3, 1, 0, four(t, whole))), api.DropQuota)
}

// P33.4, P33.6: of some packets nothing is told, but they are dropped all the same.
func TestOutboundToldNothing(t *testing.T) {
	x := binds(t, 0, func(c *api.Config) { c.Quota = 1 })
	for _, src := range []int{0, 1, 1<<24 - 1, 127<<24 + 1, 224 << 24, 1<<32 - 1} {
		tunnels(t, "from nobody", x, up(t, 0, datagram(src, 5000, far, 53, 4)), nil, api.DropQuota)
	}
	for _, dst := range []int{0, 127<<24 + 1, 224 << 24, 1<<32 - 1} {
		tunnels(t, "to nobody", x, up(t, 0, datagram(other, 5000, dst, 53, 4)), nil, api.DropQuota)
	}
	p := ping(8, host, far, 5)
	tunnels(t, "a query is told", x, up(t, 0, p), into(t, 0, told(self, host, 3, 1, 0, four(t, p))), api.DropQuota)
}

// P33.4: what the Internet takes no more goes in fragments, or is told of.
func TestOutboundCut(t *testing.T) {
	for _, mtu := range []int{1280, 1500, 1501, 9000} {
		x := element(t, func(c *api.Config) { c.NetMTU = mtu })
		tunnels(t, "as much as fits", x, up(t, 0, datagram(host, 5000, far, 53, mtu-28, dont)), out(t, datagram(pool, 5000, far, 53, mtu-28, dont)), api.DropNone)
		room := (mtu - 20) / 8 * 8
		for _, c := range []struct {
			name   string
			change func(*api.V4)
			copied []byte
		}{
			{"one more", func(*api.V4) {}, nil},
			{"one more, with options", func(p *api.V4) { p.Options = []byte{0x83, 4, 5, 6, 7, 4, 4, 0} }, []byte{0x83, 4, 5, 6}},
		} {
			q := datagram(pool, 5000, far, 53, 2*mtu, c.change)
			ahead := (mtu - v4.Head(q)) / 8 * 8
			behind := (mtu - 20 - len(c.copied)) / 8 * 8
			rest := func(p *api.V4) { p.Options = c.copied }
			want := out(t, part(q, 0, ahead), part(q, ahead, ahead+behind, rest), part(q, ahead+behind, 2*mtu+8, rest))
			tunnels(t, c.name, x, up(t, 0, datagram(host, 5000, far, 53, 2*mtu, c.change)), want, api.DropNone)
		}
		q := datagram(pool, 5000, far, 53, mtu-28+1)
		tunnels(t, "one byte more", x, up(t, 0, datagram(host, 5000, far, 53, mtu-28+1)), out(t, part(q, 0, room), part(q, room, len(q.Data))), api.DropNone)

		p := datagram(host, 5000, far, 53, mtu-28+1, dont)
		tunnels(t, "not to be cut", x, up(t, 0, p), into(t, 0, told(self, host, 3, 4, mtu, four(t, p))), api.DropLong)
	}
}

// P33.4: what is too long has made its binding; nothing is told of what tells of a fault, or to nobody; and what is told is of what came.
func TestOutboundLong(t *testing.T) {
	x := element(t, func(c *api.Config) { c.MSS = 1000 })
	p := segment(host, 80, far, 443, api.FlagSyn, 1460, 1500, dont)
	tunnels(t, "a beginning", x, up(t, 1, p), into(t, 1, told(self, host, 3, 4, 1500, four(t, p))), api.DropLong)
	holds(t, "a beginning", x, 1, 1, 0, 0, 1)
	tunnels(t, "from nobody", x, up(t, 1, datagram(0, 80, far, 443, 1500, dont)), nil, api.DropLong)
	tunnels(t, "to nobody", x, up(t, 1, datagram(host, 80, 224<<24, 443, 1500, dont)), nil, api.DropLong)
	holds(t, "to nobody", x, 3, 3, 0, 0, 3)
	b := four(t, datagram(far, 443, host, 80, 1500))
	tunnels(t, "a fault", x, up(t, 1, message(host, far, api.ICMP{Type: 3, Code: 3, Data: b}, dont)), nil, api.DropLong)
}

// P33.4, P33.5: greatest sizes of segments are held both ways, if that is asked for, and of nothing but beginnings.
func TestClamp(t *testing.T) {
	const syn, ack = api.FlagSyn, api.FlagAck
	for _, c := range []struct{ most, size, want int }{
		{0, 1460, 1460}, {0, 65535, 65535}, {1400, 1460, 1400}, {1400, 1401, 1400}, {1400, 1400, 1400}, {1400, 536, 536}, {536, 1460, 536}, {1400, 0, 0},
	} {
		x := element(t, func(k *api.Config) { k.MSS = c.most })
		tunnels(t, "out", x, up(t, 0, segment(host, 2000, far, 443, syn, c.size, 3)), out(t, segment(pool, 2000, far, 443, syn, c.want, 3)), api.DropNone)
		nets(t, "in", x, four(t, segment(far, 443, pool, 2000, syn+ack, c.size, 3)), into(t, 0, segment(far, 443, host, 2000, syn+ack, c.want, 3, ttl(8))), api.DropNone)
		tunnels(t, "no beginning", x, up(t, 0, segment(host, 2000, far, 443, ack, c.size, 3)), out(t, segment(pool, 2000, far, 443, ack, c.size, 3)), api.DropNone)
		nets(t, "no beginning, in", x, four(t, segment(far, 443, pool, 2000, ack, c.size, 3)), into(t, 0, segment(far, 443, host, 2000, ack, c.size, 3, ttl(8))), api.DropNone)
	}
}

// P33.4: what is sent to the pool goes into a softwire, by two bindings.
func TestWithin(t *testing.T) {
	x := element(t, func(c *api.Config) { c.Filter = api.FilterNone })
	tunnels(t, "who is sent to", x, up(t, 1, datagram(host, 5000, far, 53, 4)), out(t, datagram(pool, 5000, far, 53, 4)), api.DropNone)
	tunnels(t, "who sends", x, up(t, 0, datagram(host, 6000, pool, 5000, 4)), into(t, 1, datagram(pool, 6000, host, 5000, 4, ttl(8))), api.DropNone)
	tunnels(t, "the answer", x, up(t, 1, datagram(host, 5000, pool, 6000, 4)), into(t, 0, datagram(pool, 5000, host, 6000, 4, ttl(8))), api.DropNone)
	tunnels(t, "to itself", x, up(t, 1, datagram(host, 5000, pool, 5000, 4)), into(t, 1, datagram(pool, 5000, host, 5000, 4, ttl(8))), api.DropNone)
	holds(t, "all", x, 2, 4, 0, 0, 4)
	tunnels(t, "a query to the pool, which comes to who sent it", x, up(t, 1, ping(8, host, pool, 9)), into(t, 1, ping(8, pool, host, 9, ttl(8))), api.DropNone)
	b := four(t, datagram(pool, 6000, host, 5000, 4, ttl(8)))
	want := told(pool, host, 3, 3, 0, four(t, datagram(host, 6000, pool, 5000, 4, ttl(8))))
	want.TTL = 8
	tunnels(t, "a fault", x, up(t, 1, plain(1, host, pool, told(host, pool, 3, 3, 0, b).Data)), into(t, 0, plain(1, pool, host, want.Data, ttl(8))), api.DropNone)
}

// P33.4, P33.5: within it may be cut for the tunnel, whatever the Internet takes.
func TestWithinLong(t *testing.T) {
	x := element(t, func(c *api.Config) { c.NetMTU, c.Filter = 1280, api.FilterNone })
	x.Tunnel(up(t, 1, datagram(host, 5000, far, 53, 4)))
	q := datagram(pool, 6000, host, 5000, 3000, dont, ttl(8))
	tunnels(t, "not to be cut", x, up(t, 0, datagram(host, 6000, pool, 5000, 3000, dont)), pieces(t, 1, q, 1, 1280), api.DropNone)
}

// P33.4, P33.5: within there are the same reasons; nothing is told of time that is over.
func TestWithinDrops(t *testing.T) {
	x := element(t, func(c *api.Config) { c.Quota = 1 })
	x.Tunnel(up(t, 1, datagram(host, 5000, far, 53, 4)))
	for _, n := range []int{0, 1} {
		tunnels(t, "late", x, up(t, 0, datagram(host, 6000, pool, 5000, 4, ttl(n))), nil, api.DropTTL)
	}
	holds(t, "late", x, 2, 2, 0, 0, 2)
	tunnels(t, "refused", x, up(t, 0, datagram(host, 6000, pool, 5000, 4)), nil, api.DropFilter)
	tunnels(t, "no binding", x, up(t, 0, datagram(host, 6000, pool, 5001, 4)), nil, api.DropBinding)
	p := datagram(host, 6001, pool, 5000, 4)
	tunnels(t, "no quota", x, up(t, 0, p), into(t, 0, told(self, host, 3, 1, 0, four(t, p))), api.DropQuota)
	tunnels(t, "no quota, late", x, up(t, 0, datagram(host, 6001, pool, 5000, 4, ttl(1))), into(t, 0, told(self, host, 3, 1, 0, four(t, datagram(host, 6001, pool, 5000, 4, ttl(1))))), api.DropQuota)
}

// relays is the bytes of a packet with a message of the tunnel's way from on to the AFTR, with changes.
func relays(t *testing.T, m api.ICMP, changes ...func(*api.V6)) []byte {
	t.Helper()
	b, e := icmp6.Build(on, base().AFTR, m)
	if e != api.OK {
		t.Fatal(e)
	}
	return six(t, 0, 58, b, append([]func(*api.V6){func(p *api.V6) { p.Src = on }}, changes...)...)
}

// sent is the bytes of what the AFTR sent into a softwire, with changes.
func sent(t *testing.T, softwire, next int, data []byte, changes ...func(*api.V6)) []byte {
	t.Helper()
	return six(t, softwire, next, data, append([]func(*api.V6){func(p *api.V6) { p.Src, p.Dst = p.Dst, p.Src }}, changes...)...)
}

// tells is the packet that tells far of what it sent to the pool's port 5000.
func tells(code, rest int, b []byte) api.V4 {
	return told(pool, far, 3, code, rest, b)
}

// P33.3, example 10 of the document: what tells of the tunnel is told to who sent what is within, as of the pool.
func TestTunnelTold(t *testing.T) {
	for softwire := range 2 {
		x := binds(t, softwire)
		// What went into the softwire, and what its sender knows it as: but for the TTL.
		b := four(t, datagram(far, 53, host, 5000, 100, ttl(8)))
		known := four(t, datagram(far, 53, pool, 5000, 100, ttl(8)))
		q := sent(t, softwire, 4, b)
		tunnels(t, "too big", x, relays(t, api.ICMP{Type: 2, Rest: 1400, Data: q}), out(t, tells(4, 1360, known)), api.DropNone)
		tunnels(t, "too big for very little", x, relays(t, api.ICMP{Type: 2, Rest: 40, Data: q}), out(t, tells(4, 68, known)), api.DropNone)
		for _, kind := range []int{1, 3, 4} {
			tunnels(t, "another fault", x, relays(t, api.ICMP{Type: kind, Code: 1, Rest: 9, Data: q}), out(t, tells(1, 0, known)), api.DropNone)
		}
		tunnels(t, "a part", x, relays(t, api.ICMP{Type: 1, Data: q[:40+28]}), out(t, tells(1, 0, known[:28])), api.DropNone)
		first := sent(t, softwire, 44, fragment(4, 0, true, 1, b[:48]))
		tunnels(t, "of a fragment", x, relays(t, api.ICMP{Type: 1, Data: first}), out(t, tells(1, 0, known[:48])), api.DropNone)
		holds(t, "nothing more", x, 1, 1, 0, 0, 1)
		tunnels(t, "of the other softwire", x, relays(t, api.ICMP{Type: 1, Data: sent(t, 1-softwire, 4, b)}), nil, api.DropBinding)
		tunnels(t, "of another port", x, relays(t, api.ICMP{Type: 1, Data: sent(t, softwire, 4, four(t, datagram(far, 53, host, 5001, 4)))}), nil, api.DropBinding)
		m, e := icmp6.Build(base().Softwires[1], base().AFTR, api.ICMP{Type: 1, Data: q})
		if e != api.OK {
			t.Fatal(e)
		}
		tunnels(t, "from a softwire", x, six(t, 1, 58, m), out(t, tells(1, 0, known)), api.DropNone)
	}
}

// P33.3, P33.4: what was sent within is told within.
func TestTunnelToldWithin(t *testing.T) {
	x := element(t, func(c *api.Config) { c.Filter = api.FilterNone })
	x.Tunnel(up(t, 1, datagram(host, 5000, far, 53, 4)))
	ways, _ := x.Tunnel(up(t, 0, datagram(host, 6000, pool, 5000, 4)))
	if len(ways) != 1 || ways[0].Softwire != 1 {
		t.Fatal(ways)
	}
	want := told(pool, host, 3, 1, 0, four(t, datagram(host, 6000, pool, 5000, 4, ttl(8))))
	want.TTL = 63
	tunnels(t, "a fault", x, relays(t, api.ICMP{Type: 1, Data: ways[0].Bytes}), into(t, 0, want), api.DropNone)
}

// P33.3, P33.6: messages that do not go on.
func TestTunnelToldRefuses(t *testing.T) {
	x := binds(t, 0)
	b := four(t, datagram(far, 53, host, 5000, 100))
	right := relays(t, api.ICMP{Type: 1, Data: sent(t, 0, 4, b)})
	fault := four(t, message(far, host, api.ICMP{Type: 3, Data: four(t, datagram(host, 5000, far, 53, 4))}))
	later := four(t, part(datagram(far, 53, host, 5000, 92), 48, 96))
	loop := four(t, datagram(127<<24+1, 53, host, 5000, 4))
	for _, c := range []struct {
		name string
		b    []byte
		want int
	}{
		{"no message", six(t, 0, 58, nil), api.DropForm},
		{"less than a message", six(t, 0, 58, make([]byte, 7)), api.DropForm},
		{"a wrong sum", with(right, 43, right[43]^1), api.DropForm},
		{"the sum of other addresses", with(right, 23, right[23]^1), api.DropForm},
		{"another kind", relays(t, api.ICMP{Type: 5, Data: sent(t, 0, 4, b)}), api.DropProto},
		{"a query", relays(t, api.ICMP{Type: 128}), api.DropProto},
		{"nothing quoted", relays(t, api.ICMP{Type: 1}), api.DropProto},
		{"of another", relays(t, api.ICMP{Type: 1, Data: six(t, 0, 4, b)}), api.DropProto},
		{"of what was sent to no softwire", relays(t, api.ICMP{Type: 1, Data: sent(t, 0, 4, b, func(p *api.V6) { p.Dst = on })}), api.DropProto},
		{"of what was sent to itself", relays(t, api.ICMP{Type: 1, Data: sent(t, 0, 4, b, func(p *api.V6) { p.Dst = p.Src })}), api.DropProto},
		{"of another Next", relays(t, api.ICMP{Type: 1, Data: sent(t, 0, 6, b)}), api.DropProto},
		{"too little quoted", relays(t, api.ICMP{Type: 1, Data: sent(t, 0, 4, b)[:67]}), api.DropProto},
		{"of a fault", relays(t, api.ICMP{Type: 1, Data: sent(t, 0, 4, fault)}), api.DropProto},
		{"of a later fragment", relays(t, api.ICMP{Type: 1, Data: sent(t, 0, 4, later)}), api.DropProto},
		{"of what nobody sent", relays(t, api.ICMP{Type: 1, Data: sent(t, 0, 4, loop)}), api.DropProto},
		{"of no binding", relays(t, api.ICMP{Type: 1, Data: sent(t, 1, 4, b)}), api.DropBinding},
	} {
		tunnels(t, c.name, x, c.b, nil, c.want)
	}
}

// P33.1, P33.2: what is told is too small to be cut, and takes no identifier; all softwires take theirs from one number.
func TestIdentifiers(t *testing.T) {
	x := element(t, func(c *api.Config) {
		c.Quota, c.Static = 1, []api.Static{static(0, 8080, 80), static(1, 8080, 81)}
	})
	for i, softwire := range []int{0, 1, 1, 0} {
		p, q := datagram(far, 53, pool, 80+softwire, 2000), datagram(far, 53, host, 8080, 2000, ttl(8))
		nets(t, "in fragments", x, four(t, p), pieces(t, softwire, q, i+1, 1280), api.DropNone)
		refused := datagram(host, 5000, far, 53, 2000)
		tunnels(t, "refused", x, up(t, softwire, refused), into(t, softwire, told(self, host, 3, 1, 0, four(t, refused))), api.DropQuota)
		nets(t, "in one packet", x, four(t, datagram(far, 53, pool, 80+softwire, 1212)), into(t, softwire, datagram(far, 53, host, 8080, 1212, ttl(8))), api.DropNone)
	}
}

// P33.4: ways are in order, the first part first.
func TestOrder(t *testing.T) {
	x := element(t)
	ways, _ := x.Tunnel(up(t, 0, datagram(host, 5000, far, 53, 6000)))
	at := 0
	for _, w := range ways {
		p, e := v4.Parse(w.Bytes)
		if e != api.OK || p.Off != at {
			t.Fatalf("a part at %d; want %d", p.Off, at)
		}
		at += len(p.Data)
	}
	if at != 6008 || !slices.ContainsFunc(ways, func(w aftr.Way) bool { return w.Softwire == internet }) {
		t.Errorf("%d bytes", at)
	}
}
