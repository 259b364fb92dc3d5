package aftr_test

import (
	"slices"
	"testing"

	"goosepond/aftr"
	"goosepond/api"
)

// fragment is a fragment header, and data behind it.
func fragment(next, off int, more bool, id int, data []byte) []byte {
	last := byte(off)
	if more {
		last++
	}
	head := []byte{byte(next), 0, byte(off >> 8), last, byte(id >> 24), byte(id >> 16), byte(id >> 8), byte(id)}
	return append(head, data...)
}

// part is p's fragment from off to end of its data.
func part(p api.V4, off, end int, changes ...func(*api.V4)) api.V4 {
	p.Off, p.MF, p.Data = p.Off+off, p.MF || end < len(p.Data), p.Data[off:end]
	for _, change := range changes {
		change(&p)
	}
	return p
}

// thirds are p's fragments of 48 bytes of data, of which there are three.
func thirds(t *testing.T, p api.V4) [][]byte {
	t.Helper()
	if len(p.Data) <= 96 || len(p.Data) > 144 {
		t.Fatal(len(p.Data))
	}
	return [][]byte{four(t, part(p, 0, 48)), four(t, part(p, 48, 96)), four(t, part(p, 96, len(p.Data)))}
}

// orders are those in which three may come, twice at times.
var orders = [][]int{{0, 1, 2}, {0, 2, 1}, {1, 0, 2}, {1, 2, 0}, {2, 0, 1}, {2, 1, 0}, {0, 0, 1, 1, 0, 2}, {2, 2, 1, 2, 1, 0}}

// P33.3: fragments of the tunnel are put together, in whatever order they come.
func TestTunnelFragments(t *testing.T) {
	b := four(t, datagram(host, 5000, far, 53, 92))
	l := [][]byte{
		six(t, 1, 44, fragment(4, 0, true, 7, b[:48])),
		six(t, 1, 44, fragment(4, 48, true, 7, b[48:96])),
		six(t, 1, 44, fragment(4, 96, false, 7, b[96:])),
	}
	for _, order := range orders {
		x := element(t)
		for _, n := range order[:len(order)-1] {
			tunnels(t, "one of three", x, l[n], nil, api.DropNone)
		}
		if v := x.View(); v.Bufs != 1 || v.Timers != 1 || len(v.Bindings) != 0 {
			t.Errorf("View = %+v", v)
		}
		tunnels(t, "the last one", x, l[order[len(order)-1]], out(t, datagram(pool, 5000, far, 53, 92)), api.DropNone)
		holds(t, "the last one", x, 1, 1, 0, 0, 1)
	}
}

// P33.3: which fragments of the tunnel belong together is told by the softwire's address, and the identifier, and nothing else.
func TestTunnelFragmentsApart(t *testing.T) {
	type key struct{ softwire, id int }
	keys := []key{{0, 0}, {1, 0}, {0, 1}, {1, 1}, {0, 256}, {0, 1 << 16}, {0, 1 << 24}, {0, 1<<32 - 1}}
	x := element(t, func(c *api.Config) { c.Buffers = len(keys) })
	first := func(k key, b []byte) []byte {
		return six(t, k.softwire, 44, fragment(4, 0, true, k.id, b[:64]), func(p *api.V6) { p.Hop, p.Traffic, p.Flow = 1, 2, 3 })
	}
	for i, k := range keys {
		tunnels(t, "the first part", x, first(k, four(t, datagram(host, 2000+2*i, far, 53, 92))), nil, api.DropNone)
	}
	holds(t, "the first parts", x, 0, 0, 64*len(keys), len(keys), len(keys))
	for i, k := range keys {
		b := four(t, datagram(host, 2000+2*i, far, 53, 92))
		tunnels(t, "the second part", x, six(t, k.softwire, 44, fragment(4, 64, false, k.id, b[64:])), out(t, datagram(pool, 2000+2*i, far, 53, 92)), api.DropNone)
	}
	holds(t, "the second parts", x, len(keys), len(keys), 0, 0, len(keys))
}

// P33.3: fragments of the tunnel that may not be; with most of them their buffer is gone.
func TestTunnelFragmentsRefuses(t *testing.T) {
	b := four(t, datagram(host, 5000, far, 53, 92))
	for _, c := range []struct {
		name string
		bad  []byte
		want int
		left int
	}{
		{"none of a header", nil, api.DropForm, 48},
		{"less than a header", []byte{4, 0, 0, 1, 0, 0, 0}, api.DropForm, 48},
		{"no bytes, and more", fragment(4, 48, true, 7, nil), api.DropForm, 0},
		{"more, and no multiple of 8", fragment(4, 48, true, 7, b[48:55]), api.DropForm, 0},
		{"an end within", fragment(4, 40, false, 7, nil), api.DropForm, 0},
		{"too long", fragment(4, 65528, false, 7, b[:8]), api.DropForm, 0},
		{"overlapping", fragment(4, 40, true, 7, b[40:56]), api.DropOverlap, 0},
		{"other bytes of the same place", fragment(4, 0, true, 7, b[1:49]), api.DropOverlap, 0},
		{"of another packet, and wrong", fragment(4, 0, true, 8, b[:7]), api.DropForm, 48},
		{"the same", fragment(4, 0, true, 7, b[:48]), api.DropNone, 48},
		{"as long as may be", fragment(4, 65528, false, 7, b[:7]), api.DropNone, 55},
	} {
		x := element(t)
		tunnels(t, c.name+": one ahead", x, six(t, 0, 44, fragment(4, 0, true, 7, b[:48])), nil, api.DropNone)
		tunnels(t, c.name, x, six(t, 0, 44, c.bad), nil, c.want)
		if v := x.View(); v.Bytes != c.left {
			t.Errorf("%s: %d bytes are left; want %d", c.name, v.Bytes, c.left)
		}
	}
}

// P33.3: what is put together is of the Next that its first part told, and is looked at as what comes whole.
func TestTunnelFragmentsNext(t *testing.T) {
	b := four(t, datagram(host, 5000, far, 53, 92))
	for next := range 256 {
		x := element(t)
		want, ways := api.DropProto, []aftr.Way(nil)
		if next == 4 {
			want, ways = api.DropNone, out(t, datagram(pool, 5000, far, 53, 92))
		}
		tunnels(t, "the last part", x, six(t, 0, 44, fragment(255-next, 48, false, 7, b[48:])), nil, api.DropNone)
		tunnels(t, "the first part", x, six(t, 0, 44, fragment(next, 0, true, 7, b[:48])), ways, want)
		tunnels(t, "all in one part", x, six(t, 0, 44, fragment(next, 0, false, 7, b)), ways, want)
	}
	x := element(t)
	tunnels(t, "no bytes", x, six(t, 0, 44, fragment(4, 0, false, 7, nil)), nil, api.DropForm)
	tunnels(t, "a wrong sum", x, six(t, 0, 44, fragment(4, 0, false, 7, with(b, 10, b[10]^1))), nil, api.DropForm)
	tunnels(t, "bytes behind", x, six(t, 0, 44, fragment(4, 0, false, 7, append(slices.Clone(b), 1, 2))), out(t, datagram(pool, 5000, far, 53, 92)), api.DropNone)
}

// P33.2, P33.5: fragments from the Internet are put together, in whatever order they come.
func TestNetFragments(t *testing.T) {
	l := thirds(t, datagram(far, 53, pool, 5000, 92))
	for _, order := range orders {
		x := binds(t, 1)
		for _, n := range order[:len(order)-1] {
			nets(t, "one of three", x, l[n], nil, api.DropNone)
		}
		if v := x.View(); v.Bufs != 1 || v.Timers != 2 {
			t.Errorf("View = %+v", v)
		}
		nets(t, "the last one", x, l[order[len(order)-1]], into(t, 1, datagram(far, 53, host, 5000, 92, ttl(8))), api.DropNone)
		holds(t, "the last one", x, 1, 1, 0, 0, 1)
	}
}

// P33.2, P33.3: what a softwire has within may be fragments as well; they are put together, in whatever order they come.
func TestFragmentsWithin(t *testing.T) {
	l := thirds(t, datagram(host, 5000, far, 53, 92))
	for _, order := range orders {
		x := element(t)
		for _, n := range order[:len(order)-1] {
			tunnels(t, "one of three", x, six(t, 1, 4, l[n]), nil, api.DropNone)
		}
		if v := x.View(); v.Bufs != 1 || v.Timers != 1 || len(v.Bindings) != 0 {
			t.Errorf("View = %+v", v)
		}
		tunnels(t, "the last one", x, six(t, 1, 4, l[order[len(order)-1]]), out(t, datagram(pool, 5000, far, 53, 92)), api.DropNone)
		holds(t, "the last one", x, 1, 1, 0, 0, 1)
	}
}

// P33.3: fragments within fragments: each kind is put together, one behind the other.
func TestFragmentsWithinFragments(t *testing.T) {
	x := element(t)
	for i, b := range thirds(t, datagram(host, 5000, far, 53, 92)) {
		want := []aftr.Way(nil)
		if i == 2 {
			want = out(t, datagram(pool, 5000, far, 53, 92))
		}
		tunnels(t, "one half", x, six(t, 0, 44, fragment(4, 16, false, i, b[16:])), nil, api.DropNone)
		tunnels(t, "the other half", x, six(t, 0, 44, fragment(4, 0, true, i, b[:16])), want, api.DropNone)
	}
	holds(t, "all", x, 1, 1, 0, 0, 1)
}

// P33.2: which fragments of IPv4 belong together is told by where they come from, their addresses, their protocol and their ID.
func TestFragmentsApart(t *testing.T) {
	x := element(t, func(c *api.Config) { c.Buffers, c.Filter = 20, api.FilterNone })
	var l []api.V4
	for _, change := range []func(*api.V4){
		func(*api.V4) {},
		func(p *api.V4) { p.Src = other },
		func(p *api.V4) { p.Src += 1 << 8 },
		func(p *api.V4) { p.Src += 1 << 16 },
		func(p *api.V4) { p.Src += 1 << 24 },
		func(p *api.V4) { p.Dst = far2 },
		func(p *api.V4) { p.Dst += 1 << 24 },
		func(p *api.V4) { p.ID = 6 },
		func(p *api.V4) { p.ID = 5 + 1<<8 },
		func(p *api.V4) { p.Proto = 47 },
	} {
		p := datagram(host, 2000, far, 53, 92, change)
		if p.Proto == 17 {
			p.Data = datagram(p.Src, 2000, p.Dst, 53, 92).Data
		}
		l = append(l, p)
	}
	for softwire := range 2 {
		for _, p := range l {
			tunnels(t, "the last part", x, up(t, softwire, part(p, 64, 100)), nil, api.DropNone)
		}
	}
	holds(t, "the last parts", x, 0, 0, 36*20, 20, 20)
	for softwire := range 2 {
		for _, p := range l {
			ways, why := x.Tunnel(up(t, softwire, part(p, 0, 64)))
			if p.Proto != 17 {
				if len(ways) != 0 || why != api.DropProto {
					t.Errorf("Tunnel = %v, %d", ways, why)
				}
				continue
			}
			if len(ways) != 1 || why != api.DropNone {
				t.Fatalf("Tunnel = %v, %d", ways, why)
			}
			if len(ways[0].Bytes) != 120 {
				t.Errorf("%d bytes", len(ways[0].Bytes))
			}
		}
	}
	if v := x.View(); v.Bytes != 0 || v.Bufs != 0 {
		t.Errorf("View = %+v", v)
	}
}

// P33.2: a softwire's fragments and those of the Internet make no packet together, nor do those of two softwires, though all they say is alike.
func TestFragmentsOfEachSide(t *testing.T) {
	x := element(t, func(c *api.Config) { c.Static = []api.Static{static(0, 8080, 80), static(1, 8080, 81)} })
	p := datagram(far, 53, pool, 80, 92)
	first, last := four(t, part(p, 0, 64)), four(t, part(p, 64, 100))
	nets(t, "the Internet's first", x, first, nil, api.DropNone)
	tunnels(t, "the last one of 0", x, six(t, 0, 4, last), nil, api.DropNone)
	tunnels(t, "the last one of 1", x, six(t, 1, 4, last), nil, api.DropNone)
	holds(t, "three buffers", x, 2, 0, 64+36+36, 3, 3)
	nets(t, "the Internet's last", x, last, into(t, 0, datagram(far, 53, host, 8080, 92, ttl(8))), api.DropNone)
	holds(t, "two buffers", x, 2, 0, 36+36, 2, 2)
	// Behind softwires it comes from an inner endpoint of its own, to the pool: within.
	x.Tunnel(six(t, 1, 4, first))
	holds(t, "one buffer", x, 3, 1, 36, 1, 2)
}

// P33.2: the head is that of the first part; all else that the others say is nothing.
func TestFragmentsHead(t *testing.T) {
	options := []byte{7, 4, 4, 0, 1, 1, 1, 0}
	x := binds(t, 0)
	p := datagram(far, 53, pool, 5000, 92, func(p *api.V4) { p.Options = options })
	odd := func(q *api.V4) { q.TOS, q.TTL, q.DF, q.Options = 99, 1, true, []byte{1, 1, 1, 1} }
	nets(t, "the last one", x, four(t, part(p, 96, 100, odd)), nil, api.DropNone)
	nets(t, "the first one", x, four(t, part(p, 0, 48)), nil, api.DropNone)
	nets(t, "the one between", x, four(t, part(p, 48, 96, odd)), into(t, 0, datagram(far, 53, host, 5000, 92, ttl(8), func(p *api.V4) { p.Options = options })), api.DropNone)

	q := part(p, 0, 48, odd)
	nets(t, "the odd first one", x, four(t, q), nil, api.DropNone)
	nets(t, "the last one", x, four(t, part(p, 96, 100)), nil, api.DropNone)
	late := datagram(far, 53, pool, 5000, 92, odd)
	nets(t, "the one between", x, four(t, part(p, 48, 96)), out(t, told(pool, far, 11, 0, 0, four(t, late))), api.DropTTL)
}

// P33.2: a first part that comes again, with the same data, but another head, changes nothing.
func TestFragmentsHeadOfTheFirst(t *testing.T) {
	x := binds(t, 0)
	p := datagram(far, 53, pool, 5000, 92)
	nets(t, "the first one", x, four(t, part(p, 0, 48)), nil, api.DropNone)
	nets(t, "again", x, four(t, part(p, 0, 48, ttl(77))), nil, api.DropNone)
	nets(t, "the last one", x, four(t, part(p, 48, 100)), into(t, 0, datagram(far, 53, host, 5000, 92, ttl(8))), api.DropNone)
}

// P33.2: fragments of IPv4 that may not be; with most of them their buffer is gone.
func TestFragmentsRefuses(t *testing.T) {
	p := datagram(far, 53, pool, 5000, 92)
	for _, c := range []struct {
		name string
		bad  func(*api.V4)
		want int
		left int
	}{
		{"no data, and more", func(q *api.V4) { q.Off, q.MF, q.Data = 48, true, nil }, api.DropForm, 0},
		{"no data, an end within", func(q *api.V4) { q.Off, q.MF, q.Data = 40, false, nil }, api.DropForm, 0},
		{"overlapping", func(q *api.V4) { q.Off, q.MF, q.Data = 40, true, p.Data[40:56] }, api.DropOverlap, 0},
		{"other bytes of the same place", func(q *api.V4) { q.Off, q.MF, q.Data = 0, true, p.Data[1:49] }, api.DropOverlap, 0},
		{"of another packet, without data", func(q *api.V4) { q.ID, q.Off, q.MF, q.Data = 9, 48, true, nil }, api.DropForm, 48},
		{"the same", func(q *api.V4) { q.Off, q.MF, q.Data = 0, true, p.Data[:48] }, api.DropNone, 48},
		{"the one behind", func(q *api.V4) { q.Off, q.MF, q.Data = 48, true, p.Data[48:56] }, api.DropNone, 56},
		{"an end of no data", func(q *api.V4) { q.Off, q.MF, q.Data = 48, false, nil }, api.DropForm, 0},
	} {
		x := binds(t, 0)
		nets(t, c.name+": one ahead", x, four(t, part(p, 0, 48)), nil, api.DropNone)
		q := p
		c.bad(&q)
		nets(t, c.name, x, four(t, q), nil, c.want)
		if v := x.View(); v.Bytes != c.left {
			t.Errorf("%s: %d bytes are left; want %d", c.name, v.Bytes, c.left)
		}
	}
}

// P33.2: a second end, or a part behind the end; then it may come anew.
func TestFragmentsEnds(t *testing.T) {
	p := datagram(far, 53, pool, 5000, 92)
	l := thirds(t, p)
	for _, bad := range []func(*api.V4){
		func(q *api.V4) { q.Off, q.MF, q.Data = 136, false, counted(8) },
		func(q *api.V4) { q.Off, q.MF, q.Data = 136, true, counted(8) },
		func(q *api.V4) { q.Off, q.MF, q.Data = 64, false, counted(8) },
	} {
		x := binds(t, 0)
		nets(t, "the last one", x, l[2], nil, api.DropNone)
		q := p
		bad(&q)
		nets(t, "another end", x, four(t, q), nil, api.DropForm)
		nets(t, "anew", x, l[0], nil, api.DropNone)
		nets(t, "anew", x, l[1], nil, api.DropNone)
		nets(t, "anew", x, l[2], into(t, 0, datagram(far, 53, host, 5000, 92, ttl(8))), api.DropNone)
	}
}

// P33.2: a head and data that may be, each alone, may be too long together; then the buffer is gone, too.
func TestFragmentsTooLong(t *testing.T) {
	for _, c := range []struct {
		options, data, want int
	}{
		{0, 65515, api.DropNone}, {0, 65516, api.DropForm}, {0, 65535, api.DropForm}, {40, 65475, api.DropNone}, {40, 65476, api.DropForm},
	} {
		x := element(t, func(c *api.Config) { c.Static = []api.Static{static(0, 8080, 80)} })
		data := make([]byte, c.data)
		// Ports, and no sum, so that all of it may be a datagram.
		copy(data, []byte{0, 53, 0, 80, byte(c.data >> 8), byte(c.data)})
		p := plain(17, far, pool, data, func(p *api.V4) { p.Options = make([]byte, c.options) })
		nets(t, "the first part", x, four(t, part(p, 0, 32768)), nil, api.DropNone)
		ways, why := x.Net(four(t, part(p, 32768, c.data)))
		if why != c.want || (len(ways) > 0) != (c.want == api.DropNone) {
			t.Errorf("%d bytes behind %d of options: %d ways, %d; want %d", c.data, c.options, len(ways), why, c.want)
		}
		holds(t, "the last part", x, 1, 0, 0, 0, 0)
	}
	x := element(t)
	late := plain(17, far, pool, make([]byte, 65516), ttl(1))
	nets(t, "the first part of a late one", x, four(t, part(late, 0, 32768)), nil, api.DropNone)
	nets(t, "the last part of a late one", x, four(t, part(late, 32768, 65516)), nil, api.DropForm)
}

// P33.1, P33.2, P33.3: no room for another buffer, or for more bytes; the two tables have room of their own.
func TestFragmentsFull(t *testing.T) {
	b := four(t, datagram(host, 5000, far, 53, 92))
	outer := func(id int) []byte { return six(t, 0, 44, fragment(4, 0, true, id, b[:64])) }
	inner := func(id int) []byte {
		return up(t, 0, part(datagram(host, 5000, far, 53, 92, func(p *api.V4) { p.ID = id }), 0, 64))
	}
	x := element(t, func(c *api.Config) { c.Buffers = 1 })
	tunnels(t, "the tunnel's first one", x, outer(1), nil, api.DropNone)
	tunnels(t, "the tunnel's second one", x, outer(2), nil, api.DropFull)
	tunnels(t, "the first one within", x, inner(1), nil, api.DropNone)
	tunnels(t, "the second one within", x, inner(2), nil, api.DropFull)
	nets(t, "one of the Internet", x, four(t, part(datagram(far, 53, pool, 5000, 92), 0, 48)), nil, api.DropFull)
	holds(t, "one of each kind", x, 0, 0, 128, 2, 2)
	tunnels(t, "the rest of the tunnel's", x, six(t, 0, 44, fragment(4, 64, false, 1, b[64:])), out(t, datagram(pool, 5000, far, 53, 92)), api.DropNone)
	tunnels(t, "the tunnel's second one again", x, outer(2), nil, api.DropNone)

	x = element(t, func(c *api.Config) { c.Bytes = 128 })
	for id := range 2 {
		tunnels(t, "64 bytes of the tunnel", x, outer(id), nil, api.DropNone)
		tunnels(t, "64 bytes within", x, inner(id), nil, api.DropNone)
	}
	tunnels(t, "64 too many of the tunnel", x, outer(2), nil, api.DropFull)
	tunnels(t, "64 too many within", x, inner(2), nil, api.DropFull)
	tunnels(t, "some more of one", x, up(t, 0, part(datagram(host, 5000, far, 53, 92, func(p *api.V4) { p.ID = 0 }), 64, 100)), nil, api.DropFull)
	tunnels(t, "the same again", x, inner(0), nil, api.DropNone)
	holds(t, "all there may be", x, 0, 0, 256, 4, 4)

	x = element(t, func(c *api.Config) { c.Buffers, c.Bytes = 0, 0 })
	tunnels(t, "no buffers of the tunnel", x, outer(1), nil, api.DropFull)
	tunnels(t, "no buffers within", x, inner(1), nil, api.DropFull)
	tunnels(t, "whole", x, six(t, 0, 4, b), out(t, datagram(pool, 5000, far, 53, 92)), api.DropNone)
}

// P33.1: buffers wait from their first part on.
func TestFragmentsWait(t *testing.T) {
	l := thirds(t, datagram(far, 53, pool, 5000, 92))
	x := binds(t, 0, func(c *api.Config) { c.Frag = 10 })
	x.Advance(3)
	nets(t, "at 3", x, l[0], nil, api.DropNone)
	x.Advance(12)
	nets(t, "at 12", x, l[1], nil, api.DropNone)
	x.Advance(13)
	holds(t, "at 13", x, 1, 1, 0, 0, 1)
	nets(t, "the last one, alone", x, l[2], nil, api.DropNone)
	nets(t, "anew", x, l[0], nil, api.DropNone)
	x.Advance(22)
	nets(t, "in time", x, l[1], into(t, 0, datagram(far, 53, host, 5000, 92, ttl(8))), api.DropNone)
}
