package aftr_test

import (
	"bytes"
	"fmt"
	"math/rand/v2"
	"reflect"
	"slices"
	"strconv"
	"testing"

	"goosepond/aftr"
	"goosepond/api"
	"goosepond/b4"
	"goosepond/clamp"
	"goosepond/cut4"
	"goosepond/cut6"
	"goosepond/errs"
	"goosepond/icmp6"
	"goosepond/join"
	"goosepond/napt"
	"goosepond/relay"
	"goosepond/v4"
	"goosepond/v6"
	"goosepond/wrap"
)

// model is the element as the chapter's sentences tell it, one behind the other.
type model struct {
	c         api.Config
	e         *napt.Engine
	six, four *join.Table
	now, id   int
	counts    []int
}

func newModel(t *testing.T, c api.Config) *model {
	t.Helper()
	e, errno := napt.New(c)
	if errno != api.OK {
		t.Fatal(errno)
	}
	six, _ := join.New(c.Buffers, c.Bytes, c.Frag)
	four, _ := join.New(c.Buffers, c.Bytes, c.Frag)
	return &model{c: c, e: e, six: six, four: four, id: 1, counts: make([]int, api.Drops)}
}

func (m *model) advance(now int) int {
	m.now = max(m.now, now)
	m.six.Expire(m.now)
	m.four.Expire(m.now)
	return m.e.Advance(now)
}

func (m *model) view() api.View {
	v := m.e.View()
	v.Bytes = m.six.Bytes() + m.four.Bytes()
	v.Bufs = m.six.Bufs() + m.four.Bufs()
	v.Timers = len(v.Sessions) + v.Bufs
	v.Counts = slices.Clone(m.counts)
	return v
}

// count is what was answered, and why, which is counted.
func (m *model) count(l []aftr.Way, why int) ([]aftr.Way, int) {
	if why > 0 {
		m.counts[why]++
	}
	return l, why
}

// refused is the reason for which a part was not taken, or none.
func refused(e api.Errno) int {
	return map[api.Errno]int{api.ErrFull: api.DropFull, api.ErrTwice: api.DropOverlap, api.ErrForm: api.DropForm, api.ErrLong: api.DropForm}[e]
}

func (m *model) down(softwire int, p api.V4) (l []aftr.Way) {
	b, _ := v4.Build(p)
	q, _ := wrap.Wrap(m.c.AFTR, m.c.Softwires[softwire], m.c.Hop, b)
	parts, _ := cut6.Cut(q, m.id, m.c.TunnelMTU)
	if 40+len(b) > m.c.TunnelMTU {
		m.id++
	}
	for _, part := range parts {
		b, _ := v6.Build(part)
		l = append(l, aftr.Way{Softwire: softwire, Bytes: b})
	}
	return l
}

// part is whether p is whole, or makes a packet whole, that one, and why not.
func (m *model) part(side int, p api.V4) (api.V4, bool, int) {
	if !p.MF && p.Off == 0 {
		return p, true, api.DropNone
	}
	b, _ := v4.Build(api.V4{TOS: p.TOS, ID: p.ID, TTL: p.TTL, Proto: p.Proto, Src: p.Src, Dst: p.Dst, DF: p.DF, Options: p.Options})
	head, all, done, e := m.four.Add(fmt.Sprint(side, p.Src, p.Dst, p.Proto, p.ID), p.Off, p.MF, p.Data, string(b), m.now)
	if !done {
		return api.V4{}, false, refused(e)
	}
	whole, _ := v4.Parse([]byte(head))
	whole.Data = all
	if v4.Check(whole) != api.OK {
		return api.V4{}, false, api.DropForm
	}
	return whole, true, api.DropNone
}

func (m *model) tunnel(b []byte) ([]aftr.Way, int) {
	p, e := v6.Parse(b)
	if e != api.OK {
		return nil, api.DropForm
	}
	if p.Dst != m.c.AFTR {
		return nil, api.DropSource
	}
	if p.Next == 58 {
		msg, e := icmp6.Parse(p.Src, p.Dst, p.Data)
		if e != api.OK {
			return nil, api.DropForm
		}
		told, e := relay.Of(m.c.AFTR, msg)
		softwire := slices.Index(m.c.Softwires, told.Peer)
		if e != api.OK || softwire < 0 {
			return nil, api.DropProto
		}
		q, e := relay.Packet(self, told)
		if e != api.OK {
			return nil, api.DropProto
		}
		return m.outbound(softwire, q)
	}
	softwire := slices.Index(m.c.Softwires, p.Src)
	if softwire < 0 {
		return nil, api.DropSource
	}
	if p.Next == 44 {
		f, data, e := v6.ParseFrag(p.Data)
		if e != api.OK {
			return nil, api.DropForm
		}
		next, all, done, e := m.six.Add(fmt.Sprint(p.Src, p.Dst, f.ID), f.Off, f.More, data, strconv.Itoa(f.Next), m.now)
		if !done {
			return nil, refused(e)
		}
		p.Data = all
		p.Next, _ = strconv.Atoi(next)
	}
	if p.Next != 4 {
		return nil, api.DropProto
	}
	q, e := v4.Parse(p.Data)
	if e != api.OK {
		return nil, api.DropForm
	}
	q, done, why := m.part(softwire, q)
	if !done {
		return nil, why
	}
	return m.outbound(softwire, q)
}

func (m *model) outbound(softwire int, p api.V4) ([]aftr.Way, int) {
	came, _ := v4.Build(p)
	tell := func(code, rest int) []aftr.Way {
		if q, e := errs.Make(self, 3, code, rest, came); e == api.OK {
			return m.down(softwire, q)
		}
		return nil
	}
	if m.c.MSS > 0 {
		p = clamp.Packet(p, m.c.MSS)
	}
	q, why := m.e.Out(softwire, p)
	if why == api.DropQuota || why == api.DropFull || why == api.DropPool {
		return tell(1, 0), why
	}
	if why != api.DropNone {
		return nil, why
	}
	if slices.Contains(m.c.Pool, q.Dst) {
		return m.inbound(q, true)
	}
	parts, e := cut4.Cut(q, m.c.NetMTU)
	if e == api.ErrLong {
		return tell(4, m.c.NetMTU), api.DropLong
	}
	var l []aftr.Way
	for _, part := range parts {
		b, _ := v4.Build(part)
		l = append(l, aftr.Way{Softwire: -1, Bytes: b})
	}
	return l, api.DropNone
}

func (m *model) net(b []byte) ([]aftr.Way, int) {
	p, e := v4.Parse(b)
	if e != api.OK {
		return nil, api.DropForm
	}
	if !slices.Contains(m.c.Pool, p.Dst) {
		return nil, api.DropBinding
	}
	p, done, why := m.part(255, p)
	if !done {
		return nil, why
	}
	return m.inbound(p, false)
}

func (m *model) inbound(p api.V4, within bool) ([]aftr.Way, int) {
	if p.TTL <= 1 {
		b, _ := v4.Build(p)
		q, e := errs.Make(p.Dst, 11, 0, 0, b)
		if within || e != api.OK {
			return nil, api.DropTTL
		}
		b, _ = v4.Build(q)
		return []aftr.Way{{Softwire: -1, Bytes: b}}, api.DropTTL
	}
	p.TTL--
	softwire, q, why := m.e.In(p)
	if why != api.DropNone {
		return nil, why
	}
	if m.c.MSS > 0 {
		q = clamp.Packet(q, m.c.MSS)
	}
	return m.down(softwire, q), api.DropNone
}

// dice makes packets at random, of so few addresses and ports that they meet.
type dice struct{ *rand.Rand }

// of is one of what it is given.
func (d dice) of(l ...int) int { return l[d.IntN(len(l))] }

// change is what a packet differs in at random.
func (d dice) change(p *api.V4) {
	p.ID, p.TTL, p.DF = d.IntN(2), d.of(0, 1, 2, 9, 9, 9), d.IntN(4) == 0
	if d.IntN(8) == 0 {
		p.Options = d.options()
	}
}

func (d dice) options() []byte {
	return [][]byte{{7, 4, 4, 0}, {0x83, 3, 4, 0}, {1, 0x83, 3, 4, 7, 3, 4, 0}}[d.IntN(3)]
}

// packet is one from src to dst.
func (d dice) packet(src, sport, dst, dport int) api.V4 {
	size := d.of(0, 4, 40, 40, 1300, 1480)
	switch d.IntN(8) {
	case 0, 1:
		return segment(src, sport, dst, dport, d.of(2, 2, 18, 16, 17, 4), d.of(0, 1300, 1460), size, d.change)
	case 2:
		return ping(d.of(0, 8), src, dst, sport, d.change)
	case 3:
		return plain(d.of(1, 6, 17, 47), src, dst, counted(d.IntN(30)), d.change)
	}
	return datagram(src, sport, dst, dport, size, d.change)
}

// port is one of a few.
func (d dice) port() int { return d.of(5000, 5001, 5002) }

// fromSoftwire is a packet that a softwire has within: to the Internet or the pool, or a fault of what came from there.
func (d dice) fromSoftwire(t *testing.T) api.V4 {
	in, to := d.of(host, host, other), d.of(far, far, far, pool)
	if d.IntN(8) == 0 {
		return message(in, to, api.ICMP{Type: d.of(3, 11), Data: four(t, d.packet(to, d.of(53, 5000), in, d.port()))}, d.change)
	}
	return d.packet(in, d.port(), to, d.of(53, 5000, 5001))
}

// fromNet is a packet of the Internet: to the pool, or a fault of what came from there.
func (d dice) fromNet(t *testing.T) api.V4 {
	to := d.of(pool, pool, pool, pool, second)
	if d.IntN(8) == 0 {
		return message(far, to, api.ICMP{Type: d.of(3, 11), Data: four(t, d.packet(to, d.port(), far, 53))}, d.change)
	}
	return d.packet(far, d.of(53, 5000), to, d.port())
}

// parts is p, or fragments of it, at random.
func (d dice) parts(p api.V4) []api.V4 {
	if len(p.Data) < 16 || d.IntN(3) > 0 {
		return []api.V4{p}
	}
	p.DF = false
	at := 8 * (1 + d.IntN(len(p.Data)/8-1))
	l := []api.V4{part(p, 0, at), part(p, at, len(p.Data))}
	if d.IntN(6) == 0 {
		l = append(l, part(p, max(at-8, 0), at))
	}
	return l
}

// tunnelled is p in packets of the tunnel, or fragments, at random.
func (d dice) tunnelled(t *testing.T, p api.V4) [][]byte {
	softwire, b := d.IntN(2), four(t, p)
	if d.IntN(3) > 0 {
		return [][]byte{six(t, softwire, d.of(4, 4, 4, 4, 4, 4, 41), b)}
	}
	at, id := 8*(1+d.IntN(len(b)/8-1)), d.IntN(3)
	l := [][]byte{
		six(t, softwire, 44, fragment(d.of(4, 4, 4, 4, 6), 0, true, id, b[:at])),
		six(t, softwire, 44, fragment(4, at, false, id, b[at:])),
	}
	if d.IntN(6) == 0 {
		l = append(l, six(t, softwire, 44, fragment(4, at-8, true, id, b[at-8:at])))
	}
	return l
}

// heard is a message of the tunnel's way, of a packet to a softwire.
func (d dice) heard(t *testing.T) []byte {
	p := d.packet(d.of(far, far, pool), d.of(53, 5000), host, d.port())
	data := sent(t, d.IntN(2), 4, four(t, p))
	return relays(t, api.ICMP{Type: d.of(1, 2, 3, 4, 128), Rest: 1400, Data: data})
}

// spoilt is b, with another byte somewhere at times.
func (d dice) spoilt(b []byte) []byte {
	if d.IntN(40) == 0 {
		return with(b, d.IntN(min(len(b), 90)), byte(d.IntN(256)))
	}
	return b
}

// settings are so narrow that all reasons are met.
func (d dice) settings(c *api.Config) {
	c.Quota, c.Bindings, c.Sessions = 2+d.IntN(4), 3+d.IntN(5), 3+d.IntN(8)
	c.Lo, c.Hi, c.Filter = 5000, 5000+d.IntN(5), d.IntN(3)
	c.Buffers, c.Bytes, c.Frag = d.IntN(4), d.of(100, 1500, 1<<20), d.of(1, 30)
	c.TunnelMTU, c.NetMTU, c.MSS = d.of(1280, 1400, 9000), d.of(1280, 1500), d.of(0, 0, 1200)
	c.Static = []api.Static{static(1, 7000, 5001)}
}

// P33.1 to P33.5: whatever comes, from both sides, as time passes: it is as the chapter's sentences say, in order; and it stays within the settings.
func TestRandom(t *testing.T) {
	met, softwires, gone := map[int]int{}, map[int]int{}, 0
	for seed := range uint64(80) {
		d := dice{rand.New(rand.NewPCG(seed, 33))}
		c := base(d.settings)
		x, m := element(t, d.same(c)), newModel(t, c)
		for range 250 {
			if d.IntN(12) == 0 {
				now := m.now + d.of(-1, 0, 1, 10, 30, 60, 240)
				got, want := x.Advance(now), m.advance(now)
				if got != want {
					t.Fatalf("Advance(%d) = %d; want %d", now, got, want)
				}
				gone += got
			}
			for _, b := range d.some(t) {
				ask, model := x.Tunnel, m.tunnel
				if len(b) > 0 && b[0]>>4 == 4 {
					ask, model = x.Net, m.net
				}
				got, why := ask(b)
				want, because := m.count(model(b))
				if !same(got, want) || why != because {
					t.Fatalf("%v: %v, %d; want %v, %d", b, got, why, want, because)
				}
				met[why]++
				for _, w := range got {
					softwires[w.Softwire]++
				}
				within(t, c, x, m)
			}
		}
	}
	for why := range api.DropWay {
		if met[why] < 20 {
			t.Errorf("the reason %d was met %d times", why, met[why])
		}
	}
	for softwire := -1; softwire < 2; softwire++ {
		if softwires[softwire] < 500 {
			t.Errorf("%d went to %d", softwires[softwire], softwire)
		}
	}
	if gone < 50 {
		t.Errorf("%d went by time", gone)
	}
}

// same is the change to c.
func (d dice) same(c api.Config) func(*api.Config) {
	return func(to *api.Config) { *to = c }
}

// some is bytes that come one behind the other, in whatever order: of the tunnel, or of the Internet.
func (d dice) some(t *testing.T) [][]byte {
	var l [][]byte
	switch d.IntN(9) {
	case 0:
		l = append(l, d.heard(t))
	case 1, 2, 3:
		for _, p := range d.parts(d.fromNet(t)) {
			l = append(l, four(t, p))
		}
	default:
		for _, p := range d.parts(d.fromSoftwire(t)) {
			l = append(l, d.tunnelled(t, p)...)
		}
	}
	d.Shuffle(len(l), func(i, j int) { l[i], l[j] = l[j], l[i] })
	if d.IntN(10) == 0 {
		l = l[1:]
	}
	for i := range l {
		l[i] = d.spoilt(l[i])
	}
	return l
}

// within fails unless x has what m has, within c.
func within(t *testing.T, c api.Config, x *aftr.AFTR, m *model) {
	t.Helper()
	v := x.View()
	if !reflect.DeepEqual(v, m.view()) {
		t.Fatalf("View = %+v; want %+v", v, m.view())
	}
	if v.Bufs > 2*c.Buffers || v.Bytes > 2*c.Bytes || v.Timers != len(v.Sessions)+v.Bufs || len(v.Bindings) > c.Bindings || len(v.Sessions) > c.Sessions {
		t.Fatalf("View = %+v", v)
	}
	outers, each := map[api.Outer]int{}, map[int]int{}
	for _, b := range v.Bindings {
		outers[b.Outer]++
		each[b.Inner.Softwire]++
		if outers[b.Outer] > 1 || each[b.Inner.Softwire] > c.Quota {
			t.Fatalf("bindings are %v", v.Bindings)
		}
	}
}

// P33.6: what comes from outside goes into no softwire, but the one of the binding that it matches, to the inner endpoint of that.
func TestFromOutside(t *testing.T) {
	d := dice{rand.New(rand.NewPCG(33, 6))}
	went, stayed := 0, 0
	x := element(t, func(c *api.Config) { c.Filter, c.Quota = api.FilterNone, 3 })
	for i := range 4000 {
		if i%20 == 0 {
			x.Advance(i)
			x.Tunnel(up(t, d.IntN(2), datagram(d.of(host, other), d.port(), far, 53, 4)))
		}
		p := datagram(far, 53, pool, d.of(5000, 5001, 5002, 5003, 5004), 4)
		bound := slices.IndexFunc(x.View().Bindings, func(b api.Binding) bool {
			return b.Outer == api.Outer{Proto: 17, Addr: p.Dst, Port: int(p.Data[2])<<8 + int(p.Data[3])}
		})
		if bound < 0 {
			nets(t, "no binding", x, four(t, p), nil, api.DropBinding)
			stayed++
			continue
		}
		in := x.View().Bindings[bound].Inner
		nets(t, "a binding", x, four(t, p), into(t, in.Softwire, datagram(far, 53, in.Addr, in.Port, 4, ttl(8))), api.DropNone)
		went++
	}
	if went < 500 || stayed < 500 {
		t.Errorf("%d went, %d stayed", went, stayed)
	}
}

// P33.6: whatever refuses what tells of a fault, nothing is told of it.
func TestNothingOfFaults(t *testing.T) {
	d := dice{rand.New(rand.NewPCG(33, 66))}
	x := binds(t, 0, func(c *api.Config) { c.Quota, c.Bindings, c.Sessions, c.NetMTU = 1, 1, 1, 1280 })
	for range 2000 {
		kind, size := d.of(3, 4, 5, 11, 12), d.of(4, 1400)
		n := ttl(d.IntN(3))
		p := message(host, far, api.ICMP{Type: kind, Data: four(t, datagram(far, 53, host, d.port(), size))}, n, dont)
		if ways, why := x.Tunnel(up(t, d.IntN(2), p)); why != api.DropNone && len(ways) > 0 {
			t.Fatalf("Tunnel = %v, %d", ways, why)
		}
		q := message(far, pool, api.ICMP{Type: kind, Data: four(t, datagram(pool, d.port(), far, 53, size))}, n)
		if ways, why := x.Net(four(t, q)); why != api.DropNone && len(ways) > 0 {
			t.Fatalf("Net = %v, %d", ways, why)
		}
		for softwire := range 2 {
			b := relays(t, api.ICMP{Type: 1, Data: sent(t, softwire, 4, four(t, p))})
			if ways, why := x.Tunnel(b); why != api.DropProto || len(ways) > 0 {
				t.Fatalf("Tunnel = %v, %d", ways, why)
			}
		}
	}
}

// P3 of the document: a datagram that goes through the tunnel, in whatever order, and twice, comes out as it was, but for source, port and TTL; its answer comes back as well.
func TestFromEndToEnd(t *testing.T) {
	d := dice{rand.New(rand.NewPCG(33, 3))}
	c := base(func(c *api.Config) { c.NetMTU, c.Buffers, c.Bytes = 65535, 4096, 1<<26 })
	x := element(t, d.same(c))
	var ends []*b4.B4
	for _, own := range c.Softwires {
		end, e := b4.New(b4.Setup{Own: own, AFTR: c.AFTR, MTU: c.TunnelMTU, Hop: c.Hop, Buffers: 64, Bytes: 1 << 26, Frag: 60})
		if e != api.OK {
			t.Fatal(e)
		}
		ends = append(ends, end)
	}
	for range 400 {
		softwire, size := d.IntN(2), d.of(0, 1000, 3000, 60000)
		port := 5000 + 2*softwire // what 5000 becomes behind each
		x.Tunnel(up(t, 0, datagram(host, 5000, far, 53, 4)))
		x.Tunnel(up(t, 1, datagram(host, 5000, far, 53, 4)))
		way, _, why := ends[softwire].Host(four(t, datagram(host, 5000, far, 53, size)))
		if why != api.DropNone {
			t.Fatal(why)
		}
		var came []aftr.Way
		for _, b := range d.twice(way) {
			ways, _ := x.Tunnel(b)
			came = append(came, ways...)
		}
		want := out(t, datagram(pool, port, far, 53, size, ttl(8)))
		if !slices.ContainsFunc(came, func(w aftr.Way) bool { return same([]aftr.Way{w}, want) }) {
			t.Fatalf("%d ways to the Internet, none as it was", len(came))
		}
		ways, why := x.Net(four(t, datagram(far, 53, pool, port, size)))
		if why != api.DropNone {
			t.Fatal(why)
		}
		way = nil
		for _, w := range ways {
			way = append(way, w.Bytes)
			if w.Softwire != softwire {
				t.Fatalf("into the softwire %d", w.Softwire)
			}
		}
		back := four(t, datagram(far, 53, host, 5000, size, ttl(8)))
		var hosts [][]byte
		for _, b := range d.twice(way) {
			_, l, _ := ends[softwire].Tunnel(b)
			hosts = append(hosts, l...)
		}
		if !slices.ContainsFunc(hosts, func(b []byte) bool { return bytes.Equal(b, back) }) {
			t.Fatalf("%d came back, none as it was", len(hosts))
		}
		x.Advance(x.View().Now + 61)
		for _, end := range ends {
			end.Advance(x.View().Now)
		}
	}
}

// twice is each of l, some of them twice, in whatever order.
func (d dice) twice(l [][]byte) [][]byte {
	all := slices.Clone(l)
	for _, b := range l {
		if d.IntN(3) == 0 {
			all = append(all, b)
		}
	}
	d.Shuffle(len(all), func(i, j int) { all[i], all[j] = all[j], all[i] })
	return all
}

// R1, R4: bytes at random end, and the same ones in the same order tell the same.
func TestBytesAtRandom(t *testing.T) {
	d := dice{rand.New(rand.NewPCG(33, 1))}
	c := base(d.settings)
	x, y := element(t, d.same(c)), element(t, d.same(c))
	for range 4000 {
		for _, b := range d.some(t) {
			for range d.IntN(4) {
				b = with(b, d.IntN(len(b)), byte(d.IntN(256)))
			}
			b = b[:len(b)-d.of(0, 0, 0, d.IntN(len(b)))]
			for _, ask := range [][2]func([]byte) ([]aftr.Way, int){{x.Tunnel, y.Tunnel}, {x.Net, y.Net}} {
				got, why := ask[0](b)
				again, because := ask[1](b)
				if !same(got, again) || why != because || why < 0 || why >= api.Drops {
					t.Fatalf("%v: %v, %d; then %v, %d", b, got, why, again, because)
				}
			}
		}
	}
	if !reflect.DeepEqual(x.View(), y.View()) {
		t.Errorf("View = %+v; then %+v", x.View(), y.View())
	}
}
