package b4_test

import (
	"bytes"
	"fmt"
	"math/rand/v2"
	"slices"
	"testing"

	"goosepond/api"
	"goosepond/b4"
	"goosepond/udp"
	"goosepond/v6"
)

// dice makes packets at random.
type dice struct{ *rand.Rand }

// of is one of what it is given.
func (d dice) of(l ...int) int { return l[d.IntN(len(l))] }

// sent is the bytes of a packet of IPv4 at random, which goes on.
func (d dice) sent(t *testing.T) []byte {
	t.Helper()
	p := api.V4{TOS: d.IntN(256), ID: d.IntN(65536), TTL: 2 + d.IntN(254), Proto: d.of(1, 6, 17, 47), Src: host + d.IntN(1000), Dst: far + d.IntN(1000)}
	p.DF = d.IntN(2) == 0
	p.Options = bytes.Repeat([]byte{1}, d.of(0, 0, 4, 40))
	if d.IntN(3) == 0 {
		p.Off, p.MF = 8*d.IntN(1000), d.IntN(2) == 0
	}
	most := d.of(0, 30, 1212, 1300, 4000, 57000)
	p.Data = counted(d.IntN(most+1) / 8 * 8)
	return four(t, p)
}

// P32.4: what goes into the softwire, taken out by hand in whatever order, is what the host sent, but for its TTL and its sum.
func TestIntoTheSoftwire(t *testing.T) {
	d := dice{rand.New(rand.NewPCG(32, 4))}
	cutOnes := 0
	for range 600 {
		mtu := d.of(1280, 1281, 1400, 1500, 9000, 65535)
		x := element(t, func(s *b4.Setup) { s.MTU = mtu })
		b := d.sent(t)
		parts, hosts, why := x.Host(b)
		if len(parts) == 0 || len(hosts) != 0 || why != api.DropNone {
			t.Fatalf("Host = %d parts, %v, %d", len(parts), hosts, why)
		}
		d.Shuffle(len(parts), func(i, j int) { parts[i], parts[j] = parts[j], parts[i] })
		whole := make([]byte, len(b))
		filled, next := 0, 4
		for _, part := range parts {
			if len(part) > mtu || part[7] != 64 || !bytes.Equal(part[8:24], own[:]) || !bytes.Equal(part[24:40], aftr[:]) {
				t.Fatalf("a part of %d bytes, with the head %v", len(part), part[:40])
			}
			off, data := 0, part[40:]
			if len(parts) > 1 {
				next, off, data = 44, int(data[2])<<8+int(data[3]&^7), data[8:]
			}
			if int(part[6]) != next {
				t.Fatalf("Next is %d; want %d", part[6], next)
			}
			filled += copy(whole[off:], data)
		}
		if len(parts) > 1 {
			cutOnes++
		}
		if filled != len(b) || !bytes.Equal(whole, less(t, b)) {
			t.Errorf("%d bytes of %d come out, or others", filled, len(b))
		}
	}
	if cutOnes < 100 {
		t.Errorf("%d were cut", cutOnes)
	}
}

// P32.4: an element at the tunnel's other end takes it out as well, whatever comes twice, in whatever order.
func TestFromEndToEnd(t *testing.T) {
	d := dice{rand.New(rand.NewPCG(32, 32))}
	for range 100 {
		near := element(t, func(s *b4.Setup) { s.MTU = d.of(1280, 1500) })
		other := element(t, func(s *b4.Setup) { s.Own, s.AFTR, s.Buffers, s.Bytes = aftr, own, 20, 1<<26 })
		var ways, want, got [][]byte
		for range 1 + d.IntN(4) {
			b := d.sent(t)
			parts, _, _ := near.Host(b)
			ways = append(ways, parts...)
			want = append(want, less(t, b))
		}
		d.Shuffle(len(ways), func(i, j int) { ways[i], ways[j] = ways[j], ways[i] })
		for _, part := range ways {
			_, hosts, why := other.Tunnel(part)
			if why != api.DropNone {
				t.Fatal(why)
			}
			got = append(got, hosts...)
		}
		slices.SortFunc(want, bytes.Compare)
		slices.SortFunc(got, bytes.Compare)
		if !same(got, want) || other.Bytes() != 0 {
			t.Errorf("%d of %d come out, %d bytes are left", len(got), len(want), other.Bytes())
		}
	}
}

// model is the way down as the chapter tells it, by bytes alone, of packets without messages.
type model struct {
	buffers, bytes, wait, now int
	waiting                   map[string]*waiting
}

// waiting is the parts of one packet that are there.
type waiting struct {
	began, head int
	parts       []piece
}

// piece is a part.
type piece struct {
	off  int
	more bool
	b    string
}

// size is how many bytes all parts have.
func (m *model) size() int {
	n := 0
	for _, w := range m.waiting {
		for _, p := range w.parts {
			n += len(p.b)
		}
	}
	return n
}

// advance drops what waited too long.
func (m *model) advance(now int) {
	m.now = max(m.now, now)
	for key, w := range m.waiting {
		if m.now-w.began >= m.wait {
			delete(m.waiting, key)
		}
	}
}

// down is what goes to hosts, and why.
func (m *model) down(b []byte) ([]byte, int) {
	if len(b) < 40 || b[0]>>4 != 6 || len(b) < 40+int(b[4])<<8+int(b[5]) {
		return nil, api.DropForm
	}
	if !bytes.Equal(b[24:40], own[:]) || !bytes.Equal(b[8:24], aftr[:]) {
		return nil, api.DropSource
	}
	data := b[40 : 40+int(b[4])<<8+int(b[5])]
	if b[6] != 44 {
		return out(int(b[6]), data)
	}
	if len(data) < 8 {
		return nil, api.DropForm
	}
	return m.part(data)
}

// part is what goes to hosts of a fragment header and what is behind it.
func (m *model) part(data []byte) ([]byte, int) {
	key := string(data[4:8])
	p := piece{int(data[2])<<8 + int(data[3]&^7), data[3]&1 != 0, string(data[8:])}
	w := m.waiting[key]
	if w == nil {
		if len(m.waiting) >= m.buffers {
			return nil, api.DropFull
		}
		w = &waiting{began: m.now, head: -1}
	}
	more := len(p.b)
	if slices.ContainsFunc(w.parts, func(q piece) bool { return q.off == p.off && q.b == p.b }) {
		more = 0
	}
	if m.size()+more > m.bytes {
		return nil, api.DropFull
	}
	if why := w.add(p); why != api.DropNone {
		delete(m.waiting, key)
		return nil, why
	}
	m.waiting[key] = w
	if p.off == 0 && w.head < 0 {
		w.head = int(data[0])
	}
	whole, done := w.whole()
	if !done {
		return nil, api.DropNone
	}
	delete(m.waiting, key)
	return out(w.head, whole)
}

// add puts a part in, or tells why not.
func (w *waiting) add(p piece) int {
	end := p.off + len(p.b)
	if p.more && len(p.b)%8 != 0 || p.more && len(p.b) == 0 || end > 65535 {
		return api.DropForm
	}
	if slices.Contains(w.parts, p) {
		return api.DropNone
	}
	for _, q := range w.parts {
		if max(p.off, q.off) < min(end, q.off+len(q.b)) || p.off == q.off && len(p.b)+len(q.b) == 0 {
			return api.DropOverlap
		}
	}
	for _, q := range w.parts {
		if !p.more && (!q.more || q.off+len(q.b) > end) || p.more && !q.more && end > q.off+len(q.b) {
			return api.DropForm
		}
	}
	w.parts = append(w.parts, p)
	return api.DropNone
}

// whole is all bytes, if they are there.
func (w *waiting) whole() ([]byte, bool) {
	l := slices.Clone(w.parts)
	slices.SortFunc(l, func(a, b piece) int { return 2*(a.off-b.off) + len(a.b) - len(b.b) })
	var all []byte
	for _, p := range l {
		if p.off != len(all) {
			return nil, false
		}
		all = append(all, p.b...)
		if !p.more {
			return all, true
		}
	}
	return nil, false
}

// out is what goes to hosts of what is whole.
func out(next int, b []byte) ([]byte, int) {
	if next != 4 {
		return nil, api.DropProto
	}
	if len(b) < 20 || b[0]>>4 != 4 || b[0]&15 < 5 {
		return nil, api.DropForm
	}
	head, size := int(b[0]&15)*4, int(b[2])<<8+int(b[3])
	if size < head || size > len(b) || b[6] > 127 {
		return nil, api.DropForm
	}
	sum := 0
	for i := 0; i < head; i += 2 {
		sum += int(b[i])<<8 + int(b[i+1])
	}
	if sum%65535 != 0 || sum == 0 {
		return nil, api.DropForm
	}
	off := (int(b[6]&31)<<8 + int(b[7])) * 8
	if b[6]&0x20 != 0 && (size-head)%8 != 0 || off+size-head > 65535 {
		return nil, api.DropForm
	}
	return b[:size], api.DropNone
}

// P32.3: packets and fragments at random, spoilt at random, as time passes, against a model of them.
func TestTunnelAtRandom(t *testing.T) {
	d := dice{rand.New(rand.NewPCG(32, 3))}
	met, put := map[int]int{}, 0
	for range 400 {
		m := &model{buffers: d.of(0, 1, 2, 3), bytes: d.of(100, 200, 400), wait: d.of(1, 5, 20), waiting: map[string]*waiting{}}
		x := element(t, func(s *b4.Setup) { s.Buffers, s.Bytes, s.Frag = m.buffers, m.bytes, m.wait })
		pool := d.pool(t)
		for range 100 {
			if d.IntN(6) == 0 {
				now := m.now + d.IntN(8) - 3
				x.Advance(now)
				m.advance(now)
			}
			b := pool[d.IntN(len(pool))]
			if d.IntN(20) == 0 {
				b = with(b, d.IntN(len(b)), byte(d.IntN(256)))
			}
			want, why := m.down(b)
			met[why]++
			hosts := list()
			if why == api.DropNone && want != nil {
				hosts = list(want)
				put++
			}
			downs(t, fmt.Sprint("at random, ", b[:min(len(b), 48)]), x, b, hosts, why)
			if x.Bytes() != m.size() {
				t.Fatalf("%d bytes; want %d", x.Bytes(), m.size())
			}
		}
	}
	for _, why := range []int{api.DropNone, api.DropForm, api.DropSource, api.DropProto, api.DropFull, api.DropOverlap} {
		if met[why] < 100 {
			t.Errorf("the reason %d was met %d times", why, met[why])
		}
	}
	if put < 500 {
		t.Errorf("%d went to hosts", put)
	}
}

// pool is packets from the AFTR: datagrams in parts that go together, and some that do not.
func (d dice) pool(t *testing.T) [][]byte {
	t.Helper()
	var l [][]byte
	for id := range 3 {
		data, e := udp.Build(host, far, api.UDP{Src: id, Data: counted(d.IntN(90))})
		if e != api.OK {
			t.Fatal(e)
		}
		b := four(t, api.V4{TTL: 9, Proto: 17, ID: id, Src: far, Dst: host, Data: data})
		l = append(l, cut(t, b, id, 8*(1+d.IntN(8)))...)
		l = append(l, outer(t, d.of(4, 4, 4, 6, 17), b))
		if d.IntN(3) == 0 {
			l = append(l, frag(t, api.Frag{Next: d.of(4, 6), Off: 8 * d.IntN(16), More: d.IntN(2) == 0, ID: id}, b[:d.IntN(len(b))]))
		}
		if d.IntN(5) == 0 {
			l = append(l, outer(t, 4, b, func(p *api.V6) { p.Src = on }))
		}
	}
	return l
}

// R1: bytes at random end, at both sides, and what goes on may be.
func TestBytesAtRandom(t *testing.T) {
	d := dice{rand.New(rand.NewPCG(32, 1))}
	x := element(t)
	for range 3000 {
		b := d.sent(t)
		b = b[:min(len(b), 200)]
		for range d.IntN(4) {
			b[d.IntN(len(b))] = byte(d.IntN(256))
		}
		softwire, hosts, why := x.Host(b)
		if (why == api.DropNone) != (len(softwire) > 0) || len(hosts) > 0 && why != api.DropTTL {
			t.Fatalf("Host = %v, %v, %d", softwire, hosts, why)
		}
		for _, part := range softwire {
			if _, e := v6.Parse(part); e != api.OK {
				t.Fatal(e)
			}
		}
		q := message(t, api.ICMP{Type: d.of(1, 2, 3, 4), Data: quoted(t, 4, b)})
		q[d.IntN(len(q))] = byte(d.IntN(256))
		softwire, hosts, why = x.Tunnel(q)
		if len(softwire) > 0 || why != api.DropNone && len(hosts) > 0 {
			t.Fatalf("Tunnel = %v, %v, %d", softwire, hosts, why)
		}
	}
}
