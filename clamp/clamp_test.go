package clamp_test

import (
	"bytes"
	"encoding/binary"
	"math"
	"math/rand/v2"
	"slices"
	"testing"

	"goosepond/api"
	"goosepond/clamp"
	"goosepond/tcp"
	"goosepond/udp"
)

const (
	src = 0x0A000001
	dst = 0xC6336401
)

// told are options with the greatest size 1460, at 1.
var told = []byte{1, 2, 4, 5, 0xB4, 3, 3, 7}

// begun is a segment with a SYN, these options, and something in every other field.
func begun(options ...byte) api.TCP {
	return api.TCP{
		Src: 5000, Dst: 80, Seq: 0x01020304, Ack: 0xA1B2C3D4, Reserved: 5, Flags: api.FlagSyn, Window: 0x2345, Urgent: 0x6789,
		Options: options, Data: []byte{9, 10, 11},
	}
}

// with is s, changed.
func with(s api.TCP, change func(s *api.TCP)) api.TCP {
	change(&s)
	return s
}

// around is a packet with something in every field, and these bytes within.
func around(proto int, data []byte) api.V4 {
	return api.V4{
		TOS: 0x1C, ID: 0xABCD, TTL: 63, Proto: proto, Src: src, Dst: dst, DF: true,
		Options: []byte{0x94, 4, 0, 0}, Data: data,
	}
}

// packet has s within.
func packet(s api.TCP) api.V4 {
	b, _ := tcp.Build(src, dst, s)
	return around(6, b)
}

// mend gives b, a segment from src to dst, its right sum.
func mend(b []byte) []byte {
	b[16], b[17] = 0, 0
	binary.BigEndian.PutUint16(b[16:], 65535-slow(b))
	return b
}

// slow adds all of a segment's words, its pseudo header's among them, byte by byte.
func slow(b []byte) uint16 {
	n := src>>16 + src&65535 + dst>>16 + dst&65535 + 6 + len(b)
	for i, x := range b {
		if i%2 == 0 {
			n += 256 * int(x)
		} else {
			n += int(x)
		}
	}
	for n > 65535 {
		n -= 65535
	}
	return uint16(n)
}

// spare is b with room behind that holds 0xEE.
func spare(b []byte) []byte {
	s := append(slices.Clone(b), bytes.Repeat([]byte{0xEE}, 8)...)
	return s[:len(b)]
}

// untouched fails if b, made by spare, is not want any more, or its room not as it was.
func untouched(t *testing.T, b, want []byte) {
	t.Helper()
	if !bytes.Equal(b, want) || !bytes.Equal(b[len(b):len(b)+8], bytes.Repeat([]byte{0xEE}, 8)) {
		t.Errorf("what was handed in is %v now, with %v behind; it was %v", b, b[len(b):len(b)+8], want)
	}
}

// equal is tcp.Same in another way.
func equal(a, b api.TCP) bool {
	return a.Src == b.Src && a.Dst == b.Dst && a.Seq == b.Seq && a.Ack == b.Ack && a.Reserved == b.Reserved && a.Flags == b.Flags &&
		a.Window == b.Window && a.Urgent == b.Urgent && string(a.Options) == string(b.Options) && string(a.Data) == string(b.Data)
}

// equalPackets is v4.Same in another way.
func equalPackets(a, b api.V4) bool {
	return a.TOS == b.TOS && a.ID == b.ID && a.Off == b.Off && a.TTL == b.TTL && a.Proto == b.Proto && a.Src == b.Src && a.Dst == b.Dst &&
		a.DF == b.DF && a.MF == b.MF && string(a.Options) == string(b.Options) && string(a.Data) == string(b.Data)
}

func some(r *rand.Rand, n int) []byte {
	b := make([]byte, n)
	for i := range b {
		b[i] = byte(r.IntN(256))
	}
	return b
}

// options are such as there may be, with a greatest size more often than not.
func options(r *rand.Rand) []byte {
	var b []byte
	for range r.IntN(5) {
		switch r.IntN(6) {
		case 0:
			b = append(b, 1)
		case 1:
			b = append(b, 3, 3, 7)
		case 2:
			b = append(b, 2, 5, 1, 2, 3)
		case 3, 4:
			b = append(b, 2, 4, byte(r.IntN(256)), byte(r.IntN(256)))
		case 5:
			b = append(b, some(r, r.IntN(4))...)
		}
	}
	return append(b, make([]byte, (4-len(b)%4)%4)...)
}

// random is a segment that may be, begun more often than not.
func random(r *rand.Rand) api.TCP {
	flags := r.IntN(256)
	if r.IntN(3) > 0 {
		flags |= api.FlagSyn
	}
	return api.TCP{
		Src: r.IntN(65536), Dst: r.IntN(65536), Seq: int(r.Uint32()), Ack: int(r.Uint32()), Reserved: r.IntN(16), Flags: flags,
		Window: r.IntN(65536), Urgent: r.IntN(65536), Options: options(r), Data: some(r, r.IntN(30)),
	}
}

// P12.1: Segment, where a greatest size is held: its number is another, and nothing else is.
func TestSegmentHeld(t *testing.T) {
	for _, c := range []struct {
		name string
		s    api.TCP
		most int
		want []byte
	}{
		{"example 1", begun(told...), 1400, []byte{1, 2, 4, 5, 0x78, 3, 3, 7}},
		{"one less", begun(told...), 1459, []byte{1, 2, 4, 5, 0xB3, 3, 3, 7}},
		{"0", begun(told...), 0, []byte{1, 2, 4, 0, 0, 3, 3, 7}},
		{"1", begun(told...), 1, []byte{1, 2, 4, 0, 1, 3, 3, 7}},
		{"255", begun(told...), 255, []byte{1, 2, 4, 0, 255, 3, 3, 7}},
		{"256", begun(told...), 256, []byte{1, 2, 4, 1, 0, 3, 3, 7}},
		{"the greatest that is held", begun(2, 4, 255, 255), 65534, []byte{2, 4, 255, 254}},
		{"alone", begun(2, 4, 5, 0xB4), 536, []byte{2, 4, 2, 24}},
		{"at the end", begun(3, 3, 7, 1, 2, 4, 5, 0xB4), 1400, []byte{3, 3, 7, 1, 2, 4, 5, 0x78}},
		{"behind one of its kind of 3 bytes", begun(2, 3, 255, 2, 4, 5, 0xB4, 0), 1400, []byte{2, 3, 255, 2, 4, 5, 0x78, 0}},
		{"behind one of its kind of 5 bytes", begun(2, 5, 255, 255, 255, 2, 4, 5, 0xB4, 0, 0, 0), 1400, []byte{2, 5, 255, 255, 255, 2, 4, 5, 0x78, 0, 0, 0}},
		{"the first one of two", begun(2, 4, 5, 0xB4, 2, 4, 5, 0xB4), 1400, []byte{2, 4, 5, 0x78, 2, 4, 5, 0xB4}},
		{"bytes like it within another", begun(9, 6, 2, 4, 255, 255, 2, 4, 5, 0xB4, 0, 0), 1400, []byte{9, 6, 2, 4, 255, 255, 2, 4, 5, 0x78, 0, 0}},
		{"SYN and ACK", with(begun(told...), func(s *api.TCP) { s.Flags = api.FlagSyn | api.FlagAck }), 1400, []byte{1, 2, 4, 5, 0x78, 3, 3, 7}},
		{"all flags", with(begun(told...), func(s *api.TCP) { s.Flags = 255 }), 1400, []byte{1, 2, 4, 5, 0x78, 3, 3, 7}},
		{"SYN among flags that may not be", with(begun(told...), func(s *api.TCP) { s.Flags = 256 | api.FlagSyn }), 1400, []byte{1, 2, 4, 5, 0x78, 3, 3, 7}},
		{"ports that may not be", with(begun(told...), func(s *api.TCP) { s.Src, s.Dst = -1, 65536 }), 1400, []byte{1, 2, 4, 5, 0x78, 3, 3, 7}},
		{"5 bytes of options", begun(1, 2, 4, 5, 0xB4), 1400, []byte{1, 2, 4, 5, 0x78}},
		{"44 bytes of options", begun(append(bytes.Repeat([]byte{1}, 40), 2, 4, 5, 0xB4)...), 1400, append(bytes.Repeat([]byte{1}, 40), 2, 4, 5, 0x78)},
	} {
		want := with(c.s, func(s *api.TCP) { s.Options = c.want })
		if got := clamp.Segment(c.s, c.most); !equal(got, want) {
			t.Errorf("%s: Segment = %v; want %v", c.name, got, want)
		}
	}
}

// P12.1: Segment of what is not to be held is the same.
func TestSegmentAsItIs(t *testing.T) {
	for _, c := range []struct {
		name string
		s    api.TCP
		most int
	}{
		{"as much as may be", begun(told...), 1460},
		{"less than may be", begun(told...), 1461},
		{"most 65535", begun(2, 4, 255, 255), 65535},
		{"most 65536", begun(2, 4, 255, 255), 65536},
		{"most -1", begun(told...), -1},
		{"most -1, of the greatest size 0", begun(2, 4, 0, 0), -1},
		{"most 1400 less 65536", begun(told...), 1400 - 65536},
		{"the least most", begun(told...), math.MinInt},
		{"the greatest most", begun(told...), math.MaxInt},
		{"most 0, of the greatest size 0", begun(2, 4, 0, 0), 0},
		{"no options", begun(), 0},
		{"others alone", begun(1, 3, 3, 7), 0},
		{"one of its kind of 3 bytes", begun(2, 3, 255, 0), 0},
		{"one of its kind of 6 bytes", begun(2, 6, 255, 255, 255, 255, 0, 0), 0},
		{"behind the last one", begun(0, 2, 4, 5, 0xB4, 0, 0, 0), 0},
		{"behind one of no size", begun(7, 0, 2, 4, 5, 0xB4, 0, 0), 0},
		{"not all there", begun(1, 2, 4, 5), 0},
		{"no SYN", with(begun(told...), func(s *api.TCP) { s.Flags = 0 }), 1400},
		{"all flags but SYN", with(begun(told...), func(s *api.TCP) { s.Flags = 255 - api.FlagSyn }), 1400},
		{"a SYN above all flags", with(begun(told...), func(s *api.TCP) { s.Flags = api.FlagSyn << 8 }), 1400},
		{"zero", api.TCP{}, 0},
	} {
		if got := clamp.Segment(c.s, c.most); !equal(got, c.s) {
			t.Errorf("%s: Segment = %v; want %v", c.name, got, c.s)
		}
	}
}

// R3: what Segment answers shares nothing with t, held or not; t is not changed.
func TestSegmentSharesNothing(t *testing.T) {
	for _, most := range []int{1400, 1460, -1} {
		s := begun()
		s.Options, s.Data = spare(told), spare(s.Data)
		got := clamp.Segment(s, most)
		want := with(got, func(s *api.TCP) { s.Options, s.Data = slices.Clone(s.Options), slices.Clone(s.Data) })
		_ = append(got.Options, 1, 2, 3, 4)
		_ = append(got.Data, 5, 6, 7, 8)
		if !equal(got, want) {
			t.Errorf("most %d: what was put behind a list came into the segment: %v", most, got)
		}
		for i := range got.Options {
			got.Options[i] = 99
		}
		for i := range got.Data {
			got.Data[i] = 98
		}
		untouched(t, s.Options, told)
		untouched(t, s.Data, []byte{9, 10, 11})
		kept := clamp.Segment(s, most)
		clear(s.Options)
		clear(s.Data)
		if !equal(kept, want) {
			t.Errorf("most %d: the segment became %v with what was handed in", most, kept)
		}
	}
}

// P12.1: Packet, byte by byte: a greatest size that is held, and the sum.
func TestPacketHeld(t *testing.T) {
	for _, most := range []int{0, 1, 536, 1240, 1400, 1459} {
		for _, flags := range []int{api.FlagSyn, api.FlagSyn | api.FlagAck, 255} {
			p := packet(with(begun(told...), func(s *api.TCP) { s.Flags = flags }))
			want := p
			want.Data = slices.Clone(p.Data)
			binary.BigEndian.PutUint16(want.Data[23:], uint16(most))
			mend(want.Data)
			if got := clamp.Packet(p, most); !equalPackets(got, want) {
				t.Errorf("most %d, flags %d: Packet = %v; want %v", most, flags, got, want)
			}
		}
	}
}

// P12.1: Packet of what is not to be held is the same.
func TestPacketAsItIs(t *testing.T) {
	held := packet(begun(told...))
	change := func(change func(p *api.V4)) api.V4 {
		p := held
		p.Options, p.Data = slices.Clone(p.Options), slices.Clone(p.Data)
		change(&p)
		return p
	}
	datagram, _ := udp.Build(src, dst, api.UDP{Src: 1, Dst: 2, Data: held.Data[8:]})
	part := mend(slices.Clone(held.Data[:24]))
	for _, c := range []struct {
		name string
		p    api.V4
		most int
	}{
		{"as much as may be", held, 1460},
		{"most 65535", held, 65535},
		{"most 65536", held, 65536},
		{"most -1", held, -1},
		{"the least most", held, math.MinInt},
		{"the greatest most", held, math.MaxInt},
		{"no SYN", packet(with(begun(told...), func(s *api.TCP) { s.Flags = 255 - api.FlagSyn })), 0},
		{"no greatest size", packet(begun(1, 3, 3, 7)), 0},
		{"a datagram", around(17, datagram), 0},
		{"a segment as if of UDP", change(func(p *api.V4) { p.Proto = 17 }), 0},
		{"a segment as if of none", change(func(p *api.V4) { p.Proto = 50 }), 0},
		{"a first part", change(func(p *api.V4) { p.MF, p.Data = true, part }), 0},
		{"a last part", change(func(p *api.V4) { p.Off = 8 }), 0},
		{"another sum", change(func(p *api.V4) { p.Data[17]++ }), 0},
		{"another address", change(func(p *api.V4) { p.Src++ }), 0},
		{"not all of the head there", change(func(p *api.V4) { p.Data = mend(p.Data[:24]) }), 0},
		{"TTL 256", change(func(p *api.V4) { p.TTL = 256 }), 0},
		{"3 bytes of options", change(func(p *api.V4) { p.Options = p.Options[:3] }), 0},
		{"no address", change(func(p *api.V4) { p.Src += 1 << 32 }), 0},
		{"nothing within", around(6, nil), 0},
		{"zero", api.V4{}, 0},
	} {
		if got := clamp.Packet(c.p, c.most); !equalPackets(got, c.p) {
			t.Errorf("%s: Packet = %v; want %v", c.name, got, c.p)
		}
	}
}

// P12.1: a segment's Data is built, even where no size is held: a sum that is told as 65535 is 0 then, which counts as much.
func TestPacketIsBuilt(t *testing.T) {
	s := api.TCP{Src: 5000, Dst: 80, Data: []byte{0, 0}}
	b, _ := tcp.Build(src, dst, s)
	copy(s.Data, b[16:18]) // all other words and this one add up to 65535
	built := packet(s)
	other := built
	other.Data = slices.Clone(built.Data)
	other.Data[16], other.Data[17] = 255, 255
	if got := clamp.Packet(other, 1400); !equalPackets(got, built) || built.Data[16] != 0 || built.Data[17] != 0 {
		t.Errorf("Packet = %v; want %v", got, built)
	}
}

// R3: what Packet answers shares nothing with p, held or not, a segment or not; p is not changed.
func TestPacketSharesNothing(t *testing.T) {
	for name, p := range map[string]api.V4{"segment": packet(begun(told...)), "no segment": around(50, told)} {
		for _, most := range []int{1400, 1460} {
			in := p
			in.Options, in.Data = spare(p.Options), spare(p.Data)
			got := clamp.Packet(in, most)
			want := got
			want.Options, want.Data = slices.Clone(got.Options), slices.Clone(got.Data)
			_ = append(got.Options, 1, 2, 3, 4)
			_ = append(got.Data, 5, 6, 7, 8)
			if !equalPackets(got, want) {
				t.Errorf("%s, most %d: what was put behind a list came into the packet: %v", name, most, got)
			}
			for i := range got.Options {
				got.Options[i] = 99
			}
			for i := range got.Data {
				got.Data[i] = 98
			}
			untouched(t, in.Options, p.Options)
			untouched(t, in.Data, p.Data)
			kept := clamp.Packet(in, most)
			clear(in.Options)
			clear(in.Data)
			if !equalPackets(kept, want) {
				t.Errorf("%s, most %d: the packet became %v with what was handed in", name, most, kept)
			}
		}
	}
}

// P12.1: the greatest packet.
func TestGreatest(t *testing.T) {
	r := rand.New(rand.NewPCG(12, 0))
	s := begun(append(slices.Clone(told), make([]byte, 32)...)...)
	s.Data = some(r, 65535-24-60)
	p := clamp.Packet(packet(s), 1400)
	if most, at, ok := tcp.MSS(api.TCP{Options: p.Data[20:60]}); most != 1400 || at != 1 || !ok || len(p.Data) != 65511 || slow(p.Data) != 65535 {
		t.Errorf("the greatest packet has %d at %d, %t, and %d bytes", most, at, ok, len(p.Data))
	}
}

// P12.1: Most, on both sides of its bounds.
func TestMost(t *testing.T) {
	for _, c := range []struct{ mtu, want int }{
		{math.MinInt, 536}, {math.MinInt + 39, 536}, {math.MinInt + 40, 536}, {-65536, 536}, {-1, 536}, {0, 536}, {40, 536}, {68, 536},
		{536, 536}, {575, 536}, {576, 536}, {577, 537}, {578, 538}, {1280, 1240}, {1460, 1420}, {1500, 1460}, {9000, 8960},
		{65535, 65495}, {65574, 65534}, {65575, 65535}, {65576, 65535}, {65577, 65535}, {1 << 32, 65535}, {math.MaxInt, 65535},
	} {
		if got := clamp.Most(c.mtu); got != c.want {
			t.Errorf("Most(%d) = %d; want %d", c.mtu, got, c.want)
		}
	}
}

// sizeAt is where the greatest size that is told stands in a segment's options, in another way than tcp.MSS; -1, if none does.
func sizeAt(b []byte) int {
	for at := 0; at < len(b) && b[at] != 0; {
		switch {
		case b[at] == 1:
			at++
		case at+1 >= len(b) || b[at+1] < 2 || at+int(b[at+1]) > len(b):
			return -1
		case b[at] == 2 && b[at+1] == 4:
			return at + 2
		default:
			at += int(b[at+1])
		}
	}
	return -1
}

// P12.1: any segments, and packets with them, byte by byte.
// P12.2: nothing but a greatest size, and the sum, is changed; Packet of Packet, and Segment of Segment, are the same.
func TestFollows(t *testing.T) {
	r := rand.New(rand.NewPCG(12, 2))
	held := 0
	for range 50000 {
		s, most := random(r), r.IntN(65536)
		if r.IntN(10) == 0 {
			most = []int{-1, 65536, -most, math.MinInt, math.MaxInt}[r.IntN(5)]
		}
		want := with(s, func(s *api.TCP) { s.Options = slices.Clone(s.Options) })
		if at := sizeAt(s.Options); at >= 0 && s.Flags&2 != 0 && most >= 0 && most < int(s.Options[at])*256+int(s.Options[at+1]) {
			binary.BigEndian.PutUint16(want.Options[at:], uint16(most))
			held++
		}
		got := clamp.Segment(s, most)
		if !equal(got, want) {
			t.Fatalf("Segment(%v, %d) = %v; want %v", s, most, got, want)
		}
		if again := clamp.Segment(got, most); !equal(again, got) {
			t.Fatalf("Segment of Segment(%v, %d) = %v", s, most, again)
		}
		p := clamp.Packet(packet(s), most)
		if !equalPackets(p, packet(want)) || slow(p.Data) != 65535 {
			t.Fatalf("Packet of %v with %d = %v; want %v", s, most, p, packet(want))
		}
		if again := clamp.Packet(p, most); !equalPackets(again, p) {
			t.Fatalf("Packet of Packet of %v with %d = %v", s, most, again)
		}
	}
	if held < 5000 {
		t.Errorf("the test has met %d sizes that were held", held)
	}
}
