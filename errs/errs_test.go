package errs_test

import (
	"bytes"
	"math"
	"math/rand/v2"
	"reflect"
	"slices"
	"testing"

	"goosepond/api"
	"goosepond/errs"
	"goosepond/icmp"
	"goosepond/udp"
	"goosepond/v4"
)

const (
	host = 0x0A000001 // 10.0.0.1
	far  = 0xCB007101 // 203.0.113.1
	self = 0xC0000002 // 192.0.0.2
)

// sent is the bytes of a datagram with so many bytes of data, with changes.
func sent(t *testing.T, data int, changes ...func(*api.V4)) []byte {
	t.Helper()
	d, e := udp.Build(host, far, api.UDP{Src: 5000, Dst: 53, Data: bytes.Repeat([]byte{1, 2, 3}, data)[:data]})
	if e != api.OK {
		t.Fatal(e)
	}
	p := api.V4{TOS: 4, ID: 5, TTL: 1, DF: true, Proto: 17, Src: host, Dst: far, Data: d}
	for _, change := range changes {
		change(&p)
	}
	b, e := v4.Build(p)
	if e != api.OK {
		t.Fatal(e)
	}
	return b
}

// message is a change to a packet of ICMP with these bytes.
func message(b ...byte) func(*api.V4) {
	return func(p *api.V4) { p.Proto, p.Data = 1, b }
}

// makes fails unless Make answers a packet from self that quotes these bytes.
func makes(t *testing.T, kind, code, rest int, b, quoted []byte) {
	t.Helper()
	got, e := errs.Make(self, kind, code, rest, b)
	if e != api.OK {
		t.Fatalf("Make(.., %d, %d, %d, %d bytes) = %d", kind, code, rest, len(b), e)
	}
	m, f := icmp.Parse(got.Data)
	if f != api.OK || !icmp.Same(m, api.ICMP{Type: kind, Code: code, Rest: rest, Data: quoted}) {
		t.Errorf("the message is %v, %d; want it to quote %d bytes", m, f, len(quoted))
	}
	want := api.V4{TTL: 64, Proto: 1, Src: self, Dst: host, Data: got.Data}
	if !v4.Same(got, want) {
		t.Errorf("Make = %v; want %v", got, want)
	}
}

// refuses fails unless Make answers this error, and nothing beside it.
func refuses(t *testing.T, from, kind, code, rest int, b []byte, want api.Errno) {
	t.Helper()
	if got, e := errs.Make(from, kind, code, rest, b); e != want || !reflect.DeepEqual(got, api.V4{}) {
		t.Errorf("Make(%#x, %d, %d, %d, %v) = %v, %d; want %d", from, kind, code, rest, b, got, e, want)
	}
}

// P28.2: the chapter's example: 28 bytes of ICMP.
func TestExample(t *testing.T) {
	b := sent(t, 0)[:20]
	makes(t, 11, 0, 0, b, b)
	p, e := errs.Make(self, 11, 0, 0, b)
	if e != api.OK || len(p.Data) != 28 {
		t.Errorf("Make = %v, %d", p, e)
	}
}

// P28.1: of what one may tell.
func TestMay(t *testing.T) {
	whole := sent(t, 30)
	set := func(at int, to ...byte) []byte {
		b := slices.Clone(whole)
		copy(b[at:], to)
		return b
	}
	for _, c := range []struct {
		name string
		b    []byte
		want bool
	}{
		{"a datagram", whole, true},
		{"its head alone", whole[:20], true},
		{"a part of it", whole[:27], true},
		{"nothing", nil, false},
		{"no bytes", []byte{}, false},
		{"less than a head", whole[:19], false},
		{"bytes behind it", append(slices.Clone(whole), 1, 2, 3), true},
		{"a sum that is not right", set(10, 1, 2), true},
		{"of IPv6", set(0, 0x65), false},
		{"a head that is too short", set(0, 0x44), false},
		{"a head that is longer than all there is", set(0, 0x4F)[:30], false},
		{"a size that is too short", set(2, 0, 19), false},
		{"the first fragment", set(6, 0x20, 0), true},
		{"another fragment", set(6, 0x20, 1), false},
		{"the last fragment", set(6, 0, 1), false},
		{"from nobody", set(12, 0, 0, 0, 0), false},
		{"from itself", set(12, 127, 0, 0, 1), false},
		{"from a group", set(12, 224, 0, 0, 1), false},
		{"from the last host", set(12, 223, 255, 255, 255), true},
		{"to nobody", set(16, 0, 1, 2, 3), false},
		{"to itself", set(16, 127, 255, 255, 255), false},
		{"to a group", set(16, 239, 0, 0, 1), false},
		{"to all", set(16, 255, 255, 255, 255), false},
		{"to the first host", set(16, 1, 0, 0, 0), true},
		{"of a protocol that nobody has", set(9, 255), true},
		{"a message without a byte", sent(t, 0, message()), false},
		{"a message of which no byte is there", sent(t, 0, message(8, 0, 0, 0))[:20], false},
		{"a message of which one byte is there", sent(t, 0, message(8, 0, 0, 0))[:21], true},
		{"a message behind whose head none is told", append(sent(t, 0, message()), 8, 0, 0, 0), false},
		{"a fragment of a query", sent(t, 0, message(8, 0, 0, 0), func(p *api.V4) { p.Off = 8 }), false},
		{"a fault with a head that has options", sent(t, 0, message(3, 0, 0, 0), func(p *api.V4) { p.Options = []byte{1, 1, 1, 0} }), false},
		{"a query with a head that has options", sent(t, 0, message(8, 0, 0, 0), func(p *api.V4) { p.Options = []byte{3, 3, 3, 0} }), true},
	} {
		if got := errs.May(c.b); got != c.want {
			t.Errorf("May(%s) = %t", c.name, got)
		}
		if !c.want {
			refuses(t, self, 11, 0, 0, c.b, api.ErrState)
		}
	}
}

// P28.1: of which messages one may tell.
func TestMayMessages(t *testing.T) {
	for kind := range 256 {
		want := !slices.Contains([]int{3, 4, 5, 11, 12}, kind)
		for _, n := range []int{1, 8, 40} {
			b := sent(t, 0, message(append([]byte{byte(kind)}, make([]byte, n-1)...)...))
			if got := errs.May(b); got != want {
				t.Errorf("May(a message of the type %d, %d bytes) = %t", kind, n, got)
			}
		}
	}
}

// P28.1: how much is quoted.
func TestMost(t *testing.T) {
	if n := errs.Most(); n != 548 {
		t.Errorf("Most = %d", n)
	}
}

// P28.2: how much of a packet is quoted: its first 548 bytes, and none behind its size.
func TestMakeQuotes(t *testing.T) {
	for _, size := range []int{28, 29, 547, 548, 549, 1500, 65535} {
		b := sent(t, size-28)
		want := b[:min(size, 548)]
		makes(t, 11, 0, 0, b, want)
		makes(t, 11, 0, 0, append(slices.Clone(b), 9, 8, 7), want)
		makes(t, 3, 4, 1400, b[:min(size, 600)], want)
		makes(t, 3, 4, 1400, b[:25], b[:25])
	}
	b := sent(t, 0, message(), func(p *api.V4) { p.Proto = 17 })
	makes(t, 11, 0, 0, append(slices.Clone(b), make([]byte, 600)...), b)
	b = sent(t, 40, func(p *api.V4) { p.Options = bytes.Repeat([]byte{1}, 40) })
	makes(t, 11, 1, 0, append(slices.Clone(b), make([]byte, 600)...), b)
	b = sent(t, 600, func(p *api.V4) { p.Options = bytes.Repeat([]byte{1}, 40) })
	makes(t, 11, 1, 0, b, b[:548])
	b[10]++ // a sum that is not right is quoted as it is
	makes(t, 11, 1, 0, b, b[:548])
}

// P28.2: what may not be made, and what comes first.
func TestMakeRefuses(t *testing.T) {
	b := sent(t, 3)
	const all32 = 1<<32 - 1
	for _, c := range []struct {
		from, kind, code, rest int
		want                   api.Errno
	}{
		{0, 0, 0, 0, api.OK},
		{all32, 255, 255, all32, api.OK},
		{self, 8, 0, 0, api.OK},
		{-1, 11, 0, 0, api.ErrArg},
		{1 << 32, 11, 0, 0, api.ErrArg},
		{math.MinInt, 11, 0, 0, api.ErrArg},
		{self, -1, 0, 0, api.ErrArg},
		{self, 256, 0, 0, api.ErrArg},
		{self, math.MaxInt, 0, 0, api.ErrArg},
		{self, 11, -1, 0, api.ErrArg},
		{self, 11, 256, 0, api.ErrArg},
		{self, 11, 0, -1, api.ErrArg},
		{self, 11, 0, 1 << 32, api.ErrArg},
	} {
		if c.want != api.OK {
			refuses(t, c.from, c.kind, c.code, c.rest, b, c.want)
			refuses(t, c.from, c.kind, c.code, c.rest, b[:19], api.ErrState)
			continue
		}
		p, e := errs.Make(c.from, c.kind, c.code, c.rest, b)
		m, f := icmp.Parse(p.Data)
		if e != api.OK || f != api.OK || p.Src != c.from || !icmp.Same(m, api.ICMP{Type: c.kind, Code: c.code, Rest: c.rest, Data: b}) {
			t.Errorf("Make(%#x, %d, %d, %d) = %v, %d", c.from, c.kind, c.code, c.rest, p, e)
		}
	}
}

// P28.3: nothing is told of what tells of a fault.
func TestNoAnswer(t *testing.T) {
	d := rand.New(rand.NewPCG(28, 3))
	for range 300 {
		b := sent(t, d.IntN(700))
		for _, kind := range []int{3, 4, 5, 11, 12} {
			p, e := errs.Make(1<<24+d.IntN(1<<30), kind, d.IntN(256), d.IntN(1<<32), b[:20+d.IntN(len(b)-19)])
			made, f := v4.Build(p)
			if e != api.OK || f != api.OK {
				t.Fatal(e, f)
			}
			if errs.May(made) {
				t.Fatalf("May(%v), which tells of a fault", p)
			}
			refuses(t, self, 3, 1, 0, made, api.ErrState)
		}
	}
}

// R1: whatever the bytes are, calls end, and May tells whether Make makes.
func TestAnyBytes(t *testing.T) {
	d := rand.New(rand.NewPCG(28, 1))
	met := map[bool]int{}
	for range 20000 {
		b := sent(t, d.IntN(40), func(p *api.V4) { p.Proto = []int{1, 6, 17}[d.IntN(3)] })
		for range d.IntN(3) {
			b[d.IntN(len(b))] = byte(d.IntN(256))
		}
		b = b[:d.IntN(len(b)+1)]
		may := errs.May(b)
		p, e := errs.Make(self, 3, 1, 0, b)
		met[may]++
		switch {
		case may != (e == api.OK), !may && e != api.ErrState:
			t.Fatalf("May(%v) = %t, Make = %d", b, may, e)
		case may && (v4.Check(p) != api.OK || !bytes.HasPrefix(b, p.Data[8:])):
			t.Fatalf("Make(%v) = %v", b, p)
		}
	}
	if met[true] < 1000 || met[false] < 1000 {
		t.Errorf("met are %v", met)
	}
}

// R3: nothing is shared, and nothing is changed, the room behind included.
func TestShared(t *testing.T) {
	for _, data := range []int{3, 1000} {
		b := sent(t, data)
		room := append(slices.Clone(b), "spare room"...)
		p, e := errs.Make(self, 11, 0, 0, room[:len(b)])
		if e != api.OK {
			t.Fatal(e)
		}
		for i := range p.Data[:cap(p.Data)] {
			p.Data[:cap(p.Data)][i] ^= 0xFF
		}
		if !bytes.Equal(room, append(slices.Clone(b), "spare room"...)) {
			t.Error("what was handed in was changed")
		}
		makes(t, 11, 0, 0, room[:len(b)], b[:min(len(b), 548)])
	}
}
