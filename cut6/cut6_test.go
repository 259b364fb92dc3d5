package cut6_test

import (
	"bytes"
	"encoding/binary"
	"math"
	"math/rand/v2"
	"slices"
	"testing"

	"goosepond/api"
	"goosepond/cut6"
	"goosepond/v6"
)

// plain is a packet with something in every field, and n bytes of data, no two near ones the same.
func plain(n int) api.V6 {
	p := api.V6{
		Traffic: 0x12, Flow: 0x34567, Next: 4, Hop: 64,
		Src:  api.Six{0x20, 1, 2, 3, 4, 5, 6, 7, 8, 9, 10, 11, 12, 13, 14, 15},
		Dst:  api.Six{0xFD, 21, 22, 23, 24, 25, 26, 27, 28, 29, 30, 31, 32, 33, 34, 35},
		Data: make([]byte, n),
	}
	for i := range p.Data {
		p.Data[i] = byte(i + i>>8)
	}
	return p
}

// with is p, changed.
func with(p api.V6, change func(p *api.V6)) api.V6 {
	change(&p)
	return p
}

// equal is v6.Same in another way.
func equal(a, b api.V6) bool {
	return a.Traffic == b.Traffic && a.Flow == b.Flow && a.Next == b.Next && a.Hop == b.Hop &&
		string(a.Src[:]) == string(b.Src[:]) && string(a.Dst[:]) == string(b.Dst[:]) && string(a.Data) == string(b.Data)
}

// spare is b with room behind that holds 0xEE.
func spare(b []byte) []byte {
	s := append(slices.Clone(b), bytes.Repeat([]byte{0xEE}, 8)...)
	return s[:len(b)]
}

// untouched fails if b, made by spare, is not want any more, or its room not as it was.
func untouched(t *testing.T, b, want []byte) {
	t.Helper()
	if !bytes.Equal(b, want) || !bytes.Equal(b[len(b):len(b)+8], bytes.Repeat([]byte{0xEE}, 8)) {
		t.Errorf("what was handed in is %v now, with %v behind; it was %v", b, b[len(b):len(b)+8], want)
	}
}

// spoil writes over all of b, and over its spare room.
func spoil(b []byte) {
	b = b[:cap(b)]
	for i := range b {
		b[i] = 0x77
	}
}

func some(r *rand.Rand, n int) []byte {
	b := make([]byte, n)
	for i := range b {
		b[i] = byte(r.IntN(256))
	}
	return b
}

// head is the bytes of a fragment header.
func head(next, off int, more bool, id int) []byte {
	if more {
		off++
	}
	b := []byte{byte(next), 0, byte(off >> 8), byte(off)}
	return binary.BigEndian.AppendUint32(b, uint32(id))
}

// determined fails unless l are fragments of p as P14.1 says, with parts of these sizes.
func determined(t *testing.T, name string, p api.V6, id int, l []api.V6, sizes []int) {
	t.Helper()
	if len(l) != len(sizes) {
		t.Errorf("%s: %d fragments; want %d", name, len(l), len(sizes))
		return
	}
	at := 0
	for i, f := range l {
		want := with(p, func(q *api.V6) {
			q.Next = 44
			q.Data = append(head(p.Next, at, i < len(l)-1, id), p.Data[at:at+sizes[i]]...)
		})
		if !equal(f, want) {
			t.Errorf("%s: fragment %d = %v; want %v", name, i, f, want)
		}
		at += sizes[i]
	}
	if at != len(p.Data) {
		t.Errorf("%s: the parts have %d bytes; want %d", name, at, len(p.Data))
	}
}

// P14.1: Cut, fragment by fragment.
func TestCut(t *testing.T) {
	for _, c := range []struct {
		name    string
		p       api.V6
		id, mtu int
		sizes   []int
	}{
		{"example 1", plain(1300), 7, 1280, []int{1232, 68}},
		{"2028 bytes", plain(2028), 1, 1280, []int{1232, 796}},
		{"one byte above", plain(1241), 1, 1280, []int{1232, 9}},
		{"a multiple of 8 at the end", plain(2464), 1, 1280, []int{1232, 1232}},
		{"one byte more than fits at the end", plain(2465), 1, 1280, []int{1232, 1232, 1}},
		{"as much as fits at the end", plain(1232 + 1239), 1, 1287, []int{1232, 1239}},
		{"one byte more than fits, of mtu 1287", plain(1232 + 1240), 1, 1287, []int{1232, 1232, 8}},
		{"one byte above, of mtu 1287", plain(1248), 1, 1287, []int{1232, 16}},
		{"mtu 1288", plain(2480), 1, 1288, []int{1240, 1240}},
		{"mtu 1281", plain(2465), 1, 1281, []int{1232, 1233}},
		{"mtu 1500", plain(1461), 1, 1500, []int{1448, 13}},
		{"mtu 65535", plain(65496), 1, 65535, []int{65480, 16}},
		{"the greatest, of mtu 65535", plain(65535), 1, 65535, []int{65480, 55}},
		{"the identifier 0", plain(1300), 0, 1280, []int{1232, 68}},
		{"an identifier of four bytes", plain(1300), 0x01020304, 1280, []int{1232, 68}},
		{"the greatest identifier", plain(1300), 1<<32 - 1, 1280, []int{1232, 68}},
		{"another Next", with(plain(1300), func(p *api.V6) { p.Next = 255 }), 7, 1280, []int{1232, 68}},
		{"a fragment", with(plain(1300), func(p *api.V6) { p.Next = 44 }), 7, 1280, []int{1232, 68}},
		{"the greatest fields", with(plain(1300), func(p *api.V6) { p.Traffic, p.Flow, p.Hop = 255, 1<<20-1, 255 }), 7, 1280, []int{1232, 68}},
		{"no fields", api.V6{Data: make([]byte, 1300)}, 7, 1280, []int{1232, 68}},
	} {
		l, e := cut6.Cut(c.p, c.id, c.mtu)
		if e != api.OK {
			t.Errorf("%s: Cut = %d", c.name, e)
		}
		determined(t, c.name, c.p, c.id, l, c.sizes)
	}
}

// P14.1: the greatest packet, cut as small as may be.
func TestCutGreat(t *testing.T) {
	p := plain(65535)
	l, e := cut6.Cut(p, 9, 1280)
	if e != api.OK {
		t.Fatalf("Cut = %d", e)
	}
	determined(t, "the greatest", p, 9, l, append(slices.Repeat([]int{1232}, 53), 65535-53*1232))
}

// P14.1: a packet that fits is answered alone, as it is, whatever it has.
func TestCutAlone(t *testing.T) {
	for _, c := range []struct {
		name    string
		p       api.V6
		id, mtu int
	}{
		{"zero", api.V6{}, 0, 1280},
		{"no data", plain(0), 1, 1280},
		{"as much as fits", plain(1240), 1, 1280},
		{"as much as fits with a fragment header", plain(1232), 1, 1280},
		{"a fragment", with(plain(1240), func(p *api.V6) { p.Next = 44 }), 1, 1280},
		{"mtu 1500", plain(1460), 1<<32 - 1, 1500},
		{"the greatest", plain(65495), 1, 65535},
	} {
		if l, e := cut6.Cut(c.p, c.id, c.mtu); e != api.OK || len(l) != 1 || !equal(l[0], c.p) {
			t.Errorf("%s: Cut = %v, %d; want %v alone", c.name, l, e, c.p)
		}
	}
}

// P14.1: what Cut refuses, and which error comes first. R2: what stands beside it is nothing.
func TestCutErrors(t *testing.T) {
	for _, c := range []struct {
		name    string
		p       api.V6
		id, mtu int
		want    api.Errno
	}{
		{"mtu 1279", plain(1300), 1, 1279, api.ErrArg},
		{"mtu 1279 of what fits", plain(1), 1, 1279, api.ErrArg},
		{"mtu 0", plain(1300), 1, 0, api.ErrArg},
		{"mtu -1", plain(1300), 1, -1, api.ErrArg},
		{"the least mtu", plain(1300), 1, math.MinInt, api.ErrArg},
		{"mtu 65536", plain(1300), 1, 65536, api.ErrArg},
		{"mtu 65536 + 1280", plain(1300), 1, 65536 + 1280, api.ErrArg},
		{"the greatest mtu", plain(1300), 1, math.MaxInt, api.ErrArg},
		{"id -1", plain(1300), -1, 1280, api.ErrArg},
		{"id -1 of what fits", plain(1), -1, 1280, api.ErrArg},
		{"id 2^32", plain(1300), 1 << 32, 1280, api.ErrArg},
		{"id 2^32 of what fits", plain(1), 1 << 32, 1280, api.ErrArg},
		{"the least id", plain(1300), math.MinInt, 1280, api.ErrArg},
		{"the greatest id", plain(1300), math.MaxInt, 1280, api.ErrArg},
		{"mtu 1279 ahead of ErrLong", plain(65536), 1, 1279, api.ErrArg},
		{"id -1 ahead of ErrLong", plain(65536), -1, 1280, api.ErrArg},
		{"Traffic 256", with(plain(1300), func(p *api.V6) { p.Traffic = 256 }), 1, 1280, api.ErrArg},
		{"Flow -1", with(plain(1300), func(p *api.V6) { p.Flow = -1 }), 1, 1280, api.ErrArg},
		{"Next 256", with(plain(1300), func(p *api.V6) { p.Next = 256 }), 1, 1280, api.ErrArg},
		{"Next -1 of what fits", with(plain(1), func(p *api.V6) { p.Next = -1 }), 1, 1280, api.ErrArg},
		{"Hop 256", with(plain(1300), func(p *api.V6) { p.Hop = 256 }), 1, 1280, api.ErrArg},
		{"Hop -1 ahead of ErrLong", with(plain(65536), func(p *api.V6) { p.Hop = -1 }), 1, 1280, api.ErrArg},
		{"too long", plain(65536), 1, 1280, api.ErrLong},
		{"too long for any", plain(65536), 1, 65535, api.ErrLong},
		{"far too long", plain(200000), 1, 1280, api.ErrLong},
	} {
		if l, e := cut6.Cut(c.p, c.id, c.mtu); len(l) != 0 || e != c.want {
			t.Errorf("%s: Cut = %d fragments, %d; want %d", c.name, len(l), e, c.want)
		}
	}
}

// R3: Cut changes nothing that is handed in, and what it answers shares nothing with that, nor one fragment with another.
func TestCutSharesNothing(t *testing.T) {
	for _, n := range []int{10, 3000} {
		was := plain(n)
		p := with(was, func(p *api.V6) { p.Data = spare(was.Data) })
		want, _ := cut6.Cut(was, 1, 1280)
		for i := range want {
			l, _ := cut6.Cut(p, 1, 1280)
			spoil(l[i].Data)
			l[i] = want[i]
			if !slices.EqualFunc(l, want, equal) {
				t.Errorf("%d bytes: the fragments changed with fragment %d", n, i)
			}
			untouched(t, p.Data, was.Data)
		}
		l, _ := cut6.Cut(p, 1, 1280)
		spoil(p.Data)
		if !slices.EqualFunc(l, want, equal) {
			t.Errorf("%d bytes: the fragments changed with what was handed in", n)
		}
	}
}

// P14.1: Part of fragments, whatever else they have.
func TestPart(t *testing.T) {
	for _, c := range []struct {
		name   string
		data   []byte
		want   api.Frag
		behind []byte
	}{
		{"a header alone", []byte{4, 0, 0, 9, 0, 0, 0, 1}, api.Frag{Next: 4, Off: 8, More: true, ID: 1}, nil},
		{"a header and a byte", []byte{17, 0, 0, 0, 1, 2, 3, 4, 99}, api.Frag{Next: 17, ID: 0x01020304}, []byte{99}},
		{"a header and 8 bytes", []byte{4, 0, 1, 1, 0, 0, 0, 2, 1, 2, 3, 4, 5, 6, 7, 8}, api.Frag{Next: 4, Off: 256, More: true, ID: 2}, []byte{1, 2, 3, 4, 5, 6, 7, 8}},
		{"no multiple of 8, with More", []byte{4, 0, 0, 1, 0, 0, 0, 2, 1, 2, 3}, api.Frag{Next: 4, More: true, ID: 2}, []byte{1, 2, 3}},
		{"no bytes, with More", []byte{4, 0, 0, 1, 0, 0, 0, 2}, api.Frag{Next: 4, More: true, ID: 2}, nil},
		{"the greatest numbers", []byte{255, 0, 255, 249, 255, 255, 255, 255, 0}, api.Frag{Next: 255, Off: 65528, More: true, ID: 1<<32 - 1}, []byte{0}},
		{"bits that are nothing", []byte{4, 255, 0, 14, 0, 0, 0, 1, 5}, api.Frag{Next: 4, Off: 8, ID: 1}, []byte{5}},
		{"8 bytes of 0", make([]byte, 8), api.Frag{}, nil},
		{"a header within a header", []byte{44, 0, 0, 0, 0, 0, 0, 1, 4, 0, 0, 9, 0, 0, 0, 2}, api.Frag{Next: 44, ID: 1}, []byte{4, 0, 0, 9, 0, 0, 0, 2}},
	} {
		for name, p := range map[string]api.V6{
			"plain":              with(plain(0), func(p *api.V6) { p.Next, p.Data = 44, c.data }),
			"nothing else":       {Next: 44, Data: c.data},
			"what may not be":    {Next: 44, Traffic: -1, Flow: 1 << 20, Hop: 256, Data: c.data},
			"with spare room":    {Next: 44, Data: spare(c.data)},
			"the same addresses": {Next: 44, Src: plain(0).Src, Dst: plain(0).Src, Data: c.data},
		} {
			if f, behind, ok := cut6.Part(p); f != c.want || !bytes.Equal(behind, c.behind) || !ok {
				t.Errorf("%s, %s: Part = %v, %x, %v; want %v, %x", c.name, name, f, behind, ok, c.want, c.behind)
			}
		}
	}
}

// P14.1: Part of what is no fragment.
func TestPartOfNone(t *testing.T) {
	header := []byte{4, 0, 0, 9, 0, 0, 0, 1, 5, 6}
	var list []api.V6
	for next := -1; next < 300; next++ {
		if next != 44 {
			list = append(list, api.V6{Next: next, Data: header})
		}
	}
	list = append(list, api.V6{}, api.V6{Next: 44 + 256, Data: header}, api.V6{Next: math.MinInt + 44, Data: header})
	for n := range 8 {
		list = append(list, api.V6{Next: 44, Data: header[:n]}, api.V6{Next: 44, Data: spare(header[:n])})
	}
	for _, p := range list {
		if f, behind, ok := cut6.Part(p); f != (api.Frag{}) || len(behind) != 0 || ok {
			t.Errorf("Part(%v) = %v, %x, %v", p, f, behind, ok)
		}
	}
}

// R3: Part changes nothing that is handed in, and what it answers is new memory.
func TestPartSharesNothing(t *testing.T) {
	was := append(head(4, 8, true, 1), 21, 22, 23)
	b := spare(was)
	_, behind, _ := cut6.Part(api.V6{Next: 44, Data: b})
	spoil(behind)
	untouched(t, b, was)
	_, behind, _ = cut6.Part(api.V6{Next: 44, Data: b})
	spoil(b)
	if !bytes.Equal(behind, []byte{21, 22, 23}) {
		t.Errorf("what is behind became %x with what was handed in", behind)
	}
}

// P14.2, P14.1: the parts of what is cut are Data, one behind the other, and each fragment's Size is at most mtu; no fragment but the last one could have had more, and what was left did not fit behind it.
func TestPartsOfCut(t *testing.T) {
	r := rand.New(rand.NewPCG(14, 2))
	for n := range 3000 {
		p := api.V6{
			Traffic: r.IntN(256), Flow: r.IntN(1 << 20), Next: r.IntN(256), Hop: r.IntN(256),
			Src: api.Six(some(r, 16)), Dst: api.Six(some(r, 16)), Data: some(r, r.IntN(6000)),
		}
		if n%100 == 0 {
			p.Data = some(r, 65535-r.IntN(3000))
		}
		id, mtu := int(r.Uint32()), 1280+r.IntN(60)
		l, e := cut6.Cut(p, id, mtu)
		if e != api.OK || len(l) == 0 || (len(l) == 1) != (v6.Size(p) <= mtu) {
			t.Fatalf("Cut(%v, %d, %d) = %d fragments, %d", p, id, mtu, len(l), e)
		}
		if len(l) == 1 {
			continue
		}
		at := 0
		for i, f := range l {
			last := i == len(l)-1
			h, part, ok := cut6.Part(f)
			if !ok || h != (api.Frag{Next: p.Next, Off: at, ID: id, More: !last}) || !bytes.Equal(part, p.Data[at:min(at+len(part), len(p.Data))]) {
				t.Fatalf("Part of fragment %d of %v = %v, %x, %v", i, p, h, part, ok)
			}
			if v6.Check(f) != api.OK || v6.Size(f) > mtu || !last && (len(part)%8 != 0 || v6.Size(f)+8 <= mtu || 48+len(p.Data)-at <= mtu) {
				t.Fatalf("mtu %d: fragment %d of %v has %d bytes", mtu, i, p, v6.Size(f))
			}
			if !equal(with(f, func(f *api.V6) { f.Next, f.Data = p.Next, p.Data }), p) {
				t.Fatalf("fragment %d of %v has other fields: %v", i, p, f)
			}
			at += len(part)
		}
		if at != len(p.Data) {
			t.Fatalf("the parts of %v have %d bytes", p, at)
		}
	}
}
