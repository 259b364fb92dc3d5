package v6_test

import (
	"bytes"
	"math"
	"math/rand/v2"
	"slices"
	"testing"

	"goosepond/api"
	"goosepond/v6"
)

// src and dst differ in every byte.
var (
	src = api.Six{0x20, 1, 2, 3, 4, 5, 6, 7, 8, 9, 10, 11, 12, 13, 14, 15}
	dst = api.Six{0xFD, 21, 22, 23, 24, 25, 26, 27, 28, 29, 30, 31, 32, 33, 34, 35}
)

// plain is a packet with something in every field.
func plain() api.V6 {
	return api.V6{Traffic: 0x12, Flow: 0x34567, Next: 4, Hop: 64, Src: src, Dst: dst, Data: []byte{9, 10, 11}}
}

// plainBytes are plain's.
var plainBytes = []byte{
	0x61, 0x23, 0x45, 0x67, 0, 3, 4, 64,
	0x20, 1, 2, 3, 4, 5, 6, 7, 8, 9, 10, 11, 12, 13, 14, 15,
	0xFD, 21, 22, 23, 24, 25, 26, 27, 28, 29, 30, 31, 32, 33, 34, 35,
	9, 10, 11,
}

// with is plain, changed.
func with(change func(p *api.V6)) api.V6 {
	p := plain()
	change(&p)
	return p
}

// raw is plainBytes, changed, and more behind.
func raw(change func(b []byte), behind ...byte) []byte {
	b := slices.Clone(plainBytes)
	change(b)
	return append(b, behind...)
}

// spare is b with room behind that holds 0xEE.
func spare(b []byte) []byte {
	s := append(slices.Clone(b), bytes.Repeat([]byte{0xEE}, 8)...)
	return s[:len(b)]
}

// untouched fails if b, made by spare, is not want any more, or its room not as it was.
func untouched(t *testing.T, b, want []byte) {
	t.Helper()
	if !bytes.Equal(b, want) || !bytes.Equal(b[len(b):len(b)+8], bytes.Repeat([]byte{0xEE}, 8)) {
		t.Errorf("what was handed in is %v now, with %v behind; it was %v", b, b[len(b):len(b)+8], want)
	}
}

// equal is Same in another way.
func equal(a, b api.V6) bool {
	return a.Traffic == b.Traffic && a.Flow == b.Flow && a.Next == b.Next && a.Hop == b.Hop &&
		string(a.Src[:]) == string(b.Src[:]) && string(a.Dst[:]) == string(b.Dst[:]) && string(a.Data) == string(b.Data)
}

// P6.1: Size, of packets that may be and of others.
func TestSize(t *testing.T) {
	for _, n := range []int{0, 1, 100, 65535, 65536, 100000} {
		if got := v6.Size(api.V6{Next: -1, Data: make([]byte, n)}); got != 40+n {
			t.Errorf("Size with %d bytes of Data is %d", n, got)
		}
	}
}

// P6.1: Same, by every field, whether the packet may be or not.
func TestSame(t *testing.T) {
	if !v6.Same(plain(), plain()) {
		t.Error("plain is not the same as plain")
	}
	for name, change := range map[string]func(p *api.V6){
		"Traffic":            func(p *api.V6) { p.Traffic = -1 },
		"Flow":               func(p *api.V6) { p.Flow += 1 << 20 },
		"Next":               func(p *api.V6) { p.Next = 44 },
		"Hop":                func(p *api.V6) { p.Hop += 256 },
		"Next and Hop":       func(p *api.V6) { p.Next, p.Hop = p.Hop, p.Next },
		"Src's first byte":   func(p *api.V6) { p.Src[0]++ },
		"Src's last byte":    func(p *api.V6) { p.Src[15]++ },
		"Dst's first byte":   func(p *api.V6) { p.Dst[0]++ },
		"Dst's last byte":    func(p *api.V6) { p.Dst[15]++ },
		"Src and Dst":        func(p *api.V6) { p.Src, p.Dst = p.Dst, p.Src },
		"a byte of Data":     func(p *api.V6) { p.Data[2] = 1 },
		"less Data":          func(p *api.V6) { p.Data = p.Data[:2] },
		"more Data":          func(p *api.V6) { p.Data = append(p.Data, 0) },
		"no Data, no number": func(p *api.V6) { p.Data, p.Flow = nil, math.MinInt },
	} {
		other := with(change)
		if v6.Same(plain(), other) || v6.Same(other, plain()) {
			t.Errorf("with other %s it is the same", name)
		}
		if !v6.Same(other, with(change)) {
			t.Errorf("with other %s it is not the same as itself", name)
		}
	}
}

// R6: nil and an empty list are the same.
func TestSameOfNil(t *testing.T) {
	a, b := api.V6{Hop: 1}, api.V6{Hop: 1, Data: []byte{}}
	if !v6.Same(a, b) || !v6.Same(b, a) {
		t.Error("nil and an empty list are not the same")
	}
}

// P6.1: packets that may be, at their bounds.
func TestCheck(t *testing.T) {
	for name, p := range map[string]api.V6{
		"zero":     {},
		"plain":    plain(),
		"greatest": {Traffic: 255, Flow: 1<<20 - 1, Next: 255, Hop: 255, Data: make([]byte, 65535)},
	} {
		if e := v6.Check(p); e != api.OK {
			t.Errorf("%s: Check = %d", name, e)
		}
	}
}

// P6.1: packets that may not be; Build has Check's error, and no bytes.
func TestCheckAndBuildErrors(t *testing.T) {
	for _, c := range []struct {
		name string
		p    api.V6
		want api.Errno
	}{
		{"Traffic -1", api.V6{Traffic: -1}, api.ErrArg},
		{"Traffic 256", api.V6{Traffic: 256}, api.ErrArg},
		{"Next -1", api.V6{Next: -1}, api.ErrArg},
		{"Next 256", api.V6{Next: 256}, api.ErrArg},
		{"Hop -1", api.V6{Hop: -1}, api.ErrArg},
		{"Hop 256", api.V6{Hop: 256}, api.ErrArg},
		{"Flow -1", api.V6{Flow: -1}, api.ErrArg},
		{"Flow 2^20", api.V6{Flow: 1 << 20}, api.ErrArg},
		{"Flow least", api.V6{Flow: math.MinInt}, api.ErrArg},
		{"Flow greatest", api.V6{Flow: math.MaxInt}, api.ErrArg},
		{"Data 65536", api.V6{Data: make([]byte, 65536)}, api.ErrLong},
		{"Data 100000", api.V6{Data: make([]byte, 100000)}, api.ErrLong},
		{"ErrArg ahead of ErrLong", api.V6{Hop: -1, Data: make([]byte, 65536)}, api.ErrArg},
	} {
		if e := v6.Check(c.p); e != c.want {
			t.Errorf("%s: Check = %d; want %d", c.name, e, c.want)
		}
		if b, e := v6.Build(c.p); len(b) != 0 || e != c.want {
			t.Errorf("%s: Build = %d bytes, %d; want %d", c.name, len(b), e, c.want)
		}
	}
}

// P6.1: Build, byte by byte.
func TestBuild(t *testing.T) {
	for _, c := range []struct {
		name string
		p    api.V6
		want []byte
	}{
		{"zero", api.V6{}, append([]byte{0x60}, make([]byte, 39)...)},
		{"plain", plain(), plainBytes},
		{"Traffic alone", api.V6{Traffic: 255}, append([]byte{0x6F, 0xF0}, make([]byte, 38)...)},
		{"Flow alone", api.V6{Flow: 1<<20 - 1}, append([]byte{0x60, 0x0F, 0xFF, 0xFF}, make([]byte, 36)...)},
		{"Next and Hop", api.V6{Next: 255, Hop: 254}, append([]byte{0x60, 0, 0, 0, 0, 0, 255, 254}, make([]byte, 32)...)},
	} {
		if b, e := v6.Build(c.p); !bytes.Equal(b, c.want) || e != api.OK {
			t.Errorf("%s: Build = %x, %d; want %x", c.name, b, e, c.want)
		}
	}
}

// P6.1: Build and Parse of the greatest packet, which has more than MaxPacket bytes with its head.
func TestGreat(t *testing.T) {
	want := with(func(p *api.V6) { p.Data = bytes.Repeat([]byte{7}, 65535) })
	b, e := v6.Build(want)
	if e != api.OK || len(b) != 65575 || b[4] != 255 || b[5] != 255 || !bytes.Equal(b[40:], want.Data) {
		t.Fatalf("Build = %d bytes, %d", len(b), e)
	}
	if p, e := v6.Parse(b); e != api.OK || !equal(p, want) {
		t.Errorf("Parse = %d bytes of Data, %d", len(p.Data), e)
	}
}

// R3: what Build answers is new memory, and nothing that is handed in is changed.
func TestBuildSharesNothing(t *testing.T) {
	data := spare(plain().Data)
	b, _ := v6.Build(with(func(p *api.V6) { p.Data = data }))
	for i := range b {
		b[i] = 99
	}
	_ = append(b, 98, 97)
	untouched(t, data, plain().Data)
}

// P6.1: Parse and Quoted of packets that are all there, whatever is behind them.
func TestParse(t *testing.T) {
	for _, c := range []struct {
		name string
		b    []byte
		want api.V6
	}{
		{"plain", plainBytes, plain()},
		{"bytes behind", append(slices.Clone(plainBytes), 1, 2, 3), plain()},
		{"no data", raw(func(b []byte) { b[5] = 0 }), with(func(p *api.V6) { p.Data = nil })},
		{"a head alone", raw(func(b []byte) { b[5] = 0 })[:40], with(func(p *api.V6) { p.Data = nil })},
		{"less data", raw(func(b []byte) { b[5] = 2 }), with(func(p *api.V6) { p.Data = []byte{9, 10} })},
		{"all bits", append([]byte{0x6F, 255, 255, 255, 0, 0, 255, 255}, bytes.Repeat([]byte{255}, 32)...),
			api.V6{Traffic: 255, Flow: 1<<20 - 1, Next: 255, Hop: 255, Src: api.Six(bytes.Repeat([]byte{255}, 16)), Dst: api.Six(bytes.Repeat([]byte{255}, 16))}},
		{"no bit", append([]byte{0x60}, make([]byte, 39)...), api.V6{}},
	} {
		for name, parse := range map[string]func([]byte) (api.V6, api.Errno){"Parse": v6.Parse, "Quoted": v6.Quoted} {
			if p, e := parse(c.b); !equal(p, c.want) || e != api.OK {
				t.Errorf("%s: %s = %v, %d; want %v", c.name, name, p, e, c.want)
			}
		}
	}
}

// P6.1: Parse's errors, and which comes first; Quoted's likewise, but of Data that is not all there. R2: what stands beside them is zero.
func TestParseErrors(t *testing.T) {
	for _, c := range []struct {
		name          string
		b             []byte
		parse, quoted api.Errno
	}{
		{"nothing", nil, api.ErrShort, api.ErrShort},
		{"a byte", []byte{0x60}, api.ErrShort, api.ErrShort},
		{"39 bytes", plainBytes[:39], api.ErrShort, api.ErrShort},
		{"39 bytes of another version", make([]byte, 39), api.ErrShort, api.ErrShort},
		{"version 0", raw(func(b []byte) { b[0] = 0x01 }), api.ErrForm, api.ErrForm},
		{"version 4", raw(func(b []byte) { b[0] = 0x45 }), api.ErrForm, api.ErrForm},
		{"version 7", raw(func(b []byte) { b[0] = 0x71 }), api.ErrForm, api.ErrForm},
		{"version 14", raw(func(b []byte) { b[0] = 0xE1 }), api.ErrForm, api.ErrForm},
		{"another version, and Data beyond the end", raw(func(b []byte) { b[0], b[4] = 0x41, 9 }), api.ErrForm, api.ErrForm},
		{"Data beyond the end", raw(func(b []byte) { b[5] = 4 }), api.ErrShort, api.OK},
		{"Data far beyond the end", raw(func(b []byte) { b[4], b[5] = 255, 255 }), api.ErrShort, api.OK},
		{"no byte of Data", plainBytes[:40], api.ErrShort, api.OK},
	} {
		if p, e := v6.Parse(c.b); !equal(p, api.V6{}) || e != c.parse {
			t.Errorf("%s: Parse = %v, %d; want %d", c.name, p, e, c.parse)
		}
		if p, e := v6.Quoted(c.b); e != c.quoted || equal(p, api.V6{}) == (e == api.OK) {
			t.Errorf("%s: Quoted = %v, %d; want %d", c.name, p, e, c.quoted)
		}
	}
}

// P6.1: a packet that is cut short at any place: Parse says so, Quoted says what is there.
func TestCutShort(t *testing.T) {
	for n := range plainBytes {
		if p, e := v6.Parse(plainBytes[:n]); !equal(p, api.V6{}) || e != api.ErrShort {
			t.Errorf("Parse of %d bytes = %v, %d", n, p, e)
		}
		p, e := v6.Quoted(plainBytes[:n])
		if n < 40 && (!equal(p, api.V6{}) || e != api.ErrShort) {
			t.Errorf("Quoted of %d bytes = %v, %d", n, p, e)
		}
		if want := with(func(p *api.V6) { p.Data = plainBytes[40:max(n, 40)] }); n >= 40 && (!equal(p, want) || e != api.OK) {
			t.Errorf("Quoted of %d bytes = %v, %d; want %v", n, p, e, want)
		}
	}
}

// R3: what Parse and Quoted answer shares nothing with b.
func TestParseSharesNothing(t *testing.T) {
	for name, parse := range map[string]func([]byte) (api.V6, api.Errno){"Parse": v6.Parse, "Quoted": v6.Quoted} {
		b := spare(append(slices.Clone(plainBytes), 77))
		p, _ := parse(b)
		for i := range p.Data {
			p.Data[i] = 98
		}
		_ = append(p.Data, 5, 6, 7, 8)
		untouched(t, b, append(slices.Clone(plainBytes), 77))
		again, _ := parse(b)
		clear(b)
		if !equal(again, plain()) {
			t.Errorf("%s: the packet became %v with its bytes", name, again)
		}
	}
}

// frags are headers of fragments, and their bytes.
var frags = []struct {
	f api.Frag
	b []byte
}{
	{api.Frag{}, make([]byte, 8)},
	{api.Frag{Next: 4, Off: 8, More: true, ID: 1}, []byte{4, 0, 0, 9, 0, 0, 0, 1}},
	{api.Frag{Next: 255, Off: 65528, More: true, ID: 1<<32 - 1}, []byte{255, 0, 255, 249, 255, 255, 255, 255}},
	{api.Frag{Next: 17, Off: 65528, ID: 0x01020304}, []byte{17, 0, 255, 248, 1, 2, 3, 4}},
	{api.Frag{Off: 0x1230}, []byte{0, 0, 0x12, 0x30, 0, 0, 0, 0}},
	{api.Frag{More: true}, []byte{0, 0, 0, 1, 0, 0, 0, 0}},
}

// P6.2: BuildFrag, byte by byte, and ParseFrag of that.
func TestFrag(t *testing.T) {
	for _, c := range frags {
		if b, e := v6.BuildFrag(c.f); !bytes.Equal(b, c.b) || e != api.OK {
			t.Errorf("BuildFrag(%v) = %x, %d; want %x", c.f, b, e, c.b)
		}
		for _, behind := range [][]byte{nil, {5}, {0, 1, 2, 3, 4, 5, 6, 7, 8}} {
			f, rest, e := v6.ParseFrag(append(slices.Clone(c.b), behind...))
			if f != c.f || !bytes.Equal(rest, behind) || e != api.OK {
				t.Errorf("ParseFrag(%x, and %x behind) = %v, %x, %d; want %v", c.b, behind, f, rest, e, c.f)
			}
		}
	}
}

// P6.2: BuildFrag of headers that may not be.
func TestBuildFragErrors(t *testing.T) {
	for _, f := range []api.Frag{
		{Next: -1}, {Next: 256}, {Next: math.MinInt}, {Next: math.MaxInt},
		{Off: -8}, {Off: -1}, {Off: 1}, {Off: 2}, {Off: 4}, {Off: 7}, {Off: 12}, {Off: 65529}, {Off: 65535}, {Off: 65536}, {Off: math.MinInt}, {Off: math.MaxInt - 7},
		{ID: -1}, {ID: 1 << 32}, {ID: math.MinInt}, {ID: math.MaxInt},
	} {
		if b, e := v6.BuildFrag(f); len(b) != 0 || e != api.ErrArg {
			t.Errorf("BuildFrag(%v) = %x, %d", f, b, e)
		}
	}
}

// P6.2: the second byte of a fragment header, and the bits 2 and 4 of its fourth, are nothing.
func TestParseFragReserved(t *testing.T) {
	want := api.Frag{Next: 4, Off: 0x1230, ID: 7}
	for second := range 256 {
		for _, bits := range []byte{0, 2, 4, 6} {
			for _, more := range []byte{0, 1} {
				want.More = more == 1
				b := []byte{4, byte(second), 0x12, 0x30 | bits | more, 0, 0, 0, 7, 8}
				if f, rest, e := v6.ParseFrag(b); f != want || !bytes.Equal(rest, []byte{8}) || e != api.OK {
					t.Fatalf("ParseFrag(%x) = %v, %x, %d", b, f, rest, e)
				}
			}
		}
	}
}

// P6.2: ParseFrag of too few bytes.
func TestParseFragErrors(t *testing.T) {
	for n := range 8 {
		if f, rest, e := v6.ParseFrag(bytes.Repeat([]byte{9}, n)); f != (api.Frag{}) || len(rest) != 0 || e != api.ErrShort {
			t.Errorf("ParseFrag of %d bytes = %v, %x, %d", n, f, rest, e)
		}
	}
}

// R3: what ParseFrag answers shares nothing with b.
func TestParseFragSharesNothing(t *testing.T) {
	was := []byte{4, 0, 0, 9, 0, 0, 0, 1, 21, 22, 23}
	b := spare(was)
	_, rest, _ := v6.ParseFrag(b)
	for i := range rest {
		rest[i] = 99
	}
	_ = append(rest, 98, 97)
	untouched(t, b, was)
	_, again, _ := v6.ParseFrag(b)
	clear(b)
	if !bytes.Equal(again, was[8:]) {
		t.Errorf("what is behind became %v with its bytes", again)
	}
}

func some(r *rand.Rand, n int) []byte {
	b := make([]byte, n)
	for i := range b {
		b[i] = byte(r.IntN(256))
	}
	return b
}

// P6.3: Parse of Build is the packet; so is Quoted of it.
func TestParseOfBuild(t *testing.T) {
	r := rand.New(rand.NewPCG(6, 3))
	for range 20000 {
		want := api.V6{
			Traffic: r.IntN(256), Flow: r.IntN(1 << 20), Next: r.IntN(256), Hop: r.IntN(256),
			Src: api.Six(some(r, 16)), Dst: api.Six(some(r, 16)), Data: some(r, r.IntN(300)),
		}
		b, e := v6.Build(want)
		if e != api.OK || len(b) != v6.Size(want) {
			t.Fatalf("Build(%v) = %x, %d", want, b, e)
		}
		b = append(b, some(r, r.IntN(3))...)
		if p, e := v6.Parse(b); e != api.OK || !equal(p, want) || !v6.Same(p, want) {
			t.Fatalf("Parse of Build of %v = %v, %d", want, p, e)
		}
		if q, e := v6.Quoted(b); e != api.OK || !equal(q, want) {
			t.Fatalf("Quoted of Build of %v = %v, %d", want, q, e)
		}
	}
}

// P6.3: ParseFrag of BuildFrag is the header.
func TestParseFragOfBuildFrag(t *testing.T) {
	r := rand.New(rand.NewPCG(6, 4))
	for range 20000 {
		want := api.Frag{Next: r.IntN(256), Off: 8 * r.IntN(8192), ID: int(r.Uint32()), More: r.IntN(2) == 0}
		b, e := v6.BuildFrag(want)
		if e != api.OK || len(b) != 8 {
			t.Fatalf("BuildFrag(%v) = %x, %d", want, b, e)
		}
		behind := some(r, r.IntN(20))
		if f, rest, e := v6.ParseFrag(append(b, behind...)); f != want || !bytes.Equal(rest, behind) || e != api.OK {
			t.Fatalf("ParseFrag of BuildFrag of %v = %v, %x, %d", want, f, rest, e)
		}
	}
}
