package cut4_test

import (
	"bytes"
	"math"
	"math/rand/v2"
	"slices"
	"testing"

	"goosepond/api"
	"goosepond/cut4"
	"goosepond/tcp"
	"goosepond/v4"
)

// mixed are options of every kind: some that all fragments have, some that the first one has alone.
var mixed = []byte{1, 0x94, 4, 5, 6, 7, 3, 9, 0x82, 3, 8, 0}

// mixedCopied are those of mixed that all fragments have.
var mixedCopied = []byte{0x94, 4, 5, 6, 0x82, 3, 8, 0}

// plain is a packet with something in every field that a packet to be cut may have, and n bytes of data, no two near ones the same.
func plain(n int) api.V4 {
	p := api.V4{TOS: 0x1C, ID: 0xABCD, TTL: 63, Proto: 17, Src: 0x0A000001, Dst: 0xC6336401, Data: make([]byte, n)}
	for i := range p.Data {
		p.Data[i] = byte(i + i>>8)
	}
	return p
}

// with is p, changed.
func with(p api.V4, change func(p *api.V4)) api.V4 {
	change(&p)
	return p
}

// equal is v4.Same in another way.
func equal(a, b api.V4) bool {
	return a.TOS == b.TOS && a.ID == b.ID && a.Off == b.Off && a.TTL == b.TTL && a.Proto == b.Proto && a.Src == b.Src && a.Dst == b.Dst &&
		a.DF == b.DF && a.MF == b.MF && string(a.Options) == string(b.Options) && string(a.Data) == string(b.Data)
}

// spare is b with room behind that holds 0xEE.
func spare(b []byte) []byte {
	s := append(slices.Clone(b), bytes.Repeat([]byte{0xEE}, 8)...)
	return s[:len(b)]
}

// untouched fails if b, made by spare, is not want any more, or its room not as it was.
func untouched(t *testing.T, b, want []byte) {
	t.Helper()
	if !bytes.Equal(b, want) || !bytes.Equal(b[len(b):len(b)+8], bytes.Repeat([]byte{0xEE}, 8)) {
		t.Errorf("what was handed in is %v now, with %v behind; it was %v", b, b[len(b):len(b)+8], want)
	}
}

// spoil writes over all of b, and over its spare room.
func spoil(b []byte) {
	b = b[:cap(b)]
	for i := range b {
		b[i] = 0x77
	}
}

// spoilAll writes over the lists of all of l.
func spoilAll(l []api.V4) {
	for _, p := range l {
		spoil(p.Options)
		spoil(p.Data)
	}
}

func some(r *rand.Rand, n int) []byte {
	b := make([]byte, n)
	for i := range b {
		b[i] = byte(r.IntN(256))
	}
	return b
}

// options are such as there may be, some that end too early among them.
func options(r *rand.Rand) []byte {
	var b []byte
	for range r.IntN(7) {
		switch r.IntN(8) {
		case 0:
			b = append(b, 1)
		case 1:
			b = append(b, some(r, r.IntN(4))...)
		case 2:
			b = append(b, 0)
		default:
			n := 2 + r.IntN(6)
			b = append(append(b, byte(2+r.IntN(254)), byte(n)), some(r, n-2)...)
		}
	}
	b = b[:min(len(b), 40)]
	return append(b, make([]byte, (4-len(b)%4)%4)...)
}

// random is a packet that may be, and may be cut.
func random(r *rand.Rand, most int) api.V4 {
	p := api.V4{
		TOS: r.IntN(256), ID: r.IntN(65536), TTL: r.IntN(256), Proto: r.IntN(256), Src: int(r.Uint32()), Dst: int(r.Uint32()),
		MF: r.IntN(3) == 0, Options: options(r), Data: some(r, r.IntN(most)),
	}
	if p.MF {
		p.Data = p.Data[:len(p.Data)/8*8]
	}
	if r.IntN(2) == 0 {
		p.Off = 8 * r.IntN((65535-len(p.Data))/8+1)
	}
	return p
}

// P13.1: Copied, option by option.
func TestCopied(t *testing.T) {
	long := bytes.Repeat([]byte{0x90, 3, 7, 5, 2}, 30)
	for _, c := range []struct {
		name    string
		options []byte
		want    []byte
	}{
		{"none", nil, nil},
		{"none, not nil", []byte{}, nil},
		{"an end", []byte{0, 0, 0, 0}, nil},
		{"one byte each", []byte{1, 1, 1, 1}, nil},
		{"mixed", mixed, mixedCopied},
		{"all", []byte{0x94, 4, 0, 0}, []byte{0x94, 4, 0, 0}},
		{"the least kind that is", []byte{0x80, 2, 1, 1}, []byte{0x80, 2, 0, 0}},
		{"the greatest kind that is not", []byte{0x7F, 4, 0x80, 2}, nil},
		{"the greatest kind", []byte{0xFF, 4, 1, 2}, []byte{0xFF, 4, 1, 2}},
		{"1 byte behind", []byte{0x90, 3, 9, 1}, []byte{0x90, 3, 9, 0}},
		{"2 bytes behind", []byte{0x90, 6, 1, 2, 3, 4, 1, 1}, []byte{0x90, 6, 1, 2, 3, 4, 0, 0}},
		{"3 bytes behind", []byte{0x90, 5, 1, 2, 3, 1, 1, 1}, []byte{0x90, 5, 1, 2, 3, 0, 0, 0}},
		{"one behind the other", []byte{1, 0x90, 3, 9, 1, 1, 0x91, 5, 8, 7, 6, 1}, []byte{0x90, 3, 9, 0x91, 5, 8, 7, 6}},
		{"the same one twice", []byte{0x90, 2, 0x90, 2}, []byte{0x90, 2, 0x90, 2}},
		{"in order, not by kind", []byte{0xF0, 2, 0x90, 2}, []byte{0xF0, 2, 0x90, 2}},
		{"behind an end", []byte{0x90, 2, 0, 0x91, 2, 1, 1, 1}, []byte{0x90, 2, 0, 0}},
		{"behind one of no size", []byte{0x90, 2, 7, 0, 0x91, 2, 1, 1}, []byte{0x90, 2, 0, 0}},
		{"behind one of the size 1", []byte{0x90, 2, 7, 1, 0x91, 2, 1, 1}, []byte{0x90, 2, 0, 0}},
		{"behind one of more than there are", []byte{0x90, 2, 7, 7, 0x91, 2, 1, 1}, []byte{0x90, 2, 0, 0}},
		{"one of no size", []byte{0x90, 0, 0, 0}, nil},
		{"one of the size 1", []byte{0x90, 1, 0x91, 2}, nil},
		{"one of one byte more than there are", []byte{1, 0x90, 4, 0}, nil},
		{"one of the size 255", []byte{0x90, 255, 0, 0}, nil},
		{"one of as much as there are", []byte{1, 0x90, 3, 0}, []byte{0x90, 3, 0, 0}},
		{"the kind alone", []byte{1, 1, 1, 0x90}, nil},
		{"the kind alone, of one byte", []byte{0x90}, nil},
		{"bytes of another one", []byte{7, 6, 0x90, 2, 0x90, 2, 1, 1}, nil},
		{"bytes of one that is", []byte{0x90, 6, 7, 2, 0, 1, 0x91, 2}, []byte{0x90, 6, 7, 2, 0, 1, 0x91, 2}},
		{"5 bytes", []byte{1, 0x90, 4, 8, 9}, []byte{0x90, 4, 8, 9}},
		{"40 bytes", append([]byte{0x90, 40}, make([]byte, 38)...), append([]byte{0x90, 40}, make([]byte, 38)...)},
		{"150 bytes", long, append(bytes.Repeat([]byte{0x90, 3, 7}, 30), 0, 0)},
	} {
		if got := cut4.Copied(c.options); !bytes.Equal(got, c.want) {
			t.Errorf("%s: Copied = %x; want %x", c.name, got, c.want)
		}
	}
}

// P13.1: Copied goes through options as layer 8 does, whatever bytes they are.
func TestCopiedAsLayer8(t *testing.T) {
	r := rand.New(rand.NewPCG(13, 1))
	for n := range 40000 {
		b := options(r)
		if n%2 == 0 {
			b = some(r, r.IntN(50))
			for i := range b {
				b[i] %= []byte{255, 130, 5}[r.IntN(3)]
			}
		}
		var want []byte
		for _, option := range tcp.Options(b) {
			if option[0] > 127 {
				want = append(want, option...)
			}
		}
		want = append(want, make([]byte, (len(want)+3)/4*4-len(want))...)
		if got := cut4.Copied(b); !bytes.Equal(got, want) {
			t.Fatalf("Copied(%x) = %x; want %x", b, got, want)
		}
	}
}

// R3: Copied changes nothing that is handed in, and what it answers is new memory.
func TestCopiedSharesNothing(t *testing.T) {
	for _, was := range [][]byte{mixed, {0x94, 4, 0, 0}, {0x90, 3, 9, 1}} {
		b := spare(was)
		got := cut4.Copied(b)
		want := slices.Clone(got)
		spoil(cut4.Copied(b))
		untouched(t, b, was)
		spoil(b)
		if !bytes.Equal(got, want) {
			t.Errorf("what Copied answered became %x with what was handed in; it was %x", got, want)
		}
	}
}

// like fails unless got is a fragment of p: all but its place, its options and its data are p's.
func like(t *testing.T, got, p api.V4) {
	t.Helper()
	got.Off, got.MF, got.Options, got.Data = p.Off, p.MF, p.Options, p.Data
	if !equal(got, p) {
		t.Errorf("a fragment of %v has other fields: %v", p, got)
	}
}

// P13.2: Cut, fragment by fragment.
func TestCut(t *testing.T) {
	for _, c := range []struct {
		name    string
		p       api.V4
		mtu     int
		sizes   []int
		options []byte
	}{
		{"example 1", plain(100), 68, []int{48, 48, 4}, nil},
		{"one byte above", plain(49), 68, []int{48, 1}, nil},
		{"a multiple of 8 at the end", plain(96), 68, []int{48, 48}, nil},
		{"as much as fits at the end", plain(99), 71, []int{48, 51}, nil},
		{"more than fits at the end", plain(100), 71, []int{48, 48, 4}, nil},
		{"one byte above, of mtu 75", plain(56), 75, []int{48, 8}, nil},
		{"mtu 76", plain(112), 76, []int{56, 56}, nil},
		{"mtu 1280", plain(2000), 1280, []int{1256, 744}, nil},
		{"mtu 1500", plain(1481), 1500, []int{1480, 1}, nil},
		{"options", with(plain(100), func(p *api.V4) { p.Options = mixed }), 68, []int{32, 40, 28}, mixedCopied},
		{"options that the first one has alone", with(plain(100), func(p *api.V4) { p.Options = []byte{7, 7, 4, 0, 0, 0, 0, 0} }), 68, []int{40, 48, 12}, nil},
		{"options that end alone", with(plain(100), func(p *api.V4) { p.Options = []byte{0, 0x94, 4, 0} }), 68, []int{40, 48, 12}, nil},
		{"options, less than a multiple of 8 left", with(plain(97), func(p *api.V4) { p.Options = []byte{0x94, 4, 0, 0} }), 68, []int{40, 40, 17}, []byte{0x94, 4, 0, 0}},
		{"room for all that is left, but with the first one's options", with(plain(49), func(p *api.V4) { p.Options = []byte{7, 4, 4, 0} }), 69, []int{40, 9}, nil},
		{"40 bytes of options that all have", with(plain(20), func(p *api.V4) { p.Options = append([]byte{0x83, 40}, make([]byte, 38)...) }), 68, []int{8, 8, 4}, append([]byte{0x83, 40}, make([]byte, 38)...)},
		{"40 bytes of options that the first one has alone", with(plain(60), func(p *api.V4) { p.Options = append([]byte{0x03, 40}, make([]byte, 38)...) }), 68, []int{8, 48, 4}, nil},
	} {
		l, e := cut4.Cut(c.p, c.mtu)
		if e != api.OK || len(l) != len(c.sizes) {
			t.Errorf("%s: Cut = %d fragments, %d; want %d", c.name, len(l), e, len(c.sizes))
			continue
		}
		at := 0
		for i, f := range l {
			like(t, f, c.p)
			want := c.options
			if i == 0 {
				want = c.p.Options
			}
			if f.Off != at || f.MF != (i < len(l)-1) || !bytes.Equal(f.Options, want) {
				t.Errorf("%s: fragment %d has Off %d, MF %v, Options %x; want %d, Options %x", c.name, i, f.Off, f.MF, f.Options, at, want)
			}
			if len(f.Data) != c.sizes[i] || !bytes.Equal(f.Data, c.p.Data[at:at+len(f.Data)]) {
				t.Errorf("%s: fragment %d has %d bytes of Data %x; want %d", c.name, i, len(f.Data), f.Data, c.sizes[i])
			}
			at += len(f.Data)
		}
	}
}

// P13.2: a packet that fits is answered alone, as it is, whatever it has.
func TestCutAlone(t *testing.T) {
	for _, c := range []struct {
		name string
		p    api.V4
		mtu  int
	}{
		{"zero", api.V4{}, 68},
		{"as much as fits", plain(48), 68},
		{"as much as fits, not to be cut", with(plain(48), func(p *api.V4) { p.DF = true }), 68},
		{"as much as fits, with options", with(plain(36), func(p *api.V4) { p.Options = mixed }), 68},
		{"the greatest head", with(plain(8), func(p *api.V4) { p.Options = make([]byte, 40) }), 68},
		{"with MF", with(plain(48), func(p *api.V4) { p.MF = true }), 68},
		{"with MF and nothing else", with(plain(0), func(p *api.V4) { p.MF = true }), 68},
		{"with Off", with(plain(47), func(p *api.V4) { p.Off = 8 }), 68},
		{"with the greatest Off", with(plain(7), func(p *api.V4) { p.Off = 65528 }), 68},
		{"with options that end too early", with(plain(7), func(p *api.V4) { p.Options = []byte{7, 0, 1, 9} }), 68},
		{"the greatest", plain(65515), 65535},
		{"the greatest, not to be cut", with(plain(65515), func(p *api.V4) { p.DF = true }), 65535},
	} {
		if l, e := cut4.Cut(c.p, c.mtu); e != api.OK || len(l) != 1 || !equal(l[0], c.p) {
			t.Errorf("%s: Cut = %v, %d; want %v alone", c.name, l, e, c.p)
		}
	}
}

// P13.2: a fragment that is cut again: Off rises from its own, and the last one has its MF.
func TestCutAgain(t *testing.T) {
	for _, more := range []bool{false, true} {
		for _, off := range []int{0, 8, 65535/8*8 - 104} {
			p := with(plain(104), func(p *api.V4) { p.Off, p.MF, p.Options = off, more, mixed })
			l, e := cut4.Cut(p, 68)
			if e != api.OK || len(l) != 3 {
				t.Fatalf("Cut = %v, %d; want 3", l, e)
			}
			want := []api.V4{
				with(p, func(p *api.V4) { p.MF, p.Data = true, p.Data[:32] }),
				with(p, func(p *api.V4) { p.Off, p.MF, p.Options, p.Data = off+32, true, mixedCopied, p.Data[32:72] }),
				with(p, func(p *api.V4) { p.Off, p.Options, p.Data = off+72, mixedCopied, p.Data[72:] }),
			}
			if !slices.EqualFunc(l, want, equal) {
				t.Errorf("Cut of a fragment with MF %v, Off %d = %v; want %v", more, off, l, want)
			}
		}
	}
}

// P13.2: the greatest packets, cut as small as may be: Off goes up to what there may be.
func TestCutGreat(t *testing.T) {
	for _, p := range []api.V4{
		plain(65515),
		with(plain(65475), func(p *api.V4) { p.Options = append([]byte{0x83, 40}, make([]byte, 38)...) }),
		with(plain(65415), func(p *api.V4) { p.Off = 120 }),
	} {
		l, e := cut4.Cut(p, 68)
		if e != api.OK {
			t.Fatalf("Cut = %d", e)
		}
		determined(t, p, 68, l)
	}
}

// P13.2: what Cut refuses, and which error comes first. R2: what stands beside it is nothing.
func TestCutErrors(t *testing.T) {
	far := with(plain(100), func(p *api.V4) { p.TTL = 256 })
	long := plain(65516)
	whole := with(plain(49), func(p *api.V4) { p.DF = true })
	for _, c := range []struct {
		name string
		p    api.V4
		mtu  int
		want api.Errno
	}{
		{"mtu 67", plain(100), 67, api.ErrArg},
		{"mtu 67 of what fits", plain(1), 67, api.ErrArg},
		{"mtu 0", plain(100), 0, api.ErrArg},
		{"mtu -1", plain(100), -1, api.ErrArg},
		{"the least mtu", plain(100), math.MinInt, api.ErrArg},
		{"mtu 65536", plain(100), 65536, api.ErrArg},
		{"mtu 65536 + 68", plain(100), 65536 + 68, api.ErrArg},
		{"the greatest mtu", plain(100), math.MaxInt, api.ErrArg},
		{"mtu 67 ahead of ErrLong", long, 67, api.ErrArg},
		{"mtu 67 ahead of DF", whole, 67, api.ErrArg},
		{"TTL 256", far, 68, api.ErrArg},
		{"TTL 256 ahead of DF", with(far, func(p *api.V4) { p.DF = true }), 68, api.ErrArg},
		{"Proto -1 of what fits", api.V4{Proto: -1}, 68, api.ErrArg},
		{"Src -1", with(plain(100), func(p *api.V4) { p.Src = -1 }), 68, api.ErrArg},
		{"Dst 2^32", with(plain(100), func(p *api.V4) { p.Dst = 1 << 32 }), 68, api.ErrArg},
		{"Off -8", with(plain(100), func(p *api.V4) { p.Off = -8 }), 68, api.ErrArg},
		{"Off 4", with(plain(100), func(p *api.V4) { p.Off = 4 }), 68, api.ErrArg},
		{"44 bytes of options", with(plain(100), func(p *api.V4) { p.Options = make([]byte, 44) }), 68, api.ErrArg},
		{"5 bytes of options", with(plain(100), func(p *api.V4) { p.Options = make([]byte, 5) }), 68, api.ErrArg},
		{"MF of 100 bytes", with(plain(100), func(p *api.V4) { p.MF = true }), 68, api.ErrArg},
		{"too long", long, 68, api.ErrLong},
		{"too long for any", long, 65535, api.ErrLong},
		{"behind the end", with(plain(96), func(p *api.V4) { p.Off = 65448 }), 68, api.ErrLong},
		{"DF", whole, 68, api.ErrLong},
		{"DF, with MF and Off", with(plain(56), func(p *api.V4) { p.DF, p.MF, p.Off = true, true, 8 }), 68, api.ErrLong},
		{"DF of the greatest", with(plain(65515), func(p *api.V4) { p.DF = true }), 65534, api.ErrLong},
	} {
		if l, e := cut4.Cut(c.p, c.mtu); len(l) != 0 || e != c.want {
			t.Errorf("%s: Cut = %d fragments, %d; want %d", c.name, len(l), e, c.want)
		}
	}
}

// R3: Cut changes nothing that is handed in, and what it answers shares nothing with that, nor one fragment with another.
func TestCutSharesNothing(t *testing.T) {
	for _, n := range []int{10, 100} {
		was := with(plain(n), func(p *api.V4) { p.Options = mixed })
		p := with(was, func(p *api.V4) { p.Options, p.Data = spare(was.Options), spare(was.Data) })
		want, _ := cut4.Cut(was, 68)
		for i := range want {
			l, _ := cut4.Cut(p, 68)
			spoil(l[i].Options)
			spoil(l[i].Data)
			l[i] = want[i]
			if !slices.EqualFunc(l, want, equal) {
				t.Errorf("%d bytes: the fragments became %v with fragment %d; they were %v", n, l, i, want)
			}
			untouched(t, p.Options, was.Options)
			untouched(t, p.Data, was.Data)
		}
		l, _ := cut4.Cut(p, 68)
		spoil(p.Options)
		spoil(p.Data)
		if !slices.EqualFunc(l, want, equal) {
			t.Errorf("%d bytes: the fragments became %v with what was handed in; they were %v", n, l, want)
		}
	}
}

// P13.3: Glue of what goes together.
func TestGlue(t *testing.T) {
	whole := plain(100)
	first := with(whole, func(p *api.V4) { p.MF, p.Data = true, p.Data[:48] })
	second := with(whole, func(p *api.V4) { p.MF, p.Off, p.Data = true, 48, p.Data[48:96] })
	third := with(whole, func(p *api.V4) { p.Off, p.Data = 96, p.Data[96:] })
	none := with(whole, func(p *api.V4) { p.MF, p.Data = true, nil })
	at := func(p api.V4, off int) api.V4 { p.Off = off; return p }
	for _, c := range []struct {
		name string
		l    []api.V4
		want api.V4
	}{
		{"example 1", []api.V4{first, second, third}, whole},
		{"one alone", []api.V4{whole}, whole},
		{"zero alone", []api.V4{{}}, api.V4{}},
		{"one alone with MF", []api.V4{first}, first},
		{"one alone with Off", []api.V4{third}, third},
		{"one alone, not to be cut", []api.V4{with(whole, func(p *api.V4) { p.DF = true })}, with(whole, func(p *api.V4) { p.DF = true })},
		{"without the last one", []api.V4{first, second}, with(whole, func(p *api.V4) { p.MF, p.Data = true, p.Data[:96] })},
		{"without the first one", []api.V4{second, third}, with(whole, func(p *api.V4) { p.Off, p.Data = 48, p.Data[48:] })},
		{"some without data", []api.V4{none, none, first, at(none, 48), second, third}, whole},
		{"one without data at the end", []api.V4{first, second, at(with(none, func(p *api.V4) { p.MF = false }), 96)}, with(whole, func(p *api.V4) { p.Data = p.Data[:96] })},
		{"other fields of the first one", []api.V4{
			with(first, func(p *api.V4) { p.TOS, p.TTL, p.DF, p.Options = 1, 2, true, mixed }),
			with(second, func(p *api.V4) { p.TOS, p.TTL, p.Options = 3, 4, mixedCopied }),
			third,
		}, with(whole, func(p *api.V4) { p.TOS, p.TTL, p.DF, p.Options = 1, 2, true, mixed })},
		{"other fields of the others", []api.V4{
			first,
			with(second, func(p *api.V4) { p.TOS, p.TTL, p.DF, p.Options = 1, 2, true, mixed }),
			with(third, func(p *api.V4) { p.DF, p.Options = true, mixed }),
		}, whole},
		{"the greatest", []api.V4{with(plain(65512), func(p *api.V4) { p.MF = true }), at(plain(3), 65512)}, with(plain(65515), func(p *api.V4) { copy(p.Data[65512:], []byte{0, 1, 2}) })},
	} {
		if p, e := cut4.Glue(c.l...); e != api.OK || !equal(p, c.want) {
			t.Errorf("%s: Glue = %v, %d; want %v", c.name, p, e, c.want)
		}
	}
}

// P13.3: what Glue refuses, and which error comes first. R2: what stands beside it is zero.
func TestGlueErrors(t *testing.T) {
	first := with(plain(48), func(p *api.V4) { p.MF = true })
	second := with(plain(48), func(p *api.V4) { p.MF, p.Off = true, 48 })
	third := with(plain(4), func(p *api.V4) { p.Off = 96 })
	bad := with(second, func(p *api.V4) { p.TTL = -1 })
	long := with(second, func(p *api.V4) { p.Off, p.Data = 65528, make([]byte, 8) })
	for _, c := range []struct {
		name string
		l    []api.V4
		want api.Errno
	}{
		{"none", nil, api.ErrArg},
		{"none, not nil", []api.V4{}, api.ErrArg},
		{"one that may not be", []api.V4{bad}, api.ErrArg},
		{"one that is too long", []api.V4{plain(65516)}, api.ErrLong},
		{"the first one may not be", []api.V4{with(first, func(p *api.V4) { p.TOS = 256 }), second}, api.ErrArg},
		{"the last one may not be", []api.V4{first, second, with(third, func(p *api.V4) { p.MF = true })}, api.ErrArg},
		{"one may not be, ahead of ErrLong", []api.V4{bad, long}, api.ErrArg},
		{"one is too long, ahead of ErrArg", []api.V4{long, bad}, api.ErrLong},
		{"one may not be, ahead of ErrForm", []api.V4{third, first, second, bad}, api.ErrArg},
		{"one is too long, ahead of ErrForm", []api.V4{third, first, second, long}, api.ErrLong},
		{"another Src", []api.V4{first, with(second, func(p *api.V4) { p.Src++ }), third}, api.ErrForm},
		{"another Dst", []api.V4{first, with(second, func(p *api.V4) { p.Dst-- }), third}, api.ErrForm},
		{"another Proto", []api.V4{first, with(second, func(p *api.V4) { p.Proto = 6 }), third}, api.ErrForm},
		{"another ID", []api.V4{first, with(second, func(p *api.V4) { p.ID++ }), third}, api.ErrForm},
		{"Src and Dst, one for the other", []api.V4{first, with(second, func(p *api.V4) { p.Src, p.Dst = p.Dst, p.Src }), third}, api.ErrForm},
		{"another ID of the last one", []api.V4{first, second, with(third, func(p *api.V4) { p.ID = 0 })}, api.ErrForm},
		{"another ID of the first one", []api.V4{with(first, func(p *api.V4) { p.ID = 0 }), second, third}, api.ErrForm},
		{"a gap", []api.V4{first, with(second, func(p *api.V4) { p.Off = 56 })}, api.ErrForm},
		{"a gap, and one less behind", []api.V4{first, third, second}, api.ErrForm},
		{"a place that both have", []api.V4{first, with(second, func(p *api.V4) { p.Off = 40 })}, api.ErrForm},
		{"the same one twice", []api.V4{first, first}, api.ErrForm},
		{"turned round", []api.V4{second, first}, api.ErrForm},
		{"Off from the first one's, not from 0", []api.V4{second, second}, api.ErrForm},
		{"the first one without MF", []api.V4{with(first, func(p *api.V4) { p.MF = false }), second, third}, api.ErrForm},
		{"the second one without MF", []api.V4{first, with(second, func(p *api.V4) { p.MF = false }), third}, api.ErrForm},
		{"two without data and MF", []api.V4{{}, {}}, api.ErrForm},
		{"too long together", []api.V4{
			with(plain(65512), func(p *api.V4) { p.MF = true }),
			with(plain(4), func(p *api.V4) { p.Off = 65512 }),
		}, api.ErrLong},
		{"too long together, with options", []api.V4{
			with(plain(65472), func(p *api.V4) { p.MF, p.Options = true, make([]byte, 40) }),
			with(plain(4), func(p *api.V4) { p.Off = 65472 }),
		}, api.ErrLong},
		{"up to the greatest place", []api.V4{
			with(plain(65512), func(p *api.V4) { p.MF = true }),
			with(plain(16), func(p *api.V4) { p.MF, p.Off = true, 65512 }),
			with(plain(7), func(p *api.V4) { p.Off = 65528 }),
		}, api.ErrLong},
	} {
		if p, e := cut4.Glue(c.l...); !equal(p, api.V4{}) || e != c.want {
			t.Errorf("%s: Glue = %v, %d; want %d", c.name, p, e, c.want)
		}
	}
}

// P13.3: Glue up to the greatest size, and up to the greatest place.
func TestGlueUpToTheEnd(t *testing.T) {
	first := with(plain(65472), func(p *api.V4) { p.MF, p.Options = true, make([]byte, 40) })
	second := with(plain(3), func(p *api.V4) { p.Off, p.Options = 65472, make([]byte, 40) })
	if p, e := cut4.Glue(first, second); e != api.OK || v4.Size(p) != 65535 || len(p.Data) != 65475 {
		t.Errorf("Glue = %d bytes, %d", v4.Size(p), e)
	}
	last := with(plain(7), func(p *api.V4) { p.Off = 65528 })
	ahead := with(plain(16), func(p *api.V4) { p.MF, p.Off = true, 65512 })
	want := with(ahead, func(p *api.V4) { p.MF, p.Data = false, append(slices.Clone(ahead.Data), last.Data...) })
	if p, e := cut4.Glue(ahead, last); e != api.OK || !equal(p, want) {
		t.Errorf("Glue = %v, %d; want %v", p, e, want)
	}
}

// R3: Glue changes nothing that is handed in, and what it answers is new memory.
func TestGlueSharesNothing(t *testing.T) {
	for _, mtu := range []int{68, 1500} {
		was := with(plain(100), func(p *api.V4) { p.Options = mixed })
		l, _ := cut4.Cut(was, mtu)
		for i := range l {
			l[i].Options, l[i].Data = spare(l[i].Options), spare(l[i].Data)
		}
		again, _ := cut4.Cut(was, mtu)
		p, _ := cut4.Glue(l...)
		spoil(p.Options)
		spoil(p.Data)
		for i := range l {
			untouched(t, l[i].Options, again[i].Options)
			untouched(t, l[i].Data, again[i].Data)
		}
		if !slices.EqualFunc(l, again, equal) {
			t.Errorf("what was handed in is %v now; it was %v", l, again)
		}
		p, _ = cut4.Glue(l...)
		spoilAll(l)
		if !equal(p, was) {
			t.Errorf("what Glue answered became %v with what was handed in; it was %v", p, was)
		}
	}
}

// determined fails unless l is what P13.2 says of p: it leaves no choice but in where to cut, and there each fragment but the last one has all the units that go in, and could not have had all that was left.
func determined(t *testing.T, p api.V4, mtu int, l []api.V4) {
	t.Helper()
	at := 0
	for i, f := range l {
		last := i == len(l)-1
		like(t, f, p)
		if e := v4.Check(f); e != api.OK {
			t.Fatalf("fragment %d of %v may not be: %d", i, p, e)
		}
		want := p.Options
		if i > 0 {
			want = cut4.Copied(p.Options)
		}
		if f.Off != p.Off+at || f.MF != (p.MF || !last) || !bytes.Equal(f.Options, want) || v4.Size(f) > mtu {
			t.Fatalf("mtu %d: fragment %d of %v is %v", mtu, i, p, f)
		}
		if !last && (len(f.Data)%8 != 0 || v4.Size(f)+8 <= mtu || v4.Head(f)+len(p.Data)-at <= mtu) {
			t.Fatalf("mtu %d: fragment %d of %v has %d bytes of Data", mtu, i, p, len(f.Data))
		}
		if at+len(f.Data) > len(p.Data) || !bytes.Equal(f.Data, p.Data[at:at+len(f.Data)]) {
			t.Fatalf("mtu %d: fragment %d of %v has other Data: %x", mtu, i, p, f.Data)
		}
		at += len(f.Data)
	}
	if at != len(p.Data) || len(l) == 0 {
		t.Fatalf("mtu %d: %d fragments of %v have %d bytes of Data", mtu, len(l), p, at)
	}
}

// P13.4, P13.2: Glue of Cut is the packet; so it is of what is cut again; each fragment's Size is at most mtu.
func TestGlueOfCut(t *testing.T) {
	r := rand.New(rand.NewPCG(13, 4))
	for n := range 20000 {
		p := random(r, 400)
		mtu := 68 + r.IntN(60)
		if n%100 == 0 {
			p, mtu = random(r, 65400), 68+r.IntN(3000)
		}
		if v4.Check(p) != api.OK {
			t.Fatalf("%v may not be", p)
		}
		l, e := cut4.Cut(p, mtu)
		if e != api.OK {
			t.Fatalf("Cut(%v, %d) = %d", p, mtu, e)
		}
		determined(t, p, mtu, l)
		if q, e := cut4.Glue(l...); e != api.OK || !equal(q, p) {
			t.Fatalf("Glue of Cut(%v, %d) = %v, %d", p, mtu, q, e)
		}
		var small []api.V4
		for _, f := range l {
			parts, e := cut4.Cut(f, 68)
			if e != api.OK {
				t.Fatalf("Cut(%v, 68) = %d", f, e)
			}
			determined(t, f, 68, parts)
			small = append(small, parts...)
		}
		if q, e := cut4.Glue(small...); e != api.OK || !equal(q, p) {
			t.Fatalf("Glue of what is cut again of %v = %v, %d", p, q, e)
		}
	}
}

// R4: the same call answers the same.
func TestSameAgain(t *testing.T) {
	p := with(plain(200), func(p *api.V4) { p.Options = mixed })
	a, _ := cut4.Cut(p, 68)
	b, _ := cut4.Cut(p, 68)
	if !slices.EqualFunc(a, b, equal) {
		t.Errorf("Cut = %v, then %v", a, b)
	}
}
