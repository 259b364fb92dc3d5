package v4_test

import (
	"bytes"
	"math"
	"math/rand/v2"
	"slices"
	"testing"

	"goosepond/api"
	"goosepond/sum"
	"goosepond/v4"
)

// plain is a packet with something in every field but those of fragments.
func plain() api.V4 {
	return api.V4{TOS: 1, ID: 0x0203, TTL: 64, Proto: 17, Src: 0xC0A80001, Dst: 0xC0A800C7, DF: true, Options: []byte{7, 4, 8, 0}, Data: []byte{9, 10, 11}}
}

// plainBytes are plain's.
var plainBytes = []byte{
	0x46, 1, 0, 27, 2, 3, 0x40, 0, 64, 17, 0xA6, 0xB1, 0xC0, 0xA8, 0, 1, 0xC0, 0xA8, 0, 0xC7,
	7, 4, 8, 0, 9, 10, 11,
}

// with is plain, changed.
func with(change func(p *api.V4)) api.V4 {
	p := plain()
	change(&p)
	return p
}

// mend gives b's head, of head bytes, its right sum.
func mend(b []byte, head int) []byte {
	b[10], b[11] = 0, 0
	s := sum.Of(b[:head])
	b[10], b[11] = byte(s>>8), byte(s)
	return b
}

// raw is plainBytes, changed, with a right sum of its head, and more behind.
func raw(change func(b []byte), behind ...byte) []byte {
	b := slices.Clone(plainBytes)
	change(b)
	return append(mend(b, 24), behind...)
}

// spare is b with room behind that holds 0xEE.
func spare(b []byte) []byte {
	s := append(slices.Clone(b), bytes.Repeat([]byte{0xEE}, 8)...)
	return s[:len(b)]
}

// untouched fails if b, made by spare, is not want any more, or its room not as it was.
func untouched(t *testing.T, b, want []byte) {
	t.Helper()
	if !bytes.Equal(b, want) || !bytes.Equal(b[len(b):len(b)+8], bytes.Repeat([]byte{0xEE}, 8)) {
		t.Errorf("what was handed in is %v now, with %v behind; it was %v", b, b[len(b):len(b)+8], want)
	}
}

// isZero tells whether p is zero, lists of no bytes among it.
func isZero(p api.V4) bool {
	return p.TOS == 0 && p.ID == 0 && p.Off == 0 && p.TTL == 0 && p.Proto == 0 && p.Src == 0 && p.Dst == 0 &&
		!p.DF && !p.MF && len(p.Options) == 0 && len(p.Data) == 0
}

// equal is Same in another way.
func equal(a, b api.V4) bool {
	return a.TOS == b.TOS && a.ID == b.ID && a.Off == b.Off && a.TTL == b.TTL && a.Proto == b.Proto && a.Src == b.Src && a.Dst == b.Dst &&
		a.DF == b.DF && a.MF == b.MF && string(a.Options) == string(b.Options) && string(a.Data) == string(b.Data)
}

// P5.1: Head and Size, of packets that may be and of others.
func TestHeadAndSize(t *testing.T) {
	for _, c := range []struct {
		options, data, head, size int
	}{
		{0, 0, 20, 20}, {4, 0, 24, 24}, {40, 0, 60, 60}, {0, 5, 20, 25}, {8, 100, 28, 128}, {0, 65515, 20, 65535},
		{3, 1, 23, 24}, {44, 0, 64, 64}, {100, 70000, 120, 70120},
	} {
		p := api.V4{Options: make([]byte, c.options), Data: make([]byte, c.data)}
		if head, size := v4.Head(p), v4.Size(p); head != c.head || size != c.size {
			t.Errorf("%d bytes of options, %d of data: Head %d, Size %d; want %d, %d", c.options, c.data, head, size, c.head, c.size)
		}
	}
}

// P5.1: Whole.
func TestWhole(t *testing.T) {
	for _, c := range []struct {
		off  int
		mf   bool
		want bool
	}{
		{0, false, true}, {0, true, false}, {8, false, false}, {8, true, false}, {1, false, false}, {65528, false, false},
		{-1, false, true}, {-8, true, false}, {math.MinInt, false, true}, {math.MaxInt, false, false},
	} {
		for _, df := range []bool{false, true} {
			if got := v4.Whole(api.V4{Off: c.off, MF: c.mf, DF: df, ID: 5}); got != c.want {
				t.Errorf("Whole of Off %d, MF %t, DF %t is %t", c.off, c.mf, df, got)
			}
		}
	}
}

// P5.1: Same, by every field, whether the packet may be or not.
func TestSame(t *testing.T) {
	if !v4.Same(plain(), plain()) {
		t.Error("plain is not the same as plain")
	}
	for name, change := range map[string]func(p *api.V4){
		"TOS":                 func(p *api.V4) { p.TOS = -1 },
		"ID":                  func(p *api.V4) { p.ID++ },
		"Off":                 func(p *api.V4) { p.Off = 3 },
		"Off as a flag":       func(p *api.V4) { p.Off = 0x4000 },
		"TTL":                 func(p *api.V4) { p.TTL += 256 },
		"Proto":               func(p *api.V4) { p.Proto = 6 },
		"Src":                 func(p *api.V4) { p.Src += 1 << 32 },
		"Dst":                 func(p *api.V4) { p.Dst-- },
		"Src and Dst":         func(p *api.V4) { p.Src, p.Dst = p.Dst, p.Src },
		"DF":                  func(p *api.V4) { p.DF = false },
		"MF":                  func(p *api.V4) { p.MF = true },
		"DF and MF":           func(p *api.V4) { p.DF, p.MF = false, true },
		"a byte of Options":   func(p *api.V4) { p.Options[3] = 1 },
		"no Options":          func(p *api.V4) { p.Options = nil },
		"a byte of Data":      func(p *api.V4) { p.Data[0] = 1 },
		"more Data":           func(p *api.V4) { p.Data = append(p.Data, 0) },
		"Data out of Options": func(p *api.V4) { p.Options, p.Data = p.Options[:3], append(p.Options[3:4:4], p.Data...) },
	} {
		other := with(change)
		if v4.Same(plain(), other) || v4.Same(other, plain()) {
			t.Errorf("with other %s it is the same", name)
		}
		if !v4.Same(other, with(change)) {
			t.Errorf("with other %s it is not the same as itself", name)
		}
	}
}

// R6: nil and an empty list are the same.
func TestSameOfNil(t *testing.T) {
	a, b := api.V4{TTL: 1}, api.V4{TTL: 1, Options: []byte{}, Data: []byte{}}
	if !v4.Same(a, b) || !v4.Same(b, a) {
		t.Error("nil and an empty list are not the same")
	}
}

// P5.1: packets that may be, at their bounds.
func TestCheck(t *testing.T) {
	for name, p := range map[string]api.V4{
		"zero":     {},
		"plain":    plain(),
		"greatest": {TOS: 255, ID: 65535, TTL: 255, Proto: 255, Src: 1<<32 - 1, Dst: 1<<32 - 1, DF: true, Options: make([]byte, 40), Data: make([]byte, 65475)},
		"all Data": {Data: make([]byte, 65515)},
		"Off 8":    {Off: 8, Data: make([]byte, 3)},
		"last":     {Off: 65528, Data: make([]byte, 7)},
		"last, MF": {Off: 65528, MF: true},
		"together": {Off: 24, Data: make([]byte, 65511)},
		"MF":       {MF: true, Data: make([]byte, 8)},
		"MF, none": {MF: true},
		"MF, most": {MF: true, Off: 8, Data: make([]byte, 65512)},
	} {
		if e := v4.Check(p); e != api.OK {
			t.Errorf("%s: Check = %d", name, e)
		}
	}
}

// wrong are packets that may not be.
var wrong = []struct {
	name string
	p    api.V4
	want api.Errno
}{
	{"TOS -1", api.V4{TOS: -1}, api.ErrArg},
	{"TOS 256", api.V4{TOS: 256}, api.ErrArg},
	{"TTL -1", api.V4{TTL: -1}, api.ErrArg},
	{"TTL 256", api.V4{TTL: 256}, api.ErrArg},
	{"Proto -1", api.V4{Proto: -1}, api.ErrArg},
	{"Proto 256", api.V4{Proto: 256}, api.ErrArg},
	{"ID -1", api.V4{ID: -1}, api.ErrArg},
	{"ID 65536", api.V4{ID: 65536}, api.ErrArg},
	{"Src -1", api.V4{Src: -1}, api.ErrArg},
	{"Src 2^32", api.V4{Src: 1 << 32}, api.ErrArg},
	{"Dst -1", api.V4{Dst: -1}, api.ErrArg},
	{"Dst 2^32", api.V4{Dst: 1 << 32}, api.ErrArg},
	{"least numbers", api.V4{TOS: math.MinInt, Src: math.MinInt}, api.ErrArg},
	{"greatest numbers", api.V4{ID: math.MaxInt, Dst: math.MaxInt}, api.ErrArg},
	{"Off -8", api.V4{Off: -8}, api.ErrArg},
	{"Off -1", api.V4{Off: -1}, api.ErrArg},
	{"Off 1", api.V4{Off: 1}, api.ErrArg},
	{"Off 4", api.V4{Off: 4}, api.ErrArg},
	{"Off 65527", api.V4{Off: 65527}, api.ErrArg},
	{"Off 65535", api.V4{Off: 65535}, api.ErrArg},
	{"Off 65536", api.V4{Off: 65536}, api.ErrArg},
	{"Off least", api.V4{Off: math.MinInt}, api.ErrArg},
	{"Off greatest", api.V4{Off: math.MaxInt - 7}, api.ErrArg},
	{"Options 1", api.V4{Options: make([]byte, 1)}, api.ErrArg},
	{"Options 2", api.V4{Options: make([]byte, 2)}, api.ErrArg},
	{"Options 39", api.V4{Options: make([]byte, 39)}, api.ErrArg},
	{"Options 41", api.V4{Options: make([]byte, 41)}, api.ErrArg},
	{"Options 44", api.V4{Options: make([]byte, 44)}, api.ErrArg},
	{"MF, Data 1", api.V4{MF: true, Data: make([]byte, 1)}, api.ErrArg},
	{"MF, Data 4", api.V4{MF: true, Data: make([]byte, 4)}, api.ErrArg},
	{"MF, Data 65511", api.V4{MF: true, Data: make([]byte, 65511)}, api.ErrArg},
	{"Data 65516", api.V4{Data: make([]byte, 65516)}, api.ErrLong},
	{"Options 40, Data 65476", api.V4{Options: make([]byte, 40), Data: make([]byte, 65476)}, api.ErrLong},
	{"Off 65528, Data 8", api.V4{Off: 65528, Data: make([]byte, 8)}, api.ErrLong},
	{"Off 65528, MF, Data 8", api.V4{Off: 65528, MF: true, Data: make([]byte, 8)}, api.ErrLong},
	{"Off 24, Data 65512", api.V4{Off: 24, Data: make([]byte, 65512)}, api.ErrLong},
	{"MF, Data 65520", api.V4{MF: true, Data: make([]byte, 65520)}, api.ErrLong},
	{"ErrArg ahead of ErrLong: TTL", api.V4{TTL: 256, Data: make([]byte, 70000)}, api.ErrArg},
	{"ErrArg ahead of ErrLong: Off", api.V4{Off: 65536, Data: make([]byte, 8)}, api.ErrArg},
	{"ErrArg ahead of ErrLong: MF", api.V4{MF: true, Data: make([]byte, 65517)}, api.ErrArg},
}

// P5.1: packets that may not be. P5.2: Build has Check's error, and no bytes.
func TestCheckAndBuildErrors(t *testing.T) {
	for _, c := range wrong {
		if e := v4.Check(c.p); e != c.want {
			t.Errorf("%s: Check = %d; want %d", c.name, e, c.want)
		}
		if b, e := v4.Build(c.p); len(b) != 0 || e != c.want {
			t.Errorf("%s: Build = %d bytes, %d; want %d", c.name, len(b), e, c.want)
		}
	}
}

// P5.2: Build, byte by byte.
func TestBuild(t *testing.T) {
	for _, c := range []struct {
		name string
		p    api.V4
		want []byte
	}{
		{"zero", api.V4{}, []byte{0x45, 0, 0, 20, 0, 0, 0, 0, 0, 0, 0xBA, 0xEB, 0, 0, 0, 0, 0, 0, 0, 0}},
		{"plain", plain(), plainBytes},
		{"DF", api.V4{DF: true, Src: 1, Dst: 1 << 24}, []byte{0x45, 0, 0, 20, 0, 0, 0x40, 0, 0, 0, 0x79, 0xEA, 0, 0, 0, 1, 1, 0, 0, 0}},
		{"MF", api.V4{MF: true, Data: []byte{1, 2, 3, 4, 5, 6, 7, 8}}, []byte{0x45, 0, 0, 28, 0, 0, 0x20, 0, 0, 0, 0x9A, 0xE3, 0, 0, 0, 0, 0, 0, 0, 0, 1, 2, 3, 4, 5, 6, 7, 8}},
		{"Off", api.V4{Off: 8 * 0x102, Data: []byte{255}}, []byte{0x45, 0, 0, 21, 0, 0, 1, 2, 0, 0, 0xB9, 0xE8, 0, 0, 0, 0, 0, 0, 0, 0, 255}},
		{"all bits", api.V4{DF: true, MF: true, Off: 65528}, []byte{0x45, 0, 0, 20, 0, 0, 0x7F, 0xFF, 0, 0, 0x3A, 0xEC, 0, 0, 0, 0, 0, 0, 0, 0}},
		{"greatest", api.V4{TOS: 255, ID: 65535, TTL: 255, Proto: 255, Src: 1<<32 - 1, Dst: 1<<32 - 1},
			[]byte{0x45, 255, 0, 20, 255, 255, 0, 0, 255, 255, 0xB9, 0xEC, 255, 255, 255, 255, 255, 255, 255, 255}},
	} {
		if b, e := v4.Build(c.p); !bytes.Equal(b, c.want) || e != api.OK {
			t.Errorf("%s: Build = %x, %d; want %x", c.name, b, e, c.want)
		}
	}
}

// P5.2: Build of the head of RFC 1071's well known example, and of the greatest packets.
func TestBuildGreat(t *testing.T) {
	b, e := v4.Build(api.V4{DF: true, TTL: 64, Proto: 17, Src: 0xC0A80001, Dst: 0xC0A800C7, Data: make([]byte, 95)})
	if want := []byte{0x45, 0, 0, 0x73, 0, 0, 0x40, 0, 0x40, 0x11, 0xB8, 0x61, 0xC0, 0xA8, 0, 1, 0xC0, 0xA8, 0, 0xC7}; e != api.OK || len(b) != 115 || !bytes.Equal(b[:20], want) {
		t.Errorf("Build = %x, %d", b, e)
	}
	for _, options := range []int{0, 40} {
		p := api.V4{Options: bytes.Repeat([]byte{1}, options), Data: bytes.Repeat([]byte{2}, 65515-options)}
		b, e := v4.Build(p)
		if e != api.OK || len(b) != 65535 || b[0] != byte(0x45+options/4) || b[2] != 255 || b[3] != 255 || !sum.Right(b[:20+options]) {
			t.Fatalf("Build of %d bytes of options = %d bytes, %d", options, len(b), e)
		}
		if !bytes.Equal(b[20:20+options], p.Options) || !bytes.Equal(b[20+options:], p.Data) {
			t.Errorf("with %d bytes of options: the lists are not there", options)
		}
	}
}

// R3: what Build answers is new memory, and nothing that is handed in is changed.
func TestBuildSharesNothing(t *testing.T) {
	options, data := spare(plain().Options), spare(plain().Data)
	b, _ := v4.Build(with(func(p *api.V4) { p.Options, p.Data = options, data }))
	for i := range b {
		b[i] = 99
	}
	_ = append(b, 98, 97)
	untouched(t, options, plain().Options)
	untouched(t, data, plain().Data)
}

// P5.3: Parse and Quoted of packets that are all there, whatever is behind them.
func TestParse(t *testing.T) {
	for _, c := range []struct {
		name string
		b    []byte
		want api.V4
	}{
		{"plain", plainBytes, plain()},
		{"bytes behind", append(slices.Clone(plainBytes), 1, 2, 3), plain()},
		{"no data", raw(func(b []byte) { b[3] = 24 }), with(func(p *api.V4) { p.Data = nil })},
		{"less data", raw(func(b []byte) { b[3] = 25 }), with(func(p *api.V4) { p.Data = []byte{9} })},
		{"no options", mend([]byte{0x45, 0, 0, 20, 0, 0, 0, 0, 1, 6, 0, 0, 1, 2, 3, 4, 0xFF, 0xFE, 0xFD, 0xFC}, 20), api.V4{TTL: 1, Proto: 6, Src: 0x01020304, Dst: 0xFFFEFDFC}},
		{"MF, none", raw(func(b []byte) { b[3], b[6] = 24, 0x20 }), with(func(p *api.V4) { p.DF, p.MF, p.Data = false, true, nil })},
		{"both flags", raw(func(b []byte) { b[3], b[6] = 24, 0x60 }), with(func(p *api.V4) { p.MF, p.Data = true, nil })},
		{"Off", raw(func(b []byte) { b[6], b[7] = 0x01, 0x02 }), with(func(p *api.V4) { p.DF, p.Off = false, 8*0x102 })},
		{"last Off", raw(func(b []byte) { b[6], b[7] = 0x1F, 0xFF }), with(func(p *api.V4) { p.DF, p.Off = false, 65528 })},
	} {
		for name, parse := range map[string]func([]byte) (api.V4, api.Errno){"Parse": v4.Parse, "Quoted": v4.Quoted} {
			if p, e := parse(c.b); !equal(p, c.want) || e != api.OK {
				t.Errorf("%s: %s = %v, %d; want %v", c.name, name, p, e, c.want)
			}
		}
	}
}

// P5.3: Parse and Quoted of the greatest packet, and of the most options.
func TestParseGreat(t *testing.T) {
	want := api.V4{Options: bytes.Repeat([]byte{3}, 40), Data: bytes.Repeat([]byte{4}, 65475)}
	b, _ := v4.Build(want)
	for name, parse := range map[string]func([]byte) (api.V4, api.Errno){"Parse": v4.Parse, "Quoted": v4.Quoted} {
		if p, e := parse(append(b, 5)); !equal(p, want) || e != api.OK {
			t.Errorf("%s = %d bytes of options, %d of data, %d", name, len(p.Options), len(p.Data), e)
		}
	}
}

// shapes are bytes that are no packet, whether quoted or not, and the error that comes first.
var shapes = []struct {
	name          string
	b             []byte
	parse, quoted api.Errno
}{
	{"nothing", nil, api.ErrShort, api.ErrShort},
	{"a byte", []byte{0x45}, api.ErrShort, api.ErrShort},
	{"19 bytes", plainBytes[:19], api.ErrShort, api.ErrShort},
	{"19 bytes of another version", make([]byte, 19), api.ErrShort, api.ErrShort},
	{"version 0", raw(func(b []byte) { b[0] = 0x06 }), api.ErrForm, api.ErrForm},
	{"version 5", raw(func(b []byte) { b[0] = 0x56 }), api.ErrForm, api.ErrForm},
	{"version 6", raw(func(b []byte) { b[0] = 0x66 }), api.ErrForm, api.ErrForm},
	{"version 12", raw(func(b []byte) { b[0] = 0xC6 }), api.ErrForm, api.ErrForm},
	{"a head of 16", raw(func(b []byte) { b[0] = 0x44 }), api.ErrForm, api.ErrForm},
	{"a head of 0", raw(func(b []byte) { b[0] = 0x40 }), api.ErrForm, api.ErrForm},
	{"version ahead of the head's end", raw(func(b []byte) { b[0] = 0x6F }), api.ErrForm, api.ErrForm},
	{"a head beyond the end", raw(func(b []byte) { b[0] = 0x47 }), api.ErrShort, api.ErrShort},
	{"a head just beyond the end", plainBytes[:23], api.ErrShort, api.ErrShort},
	{"a head beyond the end, and a size below it", raw(func(b []byte) { b[0], b[3] = 0x4F, 21 }), api.ErrShort, api.ErrShort},
	{"a head beyond the end, and the bit 0x8000", raw(func(b []byte) { b[0], b[6] = 0x4F, 0x80 }), api.ErrShort, api.ErrShort},
	{"a size below the head", raw(func(b []byte) { b[3] = 23 }), api.ErrForm, api.ErrForm},
	{"a size of 0", raw(func(b []byte) { b[3] = 0 }), api.ErrForm, api.ErrForm},
	{"a size below the head, whose sum is not right", raw(func(b []byte) { b[3] = 23 }), api.ErrForm, api.ErrForm},
	{"the bit 0x8000", raw(func(b []byte) { b[6] = 0x80 }), api.ErrForm, api.ErrForm},
	{"the bit 0x8000 with all others", raw(func(b []byte) { b[6], b[7] = 0xFF, 0xFF }), api.ErrForm, api.ErrForm},
	{"a size beyond the end, and the bit 0x8000", raw(func(b []byte) { b[3], b[6] = 28, 0x80 }), api.ErrShort, api.ErrForm},
	{"the bit 0x8000, and no right sum", append([]byte{0x46, 1, 0, 27, 2, 3, 0x80}, plainBytes[7:]...), api.ErrForm, api.ErrForm},
	{"a size beyond the end", raw(func(b []byte) { b[3] = 28 }), api.ErrShort, api.OK},
	{"a size far beyond the end", raw(func(b []byte) { b[2], b[3] = 255, 255 }), api.ErrShort, api.OK},
	{"a size beyond the end, and no right sum", append([]byte{0x46, 1, 0, 28}, plainBytes[4:]...), api.ErrShort, api.OK},
	{"no right sum", append([]byte{0x46, 2}, plainBytes[2:]...), api.ErrSum, api.OK},
	{"a sum of 0", append(append(slices.Clone(plainBytes[:10]), 0, 0), plainBytes[12:]...), api.ErrSum, api.OK},
	{"an option that is not in the sum", append(append(slices.Clone(plainBytes[:23]), 1), plainBytes[24:]...), api.ErrSum, api.OK},
	{"no right sum, MF and 3 bytes", append([]byte{0x46, 1, 0, 27, 2, 3, 0x60}, plainBytes[7:]...), api.ErrSum, api.OK},
	{"MF and 3 bytes", raw(func(b []byte) { b[6] = 0x20 }), api.ErrForm, api.OK},
	{"Off and Data above MaxPacket", raw(func(b []byte) { b[3], b[6], b[7] = 32, 0x1F, 0xFF }, 1, 2, 3, 4, 5), api.ErrForm, api.OK},
	{"Off and Data above MaxPacket, and MF", raw(func(b []byte) { b[3], b[6], b[7] = 32, 0x3F, 0xFF }, 1, 2, 3, 4, 5), api.ErrForm, api.OK},
}

// P5.3: Parse's errors, and which comes first; Quoted's likewise, but of what it does not look at. R2: what stands beside them is zero.
func TestParseErrors(t *testing.T) {
	for _, c := range shapes {
		if p, e := v4.Parse(c.b); !isZero(p) || e != c.parse {
			t.Errorf("%s: Parse = %v, %d; want %d", c.name, p, e, c.parse)
		}
		if p, e := v4.Quoted(c.b); e != c.quoted || isZero(p) == (e == api.OK) {
			t.Errorf("%s: Quoted = %v, %d; want %d", c.name, p, e, c.quoted)
		}
	}
}

// P5.3: a packet that is cut short at any place: Parse says so, Quoted says what is there.
func TestCutShort(t *testing.T) {
	for n := range plainBytes {
		if p, e := v4.Parse(plainBytes[:n]); !isZero(p) || e != api.ErrShort {
			t.Errorf("Parse of %d bytes = %v, %d", n, p, e)
		}
		p, e := v4.Quoted(plainBytes[:n])
		if n < 24 && (!isZero(p) || e != api.ErrShort) {
			t.Errorf("Quoted of %d bytes = %v, %d", n, p, e)
		}
		if want := with(func(p *api.V4) { p.Data = plainBytes[24:max(n, 24)] }); n >= 24 && (!equal(p, want) || e != api.OK) {
			t.Errorf("Quoted of %d bytes = %v, %d; want %v", n, p, e, want)
		}
	}
}

// P5.3: Quoted takes MF with any bytes, Off with as many as there are, and any sum, whether or not all is there.
func TestQuoted(t *testing.T) {
	for _, c := range []struct {
		name string
		b    []byte
		want api.V4
	}{
		{"MF and 3 bytes", raw(func(b []byte) { b[6] = 0x20 }), with(func(p *api.V4) { p.DF, p.MF = false, true })},
		{"MF and 3 bytes of 8", raw(func(b []byte) { b[3], b[6] = 32, 0x20 }), with(func(p *api.V4) { p.DF, p.MF = false, true })},
		{"MF and 3 bytes of 9", raw(func(b []byte) { b[3], b[6] = 33, 0x20 }), with(func(p *api.V4) { p.DF, p.MF = false, true })},
		{"Off and 3 bytes of 8", raw(func(b []byte) { b[3], b[6], b[7] = 32, 0x1F, 0xFF }), with(func(p *api.V4) { p.DF, p.Off = false, 65528 })},
		{"Off and 8 bytes", raw(func(b []byte) { b[3], b[6], b[7] = 32, 0x1F, 0xFF }, 12, 13, 14, 15, 16, 17),
			with(func(p *api.V4) { p.DF, p.Off, p.Data = false, 65528, []byte{9, 10, 11, 12, 13, 14, 15, 16} })},
		{"the greatest size", raw(func(b []byte) { b[2], b[3], b[6], b[7] = 255, 255, 0x3F, 0xFF }), with(func(p *api.V4) { p.DF, p.MF, p.Off = false, true, 65528 })},
		{"another sum", append(append(slices.Clone(plainBytes[:10]), 1, 2), plainBytes[12:]...), plain()},
		{"no data there", raw(func(b []byte) { b[3] = 200 })[:24], with(func(p *api.V4) { p.Data = nil })},
	} {
		if p, e := v4.Quoted(c.b); !equal(p, c.want) || e != api.OK {
			t.Errorf("%s: Quoted = %v, %d; want %v", c.name, p, e, c.want)
		}
	}
}

// R3: what Parse and Quoted answer shares nothing with b, nor one of its lists with the other.
func TestParseSharesNothing(t *testing.T) {
	for name, parse := range map[string]func([]byte) (api.V4, api.Errno){"Parse": v4.Parse, "Quoted": v4.Quoted} {
		b := spare(append(slices.Clone(plainBytes), 77))
		p, _ := parse(b)
		_ = append(p.Options, 1, 2, 3, 4)
		_ = append(p.Data, 5, 6, 7, 8)
		if !equal(p, plain()) {
			t.Errorf("%s: what was put behind a list came into the packet: %v", name, p)
		}
		for i := range p.Options {
			p.Options[i] = 99
		}
		for i := range p.Data {
			p.Data[i] = 98
		}
		untouched(t, b, append(slices.Clone(plainBytes), 77))
		again, _ := parse(b)
		clear(b)
		if !equal(again, plain()) {
			t.Errorf("%s: the packet became %v with its bytes", name, again)
		}
	}
}

// random is a packet that may be.
func random(r *rand.Rand) api.V4 {
	p := api.V4{
		TOS: r.IntN(256), ID: r.IntN(65536), TTL: r.IntN(256), Proto: r.IntN(256), Src: int(r.Uint32()), Dst: int(r.Uint32()),
		DF: r.IntN(2) == 0, MF: r.IntN(2) == 0, Options: some(r, 4*r.IntN(11)), Data: some(r, r.IntN(40)),
	}
	if p.MF {
		p.Data = p.Data[:len(p.Data)/8*8]
	}
	if r.IntN(2) == 0 {
		p.Off = 8 * r.IntN((65535-len(p.Data))/8+1)
	}
	return p
}

func some(r *rand.Rand, n int) []byte {
	b := make([]byte, n)
	for i := range b {
		b[i] = byte(r.IntN(256))
	}
	return b
}

// P5.4: Parse of Build is the packet; so is Quoted of it.
func TestParseOfBuild(t *testing.T) {
	r := rand.New(rand.NewPCG(5, 4))
	for range 20000 {
		want := random(r)
		b, e := v4.Build(want)
		if e != api.OK || len(b) != v4.Size(want) || !sum.Right(b[:v4.Head(want)]) {
			t.Fatalf("Build(%v) = %x, %d", want, b, e)
		}
		b = append(b, some(r, r.IntN(3))...)
		p, e := v4.Parse(b)
		if e != api.OK || !equal(p, want) || !v4.Same(p, want) || v4.Check(p) != api.OK {
			t.Fatalf("Parse of Build of %v = %v, %d", want, p, e)
		}
		if q, e := v4.Quoted(b); e != api.OK || !equal(q, want) {
			t.Fatalf("Quoted of Build of %v = %v, %d", want, q, e)
		}
	}
}

// expected is Parse's error, or Quoted's, told in another way, by P5.3's words.
func expected(b []byte, quoted bool) api.Errno {
	if len(b) < 20 {
		return api.ErrShort
	}
	head, size := int(b[0]%16)*4, int(b[2])*256+int(b[3])
	off, mf := (int(b[6]%32)*256+int(b[7]))*8, b[6]&0x20 != 0
	switch {
	case b[0] < 0x45 || b[0] > 0x4F:
		return api.ErrForm
	case head > len(b) || size > len(b) && !quoted:
		return api.ErrShort
	case size < head || b[6] > 127:
		return api.ErrForm
	case quoted:
		return api.OK
	case !sum.Right(b[:head]):
		return api.ErrSum
	case mf && (size-head)%8 != 0 || off+size-head > 65535:
		return api.ErrForm
	}
	return api.OK
}

// P5.3: bytes that are near to packets. What Parse takes is what Build makes of it.
func TestParseNearPackets(t *testing.T) {
	r := rand.New(rand.NewPCG(5, 3))
	met := map[api.Errno]int{}
	for range 100000 {
		b, _ := v4.Build(random(r))
		for range r.IntN(3) {
			b[r.IntN(min(len(b), 12))] ^= 1 << r.IntN(8)
		}
		if head := int(b[0]%16) * 4; r.IntN(2) == 0 && head >= 20 && head <= len(b) {
			mend(b, head)
		}
		b = append(b, some(r, r.IntN(10))...)
		b = b[:len(b)-r.IntN(3)*r.IntN(len(b))/2]
		p, e := v4.Parse(b)
		met[e]++
		if want := expected(b, false); e != want || e != api.OK && !isZero(p) {
			t.Fatalf("Parse(%x) = %v, %d; want %d", b, p, e, want)
		}
		if again, _ := v4.Build(p); e == api.OK && !bytes.Equal(again, b[:v4.Size(p)]) {
			t.Fatalf("Build of Parse of %x is %x", b, again)
		}
		if q, e := v4.Quoted(b); e != expected(b, true) || e != api.OK && !isZero(q) {
			t.Fatalf("Quoted(%x) = %v, %d; want %d", b, q, e, expected(b, true))
		}
	}
	for _, e := range []api.Errno{api.OK, api.ErrShort, api.ErrForm, api.ErrSum} {
		if met[e] < 1000 {
			t.Errorf("the test has met the error %d %d times", e, met[e])
		}
	}
}
