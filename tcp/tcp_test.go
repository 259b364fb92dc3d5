package tcp_test

import (
	"bytes"
	"encoding/binary"
	"math"
	"math/rand/v2"
	"slices"
	"testing"

	"goosepond/api"
	"goosepond/tcp"
)

const (
	src = 0x0A000001
	dst = 0xC0000201
)

// plain is a segment with something in every field.
func plain() api.TCP {
	return api.TCP{
		Src: 5000, Dst: 80, Seq: 0x01020304, Ack: 0xA1B2C3D4, Reserved: 5, Flags: 0x12, Window: 0x2345, Urgent: 0x6789,
		Options: []byte{1, 2, 4, 5, 0xB4, 3, 3, 7}, Data: []byte{9, 10, 11},
	}
}

// plainBytes are plain's between src and dst.
var plainBytes = []byte{
	0x13, 0x88, 0, 80, 1, 2, 3, 4, 0xA1, 0xB2, 0xC3, 0xD4, 0x75, 0x12, 0x23, 0x45, 0xE6, 0x75, 0x67, 0x89,
	1, 2, 4, 5, 0xB4, 3, 3, 7, 9, 10, 11,
}

// with is plain, changed.
func with(change func(s *api.TCP)) api.TCP {
	s := plain()
	change(&s)
	return s
}

// raw is plainBytes, changed, and more behind, with a right sum of all.
func raw(change func(b []byte), behind ...byte) []byte {
	b := append(slices.Clone(plainBytes), behind...)
	change(b)
	return mend(b)
}

// mend gives b, between src and dst, its right sum.
func mend(b []byte) []byte {
	b[16], b[17] = 0, 0
	binary.BigEndian.PutUint16(b[16:], 65535-slow(src, dst, b))
	return b
}

// slow adds all of a segment's words, its pseudo header's among them, byte by byte.
func slow(src, dst uint32, b []byte) uint16 {
	n := uint64(src>>16) + uint64(src&65535) + uint64(dst>>16) + uint64(dst&65535) + 6 + uint64(len(b)%65536)
	for i, x := range b {
		if i%2 == 0 {
			n += 256 * uint64(x)
		} else {
			n += uint64(x)
		}
	}
	for n > 65535 {
		n -= 65535
	}
	return uint16(n)
}

// spare is b with room behind that holds 0xEE.
func spare(b []byte) []byte {
	s := append(slices.Clone(b), bytes.Repeat([]byte{0xEE}, 8)...)
	return s[:len(b)]
}

// untouched fails if b, made by spare, is not want any more, or its room not as it was.
func untouched(t *testing.T, b, want []byte) {
	t.Helper()
	if !bytes.Equal(b, want) || !bytes.Equal(b[len(b):len(b)+8], bytes.Repeat([]byte{0xEE}, 8)) {
		t.Errorf("what was handed in is %v now, with %v behind; it was %v", b, b[len(b):len(b)+8], want)
	}
}

// equal is Same in another way.
func equal(a, b api.TCP) bool {
	return a.Src == b.Src && a.Dst == b.Dst && a.Seq == b.Seq && a.Ack == b.Ack && a.Reserved == b.Reserved && a.Flags == b.Flags &&
		a.Window == b.Window && a.Urgent == b.Urgent && string(a.Options) == string(b.Options) && string(a.Data) == string(b.Data)
}

func some(r *rand.Rand, n int) []byte {
	b := make([]byte, n)
	for i := range b {
		b[i] = byte(r.IntN(256))
	}
	return b
}

// random is a segment that may be.
func random(r *rand.Rand) api.TCP {
	return api.TCP{
		Src: r.IntN(65536), Dst: r.IntN(65536), Seq: int(r.Uint32()), Ack: int(r.Uint32()), Reserved: r.IntN(16), Flags: r.IntN(256),
		Window: r.IntN(65536), Urgent: r.IntN(65536), Options: some(r, 4*r.IntN(11)), Data: some(r, r.IntN(40)),
	}
}

// P8.1: Same, by every field, whether the segment may be or not.
func TestSame(t *testing.T) {
	if !tcp.Same(plain(), plain()) {
		t.Error("plain is not the same as plain")
	}
	for name, change := range map[string]func(s *api.TCP){
		"Src":                 func(s *api.TCP) { s.Src += 65536 },
		"Dst":                 func(s *api.TCP) { s.Dst = -1 },
		"Src and Dst":         func(s *api.TCP) { s.Src, s.Dst = s.Dst, s.Src },
		"Seq":                 func(s *api.TCP) { s.Seq += 1 << 32 },
		"Ack":                 func(s *api.TCP) { s.Ack-- },
		"Seq and Ack":         func(s *api.TCP) { s.Seq, s.Ack = s.Ack, s.Seq },
		"Reserved":            func(s *api.TCP) { s.Reserved += 16 },
		"Flags":               func(s *api.TCP) { s.Flags = 0x10 },
		"Window":              func(s *api.TCP) { s.Window = 0 },
		"Urgent":              func(s *api.TCP) { s.Urgent = math.MinInt },
		"Window and Urgent":   func(s *api.TCP) { s.Window, s.Urgent = s.Urgent, s.Window },
		"a byte of Options":   func(s *api.TCP) { s.Options[7]++ },
		"no Options":          func(s *api.TCP) { s.Options = nil },
		"a byte of Data":      func(s *api.TCP) { s.Data[2]++ },
		"more Data":           func(s *api.TCP) { s.Data = append(s.Data, 0) },
		"Data out of Options": func(s *api.TCP) { s.Options, s.Data = s.Options[:7], append(s.Options[7:8:8], s.Data...) },
	} {
		other := with(change)
		if tcp.Same(plain(), other) || tcp.Same(other, plain()) {
			t.Errorf("with other %s it is the same", name)
		}
		if !tcp.Same(other, with(change)) {
			t.Errorf("with other %s it is not the same as itself", name)
		}
	}
}

// R6: nil and an empty list are the same.
func TestSameOfNil(t *testing.T) {
	a, b := api.TCP{Src: 1}, api.TCP{Src: 1, Options: []byte{}, Data: []byte{}}
	if !tcp.Same(a, b) || !tcp.Same(b, a) {
		t.Error("nil and an empty list are not the same")
	}
}

// P8.1: segments that may be, at their bounds.
func TestCheck(t *testing.T) {
	for name, s := range map[string]api.TCP{
		"zero":                    {},
		"plain":                   plain(),
		"greatest numbers":        {Src: 65535, Dst: 65535, Seq: 1<<32 - 1, Ack: 1<<32 - 1, Reserved: 15, Flags: 255, Window: 65535, Urgent: 65535},
		"greatest without":        {Data: make([]byte, 65515)},
		"greatest with options":   {Options: make([]byte, 40), Data: make([]byte, 65475)},
		"options that are none":   {Options: []byte{2, 0, 255, 9}},
		"options that are 0":      {Options: make([]byte, 4)},
		"all flags, those of api": {Flags: api.FlagFin | api.FlagSyn | api.FlagRst | api.FlagAck},
	} {
		if e := tcp.Check(s); e != api.OK {
			t.Errorf("%s: Check = %d", name, e)
		}
	}
}

// P8.1: segments that may not be; Build has Check's error, and no bytes.
func TestCheckAndBuildErrors(t *testing.T) {
	type refused struct {
		name string
		s    api.TCP
		want api.Errno
	}
	var list []refused
	for _, f := range []struct {
		name  string
		field func(s *api.TCP) *int
		most  int
	}{
		{"Src", func(s *api.TCP) *int { return &s.Src }, 65535},
		{"Dst", func(s *api.TCP) *int { return &s.Dst }, 65535},
		{"Window", func(s *api.TCP) *int { return &s.Window }, 65535},
		{"Urgent", func(s *api.TCP) *int { return &s.Urgent }, 65535},
		{"Seq", func(s *api.TCP) *int { return &s.Seq }, 1<<32 - 1},
		{"Ack", func(s *api.TCP) *int { return &s.Ack }, 1<<32 - 1},
		{"Reserved", func(s *api.TCP) *int { return &s.Reserved }, 15},
		{"Flags", func(s *api.TCP) *int { return &s.Flags }, 255},
	} {
		for _, n := range []int{-1, f.most + 1, math.MinInt, math.MaxInt} {
			s := plain()
			*f.field(&s) = n
			list = append(list, refused{f.name, s, api.ErrArg})
			s.Options, s.Data = nil, make([]byte, 65516)
			list = append(list, refused{f.name + " ahead of ErrLong", s, api.ErrArg})
		}
	}
	for _, n := range []int{1, 2, 3, 5, 39, 41, 42, 44, 80, 100000} {
		list = append(list, refused{"Options", api.TCP{Options: make([]byte, n)}, api.ErrArg})
	}
	list = append(list,
		refused{"Data 65516", api.TCP{Data: make([]byte, 65516)}, api.ErrLong},
		refused{"Data 65512 and 4 of options", api.TCP{Options: make([]byte, 4), Data: make([]byte, 65512)}, api.ErrLong},
		refused{"Data 65476 and 40 of options", api.TCP{Options: make([]byte, 40), Data: make([]byte, 65476)}, api.ErrLong},
		refused{"Data 65536", api.TCP{Data: make([]byte, 65536)}, api.ErrLong},
		refused{"Options ahead of ErrLong", api.TCP{Options: make([]byte, 44), Data: make([]byte, 65536)}, api.ErrArg},
	)
	for _, c := range list {
		if e := tcp.Check(c.s); e != c.want {
			t.Errorf("%s: Check = %d; want %d", c.name, e, c.want)
		}
		if b, e := tcp.Build(src, dst, c.s); len(b) != 0 || e != c.want {
			t.Errorf("%s: Build = %d bytes, %d; want %d", c.name, len(b), e, c.want)
		}
	}
}

// P8.1: Build, byte by byte, whatever the addresses are.
func TestBuild(t *testing.T) {
	empty := func(high, low byte) []byte {
		return append(append(make([]byte, 12), 0x50, 0, 0, 0, high, low), 0, 0)
	}
	for _, c := range []struct {
		name     string
		src, dst int
		s        api.TCP
		want     []byte
	}{
		{"plain", src, dst, plain(), plainBytes},
		{"addresses turned round", dst, src, plain(), plainBytes},
		{"addresses modulo 2^32", src + 1<<32, dst - 1<<32, plain(), plainBytes},
		{"zero", src, dst, api.TCP{}, empty(0xE3, 0xE2)},
		{"addresses of 0", 0, 0, api.TCP{}, empty(0xAF, 0xE5)},
		{"addresses of 0, modulo", 1 << 32, math.MinInt, api.TCP{}, empty(0xAF, 0xE5)},
	} {
		if b, e := tcp.Build(c.src, c.dst, c.s); !bytes.Equal(b, c.want) || e != api.OK {
			t.Errorf("%s: Build = %x, %d; want %x", c.name, b, e, c.want)
		}
	}
}

// P8.1: each number in a place of its own.
func TestBuildPlaces(t *testing.T) {
	for _, c := range []struct {
		name string
		s    api.TCP
		at   int
		want []byte
	}{
		{"Src", api.TCP{Src: 0xFFFE}, 0, []byte{255, 254}},
		{"Dst", api.TCP{Dst: 0xFFFE}, 2, []byte{255, 254}},
		{"Seq", api.TCP{Seq: 0xFFFEFDFC}, 4, []byte{255, 254, 253, 252}},
		{"Ack", api.TCP{Ack: 0xFFFEFDFC}, 8, []byte{255, 254, 253, 252}},
		{"Reserved", api.TCP{Reserved: 15}, 12, []byte{0x5F}},
		{"no options", api.TCP{}, 12, []byte{0x50}},
		{"the fewest options", api.TCP{Options: make([]byte, 4)}, 12, []byte{0x60}},
		{"the most options", api.TCP{Options: make([]byte, 40), Reserved: 1, Data: []byte{1, 2, 3, 4}}, 12, []byte{0xF1}},
		{"Flags", api.TCP{Flags: 254}, 13, []byte{254}},
		{"Window", api.TCP{Window: 0xFFFE}, 14, []byte{255, 254}},
		{"Urgent", api.TCP{Urgent: 0xFFFE}, 18, []byte{255, 254}},
		{"Options and Data", api.TCP{Options: []byte{1, 2, 3, 4}, Data: []byte{5, 6}}, 20, []byte{1, 2, 3, 4, 5, 6}},
	} {
		b, e := tcp.Build(src, dst, c.s)
		if e != api.OK || len(b) < 20 {
			t.Errorf("%s: Build = %x, %d", c.name, b, e)
			continue
		}
		if got := b[c.at : c.at+len(c.want)]; !bytes.Equal(got, c.want) || slow(src, dst, b) != 65535 {
			t.Errorf("%s: Build = %x; want %x from %d on, and a right sum", c.name, b, c.want, c.at)
		}
	}
}

// P8.1: a sum that is 0 stays so; P8.2: 65535 in its place counts as much.
func TestSumOfZero(t *testing.T) {
	for _, behind := range [][]byte{nil, {7}, {7, 8}} {
		s := api.TCP{Src: 5000, Dst: 80, Data: append([]byte{0, 0}, behind...)}
		b, _ := tcp.Build(src, dst, s)
		copy(s.Data, b[16:18]) // all other words and this one add up to 65535
		b, e := tcp.Build(src, dst, s)
		if e != api.OK || b[16] != 0 || b[17] != 0 || !bytes.Equal(b[20:], s.Data) {
			t.Errorf("Build of what has the sum 0 = %x, %d", b, e)
		}
		if p, e := tcp.Parse(src, dst, b); e != api.OK || !equal(p, s) {
			t.Errorf("Parse of the sum 0 = %v, %d; want %v", p, e, s)
		}
		b[16], b[17] = 255, 255
		if p, e := tcp.Parse(src, dst, b); e != api.OK || !equal(p, s) {
			t.Errorf("Parse of the sum 65535 = %v, %d; want %v", p, e, s)
		}
	}
}

// P8.1, P8.2: Build and Parse of the greatest segment, and Parse of greater ones, whether or not their sum is right.
func TestGreat(t *testing.T) {
	for _, options := range []int{0, 40} {
		want := with(func(s *api.TCP) {
			s.Options = bytes.Repeat([]byte{1}, options)
			s.Data = bytes.Repeat([]byte{255, 254, 7}, 21843)[:65515-options]
		})
		b, e := tcp.Build(src, dst, want)
		if e != api.OK || len(b) != 65535 || slow(src, dst, b) != 65535 {
			t.Fatalf("Build = %d bytes, %d", len(b), e)
		}
		if s, e := tcp.Parse(src, dst, b); e != api.OK || !equal(s, want) {
			t.Errorf("Parse = %d bytes of Data, %d", len(s.Data), e)
		}
		for _, more := range []int{1, 2, 70000} {
			great := append(slices.Clone(b), make([]byte, more)...)
			if s, e := tcp.Parse(src, dst, great); !equal(s, api.TCP{}) || e != api.ErrLong {
				t.Errorf("Parse of %d bytes = %d of Data, %d", len(great), len(s.Data), e)
			}
			if s, e := tcp.Parse(src, dst, mend(great)); !equal(s, api.TCP{}) || e != api.ErrLong {
				t.Errorf("Parse of %d bytes with a right sum = %d of Data, %d", len(great), len(s.Data), e)
			}
			great[12] = 0x4F
			if s, e := tcp.Parse(src, dst, mend(great)); !equal(s, api.TCP{}) || e != api.ErrForm {
				t.Errorf("Parse of %d bytes with a head of 16 = %d of Data, %d", len(great), len(s.Data), e)
			}
		}
	}
}

// R3: what Build answers is new memory, and nothing that is handed in is changed.
func TestBuildSharesNothing(t *testing.T) {
	options, data := spare(plain().Options), spare(plain().Data)
	b, _ := tcp.Build(src, dst, with(func(s *api.TCP) { s.Options, s.Data = options, data }))
	for i := range b {
		b[i] = 99
	}
	_ = append(b, 98, 97)
	untouched(t, options, plain().Options)
	untouched(t, data, plain().Data)
}

// P8.2: Parse.
func TestParse(t *testing.T) {
	for _, c := range []struct {
		name     string
		src, dst int
		b        []byte
		want     api.TCP
	}{
		{"plain", src, dst, plainBytes, plain()},
		{"addresses turned round", dst, src, plainBytes, plain()},
		{"addresses modulo 2^32", src - 1<<32, dst + 1<<32, plainBytes, plain()},
		{"a byte behind is data", src, dst, raw(func([]byte) {}, 12), with(func(s *api.TCP) { s.Data = []byte{9, 10, 11, 12} })},
		{"no options", src, dst, raw(func(b []byte) { b[12] = 0x55 }),
			with(func(s *api.TCP) { s.Options, s.Data = nil, []byte{1, 2, 4, 5, 0xB4, 3, 3, 7, 9, 10, 11} })},
		{"less options", src, dst, raw(func(b []byte) { b[12] = 0x65 }),
			with(func(s *api.TCP) { s.Options, s.Data = []byte{1, 2, 4, 5}, []byte{0xB4, 3, 3, 7, 9, 10, 11} })},
		{"options alone", src, dst, raw(func(b []byte) { b[12] = 0x85 }, 12),
			with(func(s *api.TCP) { s.Options, s.Data = []byte{1, 2, 4, 5, 0xB4, 3, 3, 7, 9, 10, 11, 12}, nil })},
		{"a head alone", 0, 0, []byte{0, 0, 0, 0, 0, 0, 0, 0, 0, 0, 0, 0, 0x50, 0, 0, 0, 0xAF, 0xE5, 0, 0}, api.TCP{}},
		{"all bits of the head", src, dst, mend(append(bytes.Repeat([]byte{255}, 16), bytes.Repeat([]byte{0, 0, 255, 255}, 11)...)),
			api.TCP{Src: 65535, Dst: 65535, Seq: 1<<32 - 1, Ack: 1<<32 - 1, Reserved: 15, Flags: 255, Window: 65535, Urgent: 65535,
				Options: bytes.Repeat([]byte{0, 0, 255, 255}, 10)}},
	} {
		if s, e := tcp.Parse(c.src, c.dst, c.b); !equal(s, c.want) || e != api.OK {
			t.Errorf("%s: Parse = %v, %d; want %v", c.name, s, e, c.want)
		}
	}
}

// P8.2: Parse's errors, and which comes first. R2: what stands beside them is zero.
func TestParseErrors(t *testing.T) {
	for _, c := range []struct {
		name string
		b    []byte
		want api.Errno
	}{
		{"nothing", nil, api.ErrShort},
		{"a byte", []byte{0x13}, api.ErrShort},
		{"19 bytes", plainBytes[:19], api.ErrShort},
		{"19 bytes with a head of 0", make([]byte, 19), api.ErrShort},
		{"a head of 0", raw(func(b []byte) { b[12] = 0x05 }), api.ErrForm},
		{"a head of 16", raw(func(b []byte) { b[12] = 0x4F }), api.ErrForm},
		{"a head of 16, and no right sum", append(append(slices.Clone(plainBytes[:12]), 0x45), plainBytes[13:]...), api.ErrForm},
		{"20 bytes, and a head of 0", make([]byte, 20), api.ErrForm},
		{"a head beyond the end", raw(func(b []byte) { b[12] = 0x80 }), api.ErrShort},
		{"a head far beyond the end", raw(func(b []byte) { b[12] = 0xF0 }), api.ErrShort},
		{"a head beyond the end, and no right sum", plainBytes[:27], api.ErrShort},
		{"20 bytes, and a head of 24", mend(append(make([]byte, 12), 0x60, 0, 0, 0, 0, 0, 0, 0)), api.ErrShort},
		{"less data", plainBytes[:30], api.ErrSum},
		{"a byte behind", append(slices.Clone(plainBytes), 0), api.ErrSum},
		{"another port of who sends", append([]byte{0x13, 0x89}, plainBytes[2:]...), api.ErrSum},
		{"another byte of options", append(append(slices.Clone(plainBytes[:27]), 8), plainBytes[28:]...), api.ErrSum},
		{"another byte of data", append(slices.Clone(plainBytes[:30]), 12), api.ErrSum},
		{"a sum of 0", append(append(slices.Clone(plainBytes[:16]), 0, 0), plainBytes[18:]...), api.ErrSum},
		{"a sum of 65535", append(append(slices.Clone(plainBytes[:16]), 255, 255), plainBytes[18:]...), api.ErrSum},
	} {
		if s, e := tcp.Parse(src, dst, c.b); !equal(s, api.TCP{}) || e != c.want {
			t.Errorf("%s: Parse = %v, %d; want %d", c.name, s, e, c.want)
		}
	}
}

// P8.2: a sum holds between its addresses alone, and of the protocol 6.
func TestParseOfOtherAddresses(t *testing.T) {
	for _, c := range [][2]int{{src + 1, dst}, {src, dst + 1}, {src, src}, {dst, dst}, {0, 0}, {src ^ 1<<31, dst}} {
		if s, e := tcp.Parse(c[0], c[1], plainBytes); !equal(s, api.TCP{}) || e != api.ErrSum {
			t.Errorf("Parse between %x and %x = %v, %d", c[0], c[1], s, e)
		}
	}
	b := slices.Clone(plainBytes)
	b[17] -= 17 - 6
	if s, e := tcp.Parse(src, dst, b); !equal(s, api.TCP{}) || e != api.ErrSum {
		t.Errorf("Parse with the sum of the protocol 17 = %v, %d", s, e)
	}
}

// R3: what Parse answers shares nothing with b, nor one of its lists with the other.
func TestParseSharesNothing(t *testing.T) {
	b := spare(plainBytes)
	s, _ := tcp.Parse(src, dst, b)
	_ = append(s.Options, 1, 2, 3, 4)
	_ = append(s.Data, 5, 6, 7, 8)
	if !equal(s, plain()) {
		t.Errorf("what was put behind a list came into the segment: %v", s)
	}
	for i := range s.Options {
		s.Options[i] = 99
	}
	for i := range s.Data {
		s.Data[i] = 98
	}
	untouched(t, b, plainBytes)
	again, _ := tcp.Parse(src, dst, b)
	clear(b)
	if !equal(again, plain()) {
		t.Errorf("the segment became %v with its bytes", again)
	}
}

// P8.4: Parse of Build is the segment, and its words add up to 65535.
func TestParseOfBuild(t *testing.T) {
	r := rand.New(rand.NewPCG(8, 4))
	for range 20000 {
		from, to, want := r.Uint32(), r.Uint32(), random(r)
		b, e := tcp.Build(int(from), int(to), want)
		if e != api.OK || len(b) != 20+len(want.Options)+len(want.Data) || slow(from, to, b) != 65535 {
			t.Fatalf("Build(%v) = %x, %d", want, b, e)
		}
		if s, e := tcp.Parse(int(from), int(to), b); e != api.OK || !equal(s, want) || !tcp.Same(s, want) || tcp.Check(s) != api.OK {
			t.Fatalf("Parse of Build of %v = %v, %d", want, s, e)
		}
	}
}

// expected is Parse's error of less than MaxPacket bytes, told in another way, by P8.2's words.
func expected(b []byte) api.Errno {
	switch {
	case len(b) < 20:
		return api.ErrShort
	case b[12] < 0x50:
		return api.ErrForm
	case int(b[12]>>4)*4 > len(b):
		return api.ErrShort
	case slow(src, dst, b) != 65535:
		return api.ErrSum
	}
	return api.OK
}

// P8.2: bytes that are near to segments. What Parse takes is what Build makes of it, but for a sum of 65535.
func TestParseNearSegments(t *testing.T) {
	r := rand.New(rand.NewPCG(8, 2))
	met := map[api.Errno]int{}
	for range 100000 {
		b, _ := tcp.Build(src, dst, random(r))
		for range r.IntN(3) {
			b[12+r.IntN(4)*r.IntN(2)] ^= 1 << r.IntN(8)
		}
		b = append(b, some(r, r.IntN(3)*r.IntN(2))...)
		b = b[:len(b)-r.IntN(3)*r.IntN(len(b))/2]
		if r.IntN(2) == 0 && len(b) >= 20 {
			mend(b)
		}
		s, e := tcp.Parse(src, dst, b)
		met[e]++
		if want := expected(b); e != want || e != api.OK && !equal(s, api.TCP{}) {
			t.Fatalf("Parse(%x) = %v, %d; want %d", b, s, e, want)
		}
		if again, _ := tcp.Build(src, dst, s); e == api.OK && !bytes.Equal(again, b) {
			t.Fatalf("Build of Parse of %x is %x", b, again)
		}
	}
	for _, e := range []api.Errno{api.OK, api.ErrShort, api.ErrForm, api.ErrSum} {
		if met[e] < 1000 {
			t.Errorf("the test has met the error %d %d times", e, met[e])
		}
	}
}

// option is one of those that Options tells.
type option struct {
	at int
	b  []byte
}

// options are all that Options tells of b.
func options(b []byte) []option {
	var list []option
	for at, o := range tcp.Options(b) {
		list = append(list, option{at, o})
	}
	return list
}

// alike tells whether a and b are the same options.
func alike(a, b []option) bool {
	return slices.EqualFunc(a, b, func(x, y option) bool { return x.at == y.at && bytes.Equal(x.b, y.b) })
}

// lists are bytes, and the options that they are.
var lists = []struct {
	name string
	b    []byte
	want []option
}{
	{"nothing", nil, nil},
	{"example 1", []byte{1, 2, 4, 5, 0xB4, 0, 0, 0}, []option{{0, []byte{1}}, {1, []byte{2, 4, 5, 0xB4}}, {5, []byte{0}}}},
	{"an end", []byte{0}, []option{{0, []byte{0}}}},
	{"an end, and ends behind", []byte{0, 0, 0, 0}, []option{{0, []byte{0}}}},
	{"an end, and an option behind", []byte{0, 2, 4, 5, 6}, []option{{0, []byte{0}}}},
	{"the kind 1 alone", []byte{1, 1, 1}, []option{{0, []byte{1}}, {1, []byte{1}}, {2, []byte{1}}}},
	{"the kind 1 with a size", []byte{1, 4, 4, 5, 6}, []option{{0, []byte{1}}, {1, []byte{4, 4, 5, 6}}}},
	{"the kind 0 with a size", []byte{0, 2, 1}, []option{{0, []byte{0}}}},
	{"the smallest option", []byte{4, 2}, []option{{0, []byte{4, 2}}}},
	{"many", []byte{2, 4, 5, 0xB4, 4, 2, 1, 3, 3, 7, 254, 5, 0, 0, 0, 1, 0, 1}, []option{
		{0, []byte{2, 4, 5, 0xB4}}, {4, []byte{4, 2}}, {6, []byte{1}}, {7, []byte{3, 3, 7}}, {10, []byte{254, 5, 0, 0, 0}}, {15, []byte{1}}, {16, []byte{0}},
	}},
	{"all kinds have sizes", []byte{255, 3, 0, 128, 2, 2, 2}, []option{{0, []byte{255, 3, 0}}, {3, []byte{128, 2}}, {5, []byte{2, 2}}}},
	{"no size", []byte{2}, nil},
	{"no size at the end", []byte{1, 1, 2}, []option{{0, []byte{1}}, {1, []byte{1}}}},
	{"a size of 0", []byte{1, 2, 0, 1, 1}, []option{{0, []byte{1}}}},
	{"a size of 1", []byte{1, 2, 1, 1, 1}, []option{{0, []byte{1}}}},
	{"a size beyond the end", []byte{1, 2, 4, 5}, []option{{0, []byte{1}}}},
	{"a size beyond the end by far", []byte{2, 255, 1, 1}, nil},
	{"a size beyond the end by one", []byte{2, 3}, nil},
	{"a size beyond the end behind others", []byte{2, 4, 1, 1, 8, 10, 1, 1, 1, 1, 1, 1, 1}, []option{{0, []byte{2, 4, 1, 1}}}},
}

// P8.3: Options.
func TestOptions(t *testing.T) {
	for _, c := range lists {
		if got := options(c.b); !alike(got, c.want) {
			t.Errorf("%s: Options(%v) = %v; want %v", c.name, c.b, got, c.want)
		}
	}
}

// P8.3: Options of more bytes than a segment may have of them, up to the greatest size.
func TestOptionsOfMany(t *testing.T) {
	b := append([]byte{9, 255}, make([]byte, 253)...)
	if got := options(b); !alike(got, []option{{0, b}}) {
		t.Errorf("Options of one of 255 bytes = %v", got)
	}
	got := options(bytes.Repeat([]byte{1, 3, 3, 7}, 1000))
	if len(got) != 2000 || got[1999].at != 3997 || !bytes.Equal(got[1999].b, []byte{3, 3, 7}) {
		t.Errorf("Options of 4000 bytes are %d", len(got))
	}
}

// R7: asked twice, Options tells the same twice; who ends early is told no more.
func TestOptionsTwice(t *testing.T) {
	for _, c := range lists {
		seq := tcp.Options(c.b)
		for range 2 {
			var got []option
			for at, o := range seq {
				got = append(got, option{at, o})
			}
			if !alike(got, c.want) {
				t.Errorf("%s: asked again, Options(%v) tells %v; want %v", c.name, c.b, got, c.want)
			}
		}
		for most := 1; most <= len(c.want); most++ {
			told := 0
			seq(func(int, []byte) bool {
				told++
				return told < most
			})
			if told != most {
				t.Errorf("%s: who ends at the option %d is told %d", c.name, most, told)
			}
		}
	}
}

// R3: Options keeps nothing that is handed in, and shares nothing that it tells.
func TestOptionsSharesNothing(t *testing.T) {
	was := []byte{1, 2, 4, 5, 0xB4, 3, 3, 7}
	want := []option{{0, []byte{1}}, {1, []byte{2, 4, 5, 0xB4}}, {5, []byte{3, 3, 7}}}
	b := spare(was)
	seq := tcp.Options(b)
	for _, o := range seq {
		_ = append(o, 66, 67, 68)
		for i := range o {
			o[i] = 99
		}
	}
	untouched(t, b, was)
	clear(b)
	var got []option
	for at, o := range seq {
		got = append(got, option{at, o})
	}
	if !alike(got, want) {
		t.Errorf("Options tells %v, of what was %v", got, was)
	}
}

// P8.3: MSS, of segments that may be and of others.
func TestMSS(t *testing.T) {
	for _, c := range []struct {
		name    string
		options []byte
		most    int
		at      int
		ok      bool
	}{
		{"example 1", []byte{1, 2, 4, 5, 0xB4, 0, 0, 0}, 1460, 1, true},
		{"ahead of all", []byte{2, 4, 255, 255}, 65535, 0, true},
		{"of 0", []byte{2, 4, 0, 0}, 0, 0, true},
		{"of 1", []byte{1, 1, 1, 1, 2, 4, 0, 1}, 1, 4, true},
		{"of 256", []byte{4, 2, 3, 3, 7, 1, 1, 2, 4, 1, 0, 0}, 256, 7, true},
		{"the first one of two", []byte{1, 1, 1, 1, 2, 4, 1, 2, 2, 4, 3, 4}, 258, 4, true},
		{"behind one with 3 bytes", []byte{2, 3, 9, 2, 4, 1, 2, 0}, 258, 3, true},
		{"behind one with 2 bytes", []byte{2, 2, 2, 4, 1, 2, 0, 0}, 258, 2, true},
		{"behind one with 5 bytes", []byte{2, 5, 2, 4, 2, 2, 4, 1, 2, 0, 0, 0}, 258, 5, true},
		{"within another option", []byte{3, 8, 2, 4, 1, 2, 1, 1}, 0, 0, false},
		{"in bytes that are no multiple of 4", []byte{2, 4, 1, 2, 1}, 258, 0, true},
		{"in more than 40 bytes", append(bytes.Repeat([]byte{1}, 77), 2, 4, 1, 2), 258, 77, true},
		{"no options", nil, 0, 0, false},
		{"none of the kind", []byte{3, 4, 1, 2, 1, 1, 1, 1}, 0, 0, false},
		{"none with 4 bytes", []byte{2, 2, 2, 3, 5, 2, 6, 1, 2, 3, 4, 0}, 0, 0, false},
		{"behind an end", []byte{0, 2, 4, 1, 2, 0, 0, 0}, 0, 0, false},
		{"behind what is no option", []byte{3, 1, 2, 4, 1, 2, 0, 0}, 0, 0, false},
		{"cut short", []byte{1, 2, 4, 5}, 0, 0, false},
	} {
		s := with(func(s *api.TCP) { s.Options = c.options })
		if most, at, ok := tcp.MSS(s); most != c.most || at != c.at || ok != c.ok {
			t.Errorf("%s: MSS of %v = %d, %d, %t; want %d, %d, %t", c.name, c.options, most, at, ok, c.most, c.at, c.ok)
		}
	}
}

// P8.3: MSS looks at Options alone, whatever else the segment is.
func TestMSSOfOthers(t *testing.T) {
	for _, s := range []api.TCP{
		{Options: []byte{2, 4, 1, 2}},
		{Options: []byte{2, 4, 1, 2}, Flags: api.FlagAck, Data: []byte{2, 4, 3, 4}},
		{Options: []byte{2, 4, 1, 2}, Src: -1, Flags: 256, Data: make([]byte, 70000)},
	} {
		if most, at, ok := tcp.MSS(s); most != 258 || at != 0 || !ok {
			t.Errorf("MSS = %d, %d, %t", most, at, ok)
		}
	}
	if most, at, ok := tcp.MSS(api.TCP{Data: []byte{2, 4, 1, 2}}); most != 0 || at != 0 || ok {
		t.Errorf("MSS of Data = %d, %d, %t", most, at, ok)
	}
}

// expectedMSS is MSS, told in another way, by P8.3's words.
func expectedMSS(b []byte) (int, int, bool) {
	for at := 0; at < len(b) && b[at] != 0; {
		if b[at] == 1 {
			at++
			continue
		}
		if at+1 == len(b) || b[at+1] < 2 || at+int(b[at+1]) > len(b) {
			break
		}
		if b[at] == 2 && b[at+1] == 4 {
			return int(b[at+2])*256 + int(b[at+3]), at, true
		}
		at += int(b[at+1])
	}
	return 0, 0, false
}

// P8.3: Options and MSS of any bytes: each option begins where the one ahead of it ends.
func TestOptionsOfAny(t *testing.T) {
	r := rand.New(rand.NewPCG(8, 3))
	met := map[bool]int{}
	for range 100000 {
		b := make([]byte, r.IntN(41))
		for i := range b {
			b[i] = byte(r.IntN(6))
		}
		at := 0
		for _, o := range options(b) {
			if o.at != at || len(o.b) == 0 || !bytes.Equal(o.b, b[at:at+len(o.b)]) {
				t.Fatalf("Options(%v) tells %v at %d", b, o.b, o.at)
			}
			at += len(o.b)
		}
		most, place, ok := tcp.MSS(api.TCP{Options: b})
		met[ok]++
		if m, p, k := expectedMSS(b); most != m || place != p || ok != k {
			t.Fatalf("MSS of %v = %d, %d, %t; want %d, %d, %t", b, most, place, ok, m, p, k)
		}
	}
	if met[true] < 1000 || met[false] < 1000 {
		t.Errorf("the test has met %v", met)
	}
}
