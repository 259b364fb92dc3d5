package icmp6_test

import (
	"bytes"
	"encoding/binary"
	"math"
	"math/rand/v2"
	"slices"
	"testing"

	"goosepond/api"
	"goosepond/icmp"
	"goosepond/icmp6"
)

var (
	src = api.Six{0x20, 1, 0x0D, 0xB8, 0, 0, 0, 0, 0, 0, 0, 0, 0, 0, 0, 1}
	dst = api.Six{0x20, 1, 0x0D, 0xB8, 0, 9, 0, 0, 0, 0, 0, 0, 0, 0, 1, 3}
)

// plain is a message with something in every field.
func plain() api.ICMP {
	return api.ICMP{Type: 2, Code: 1, Rest: 1280, Data: []byte{9, 10, 11}}
}

// plainBytes are plain's between src and dst.
var plainBytes = []byte{2, 1, 0x88, 0x30, 0, 0, 5, 0, 9, 10, 11}

// with is plain, changed.
func with(change func(m *api.ICMP)) api.ICMP {
	m := plain()
	change(&m)
	return m
}

// mend gives b, between src and dst, its right sum.
func mend(b []byte) []byte {
	b[2], b[3] = 0, 0
	binary.BigEndian.PutUint16(b[2:], 65535-slow(src, dst, b))
	return b
}

// slow adds all of a message's words, its pseudo header's among them, byte by byte.
func slow(src, dst api.Six, b []byte) uint16 {
	n := uint64(len(b)>>16) + uint64(len(b)&65535) + 58
	for _, part := range [][]byte{src[:], dst[:], b} {
		for i, x := range part {
			if i%2 == 0 {
				n += 256 * uint64(x)
			} else {
				n += uint64(x)
			}
		}
	}
	for n > 65535 {
		n -= 65535
	}
	return uint16(n)
}

// spare is b with room behind that holds 0xEE.
func spare(b []byte) []byte {
	s := append(slices.Clone(b), bytes.Repeat([]byte{0xEE}, 8)...)
	return s[:len(b)]
}

// untouched fails if b, made by spare, is not want any more, or its room not as it was.
func untouched(t *testing.T, b, want []byte) {
	t.Helper()
	if !bytes.Equal(b, want) || !bytes.Equal(b[len(b):len(b)+8], bytes.Repeat([]byte{0xEE}, 8)) {
		t.Errorf("what was handed in is %v now, with %v behind; it was %v", b, b[len(b):len(b)+8], want)
	}
}

func equal(a, b api.ICMP) bool {
	return a.Type == b.Type && a.Code == b.Code && a.Rest == b.Rest && string(a.Data) == string(b.Data)
}

func some(r *rand.Rand, n int) []byte {
	b := make([]byte, n)
	for i := range b {
		b[i] = byte(r.IntN(256))
	}
	return b
}

func random(r *rand.Rand) api.ICMP {
	return api.ICMP{Type: r.IntN(256), Code: r.IntN(256), Rest: int(r.Uint32()), Data: some(r, r.IntN(50))}
}

// P10.1: Pseudo, byte by byte; each number modulo what its bytes hold, from 0 on.
func TestPseudo(t *testing.T) {
	for _, c := range []struct {
		next, size int
		want       []byte
	}{
		{0, 0, []byte{0, 0, 0, 0, 0, 0, 0, 0}},
		{58, 8, []byte{0, 0, 0, 8, 0, 0, 0, 58}},
		{9, 0x01020304, []byte{1, 2, 3, 4, 0, 0, 0, 9}},
		{255, 1<<32 - 1, []byte{255, 255, 255, 255, 0, 0, 0, 255}},
		{256, 1 << 32, []byte{0, 0, 0, 0, 0, 0, 0, 0}},
		{0x1234, 0x5_0000_0006, []byte{0, 0, 0, 6, 0, 0, 0, 0x34}},
		{-1, -1, []byte{255, 255, 255, 255, 0, 0, 0, 255}},
		{-256, -1<<32 + 7, []byte{0, 0, 0, 7, 0, 0, 0, 0}},
		{math.MaxInt, math.MinInt, []byte{0, 0, 0, 0, 0, 0, 0, 255}},
		{math.MinInt, math.MaxInt, []byte{255, 255, 255, 255, 0, 0, 0, 0}},
	} {
		want := append(append(src[:len(src):len(src)], dst[:]...), c.want...)
		if b := icmp6.Pseudo(src, dst, c.next, c.size); !bytes.Equal(b, want) {
			t.Errorf("Pseudo with %d, %d = %x; want %x", c.next, c.size, b, want)
		}
	}
}

// R3: what Pseudo answers may be changed.
func TestPseudoIsNew(t *testing.T) {
	want := icmp6.Pseudo(src, dst, 58, 8)
	clear(icmp6.Pseudo(src, dst, 58, 8))
	if b := icmp6.Pseudo(src, dst, 58, 8); !bytes.Equal(b, want) {
		t.Errorf("Pseudo answers %x, after %x", b, want)
	}
}

// P10.1: Build, byte by byte.
func TestBuild(t *testing.T) {
	for _, c := range []struct {
		name     string
		src, dst api.Six
		m        api.ICMP
		want     []byte
	}{
		{"zero", api.Six{}, api.Six{}, api.ICMP{}, []byte{0, 0, 0xFF, 0xBD, 0, 0, 0, 0}},
		{"plain", src, dst, plain(), plainBytes},
		{"plain, turned round", dst, src, plain(), plainBytes},
		{"example 1", src, dst, api.ICMP{Type: 2, Rest: 1280}, []byte{2, 0, 0x9C, 0x3E, 0, 0, 5, 0}},
		{"greatest numbers", api.Six{}, api.Six{}, api.ICMP{Type: 255, Code: 255, Rest: 1<<32 - 1},
			[]byte{255, 255, 0xFF, 0xBD, 255, 255, 255, 255}},
	} {
		if b, e := icmp6.Build(c.src, c.dst, c.m); !bytes.Equal(b, c.want) || e != api.OK {
			t.Errorf("%s: Build = %x, %d; want %x", c.name, b, e, c.want)
		}
	}
}

// P10.1: Build has icmp.Check's error, and no bytes.
func TestBuildErrors(t *testing.T) {
	long := make([]byte, 65528)
	for _, c := range []struct {
		name string
		m    api.ICMP
		want api.Errno
	}{
		{"Type -1", api.ICMP{Type: -1}, api.ErrArg},
		{"Type 256", api.ICMP{Type: 256}, api.ErrArg},
		{"Code -1", api.ICMP{Code: -1}, api.ErrArg},
		{"Code 256", api.ICMP{Code: 256}, api.ErrArg},
		{"Rest -1", api.ICMP{Rest: -1}, api.ErrArg},
		{"Rest 2^32", api.ICMP{Rest: 1 << 32}, api.ErrArg},
		{"65528 bytes", api.ICMP{Data: long}, api.ErrLong},
		{"65528 bytes and Type 256", api.ICMP{Type: 256, Data: long}, api.ErrArg},
	} {
		if b, e := icmp6.Build(src, dst, c.m); len(b) != 0 || e != c.want || e != icmp.Check(c.m) {
			t.Errorf("%s: Build = %d bytes, %d; want %d", c.name, len(b), e, c.want)
		}
	}
}

// P10.1, P10.2: the greatest message, and one byte more.
func TestGreatest(t *testing.T) {
	r := rand.New(rand.NewPCG(10, 0))
	want := api.ICMP{Type: 129, Data: some(r, 65527)}
	b, e := icmp6.Build(src, dst, want)
	if len(b) != 65535 || e != api.OK || slow(src, dst, b) != 65535 {
		t.Fatalf("Build = %d bytes, %d", len(b), e)
	}
	if m, e := icmp6.Parse(src, dst, b); !equal(m, want) || e != api.OK {
		t.Errorf("Parse of 65535 bytes = %d of Data, %d", len(m.Data), e)
	}
	b = mend(append(b, 1))
	if m, e := icmp6.Parse(src, dst, b); !equal(m, api.ICMP{}) || e != api.ErrLong {
		t.Errorf("Parse of 65536 bytes = %d of Data, %d", len(m.Data), e)
	}
	b[2]++
	if m, e := icmp6.Parse(src, dst, b); !equal(m, api.ICMP{}) || e != api.ErrLong {
		t.Errorf("Parse of 65536 bytes without a right sum = %d of Data, %d", len(m.Data), e)
	}
}

// R3: what Build answers is new memory, and nothing that is handed in is changed.
func TestBuildSharesNothing(t *testing.T) {
	data := spare(plain().Data)
	b, _ := icmp6.Build(src, dst, with(func(m *api.ICMP) { m.Data = data }))
	for i := range b {
		b[i] = 99
	}
	_ = append(b, 98, 97)
	untouched(t, data, plain().Data)
}

// P10.1: Parse.
func TestParse(t *testing.T) {
	for _, c := range []struct {
		name string
		b    []byte
		want api.ICMP
	}{
		{"plain", plainBytes, plain()},
		{"a head alone", mend(make([]byte, 8)), api.ICMP{}},
		{"greatest numbers", mend([]byte{255, 255, 0, 0, 255, 255, 255, 255}), api.ICMP{Type: 255, Code: 255, Rest: 1<<32 - 1}},
		{"a byte behind is data", mend(append(slices.Clone(plainBytes), 12)), with(func(m *api.ICMP) { m.Data = []byte{9, 10, 11, 12} })},
	} {
		if m, e := icmp6.Parse(src, dst, c.b); !equal(m, c.want) || e != api.OK {
			t.Errorf("%s: Parse = %v, %d; want %v", c.name, m, e, c.want)
		}
	}
}

// P10.1: Parse's errors, and which comes first. R2: what stands beside them is zero.
func TestParseErrors(t *testing.T) {
	layer9, _ := icmp.Build(plain())
	for _, c := range []struct {
		name string
		b    []byte
		want api.Errno
	}{
		{"nothing", nil, api.ErrShort},
		{"a byte", []byte{2}, api.ErrShort},
		{"7 bytes", plainBytes[:7], api.ErrShort},
		{"7 bytes with a right sum", mend(make([]byte, 7)), api.ErrShort},
		{"8 bytes of 0", make([]byte, 8), api.ErrSum},
		{"less data", plainBytes[:10], api.ErrSum},
		{"a byte of 0 behind, which counts by its size", append(slices.Clone(plainBytes), 0), api.ErrSum},
		{"another Type", append([]byte{3}, plainBytes[1:]...), api.ErrSum},
		{"another Rest", append(append(slices.Clone(plainBytes[:7]), 1), plainBytes[8:]...), api.ErrSum},
		{"another byte of data", append(slices.Clone(plainBytes[:10]), 12), api.ErrSum},
		{"a sum of layer 9", layer9, api.ErrSum},
		{"65536 bytes", make([]byte, 65536), api.ErrLong},
	} {
		if m, e := icmp6.Parse(src, dst, c.b); !equal(m, api.ICMP{}) || e != c.want {
			t.Errorf("%s: Parse = %v, %d; want %d", c.name, m, e, c.want)
		}
	}
}

// P10.1: a sum holds between its addresses alone, and of the protocol 58.
func TestParseOfOtherAddresses(t *testing.T) {
	for i := range src {
		for _, c := range [][2]api.Six{{src, dst}, {dst, src}} {
			c[0][i] ^= 0x40
			if m, e := icmp6.Parse(c[0], c[1], plainBytes); !equal(m, api.ICMP{}) || e != api.ErrSum {
				t.Errorf("Parse between %x and %x = %v, %d", c[0], c[1], m, e)
			}
		}
	}
	b := slices.Clone(plainBytes)
	b[3] += 58 - 1
	if m, e := icmp6.Parse(src, dst, b); !equal(m, api.ICMP{}) || e != api.ErrSum {
		t.Errorf("Parse with the sum of the protocol 1 = %v, %d", m, e)
	}
}

// R3: what Parse answers shares nothing with b.
func TestParseSharesNothing(t *testing.T) {
	b := spare(plainBytes)
	m, _ := icmp6.Parse(src, dst, b)
	_ = append(m.Data, 5, 6, 7, 8)
	for i := range m.Data {
		m.Data[i] = 98
	}
	untouched(t, b, plainBytes)
	again, _ := icmp6.Parse(src, dst, b)
	clear(b)
	if !equal(again, plain()) {
		t.Errorf("the message became %v with its bytes", again)
	}
}

// P10.2: Parse of Build is the message, of the same addresses, and its words add up to 65535.
func TestParseOfBuild(t *testing.T) {
	r := rand.New(rand.NewPCG(10, 2))
	for range 20000 {
		from, to, want := api.Six(some(r, 16)), api.Six(some(r, 16)), random(r)
		b, e := icmp6.Build(from, to, want)
		if e != api.OK || len(b) != 8+len(want.Data) || slow(from, to, b) != 65535 {
			t.Fatalf("Build(%v) = %x, %d", want, b, e)
		}
		if m, e := icmp6.Parse(from, to, b); e != api.OK || !equal(m, want) {
			t.Fatalf("Parse of Build of %v = %v, %d", want, m, e)
		}
	}
}

// P10.1: bytes that are near to messages. What Parse takes is what Build makes of it.
func TestParseNearMessages(t *testing.T) {
	r := rand.New(rand.NewPCG(10, 1))
	met := map[api.Errno]int{}
	for range 50000 {
		b, _ := icmp6.Build(src, dst, random(r))
		if r.IntN(2) == 0 {
			b[r.IntN(len(b))] ^= 1 << r.IntN(8)
		}
		b = b[:len(b)-r.IntN(2)*r.IntN(len(b))]
		want := api.OK
		if len(b) < 8 {
			want = api.ErrShort
		} else if slow(src, dst, b) != 65535 {
			want = api.ErrSum
		}
		m, e := icmp6.Parse(src, dst, b)
		met[e]++
		if e != want || e != api.OK && !equal(m, api.ICMP{}) {
			t.Fatalf("Parse(%x) = %v, %d; want %d", b, m, e, want)
		}
		if again, _ := icmp6.Build(src, dst, m); e == api.OK && !bytes.Equal(again, b) {
			t.Fatalf("Build of Parse of %x is %x", b, again)
		}
	}
	for _, e := range []api.Errno{api.OK, api.ErrShort, api.ErrSum} {
		if met[e] < 1000 {
			t.Errorf("the test has met the error %d %d times", e, met[e])
		}
	}
}

// P10.1: Fault, of every kind and of numbers that are none.
func TestFault(t *testing.T) {
	for kind := -300; kind < 600; kind++ {
		if is := icmp6.Fault(kind); is != (kind >= 1 && kind <= 127) {
			t.Errorf("Fault(%d) = %t", kind, is)
		}
	}
	for _, kind := range []int{math.MinInt, math.MaxInt, 1<<32 + 1, -1 << 32} {
		if icmp6.Fault(kind) {
			t.Errorf("Fault(%d) = true", kind)
		}
	}
}
