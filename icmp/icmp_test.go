package icmp_test

import (
	"bytes"
	"encoding/binary"
	"math"
	"math/rand/v2"
	"slices"
	"testing"

	"goosepond/api"
	"goosepond/icmp"
)

// plain is a message with something in every field.
func plain() api.ICMP {
	return api.ICMP{Type: 8, Code: 1, Rest: 0x00010002, Data: []byte{9, 10, 11}}
}

// plainBytes are plain's.
var plainBytes = []byte{8, 1, 0xE3, 0xF1, 0, 1, 0, 2, 9, 10, 11}

// with is plain, changed.
func with(change func(m *api.ICMP)) api.ICMP {
	m := plain()
	change(&m)
	return m
}

// mend gives b its right sum.
func mend(b []byte) []byte {
	b[2], b[3] = 0, 0
	binary.BigEndian.PutUint16(b[2:], 65535-slow(b))
	return b
}

// slow adds all of a message's words, byte by byte.
func slow(b []byte) uint16 {
	n := uint64(0)
	for i, x := range b {
		if i%2 == 0 {
			n += 256 * uint64(x)
		} else {
			n += uint64(x)
		}
	}
	for n > 65535 {
		n -= 65535
	}
	return uint16(n)
}

// spare is b with room behind that holds 0xEE.
func spare(b []byte) []byte {
	s := append(slices.Clone(b), bytes.Repeat([]byte{0xEE}, 8)...)
	return s[:len(b)]
}

// untouched fails if b, made by spare, is not want any more, or its room not as it was.
func untouched(t *testing.T, b, want []byte) {
	t.Helper()
	if !bytes.Equal(b, want) || !bytes.Equal(b[len(b):len(b)+8], bytes.Repeat([]byte{0xEE}, 8)) {
		t.Errorf("what was handed in is %v now, with %v behind; it was %v", b, b[len(b):len(b)+8], want)
	}
}

// equal is Same in another way.
func equal(a, b api.ICMP) bool {
	return a.Type == b.Type && a.Code == b.Code && a.Rest == b.Rest && string(a.Data) == string(b.Data)
}

func some(r *rand.Rand, n int) []byte {
	b := make([]byte, n)
	for i := range b {
		b[i] = byte(r.IntN(256))
	}
	return b
}

func random(r *rand.Rand) api.ICMP {
	return api.ICMP{Type: r.IntN(256), Code: r.IntN(256), Rest: int(r.Uint32()), Data: some(r, r.IntN(50))}
}

// P9.1: Same, by every field, whether the message may be or not.
func TestSame(t *testing.T) {
	if !icmp.Same(plain(), plain()) {
		t.Error("plain is not the same as plain")
	}
	for name, change := range map[string]func(m *api.ICMP){
		"Type":           func(m *api.ICMP) { m.Type += 256 },
		"Code":           func(m *api.ICMP) { m.Code = -1 },
		"Type and Code":  func(m *api.ICMP) { m.Type, m.Code = m.Code, m.Type },
		"Rest":           func(m *api.ICMP) { m.Rest += 1 << 32 },
		"Rest's lowest":  func(m *api.ICMP) { m.Rest ^= 1 },
		"a byte of Data": func(m *api.ICMP) { m.Data[2]++ },
		"less Data":      func(m *api.ICMP) { m.Data = m.Data[:2] },
		"more Data":      func(m *api.ICMP) { m.Data = append(m.Data, 0) },
		"no Data":        func(m *api.ICMP) { m.Data = nil },
	} {
		other := with(change)
		if icmp.Same(plain(), other) || icmp.Same(other, plain()) {
			t.Errorf("with other %s it is the same", name)
		}
		if !icmp.Same(other, with(change)) {
			t.Errorf("with other %s it is not the same as itself", name)
		}
	}
}

// R6: nil and an empty list are the same.
func TestSameOfNil(t *testing.T) {
	a, b := api.ICMP{Type: 1}, api.ICMP{Type: 1, Data: []byte{}}
	if !icmp.Same(a, b) || !icmp.Same(b, a) {
		t.Error("nil and an empty list are not the same")
	}
}

// P9.1: messages that may be, at their bounds.
func TestCheck(t *testing.T) {
	for name, m := range map[string]api.ICMP{
		"zero":     {},
		"plain":    plain(),
		"greatest": {Type: 255, Code: 255, Rest: 1<<32 - 1, Data: make([]byte, 65527)},
	} {
		if e := icmp.Check(m); e != api.OK {
			t.Errorf("%s: Check = %d", name, e)
		}
	}
}

// P9.1: messages that may not be; Build has Check's error, and no bytes.
func TestCheckAndBuildErrors(t *testing.T) {
	long := make([]byte, 65528)
	for _, c := range []struct {
		name string
		m    api.ICMP
		want api.Errno
	}{
		{"Type -1", api.ICMP{Type: -1}, api.ErrArg},
		{"Type 256", api.ICMP{Type: 256}, api.ErrArg},
		{"Type least", api.ICMP{Type: math.MinInt}, api.ErrArg},
		{"Type greatest", api.ICMP{Type: math.MaxInt}, api.ErrArg},
		{"Code -1", api.ICMP{Code: -1}, api.ErrArg},
		{"Code 256", api.ICMP{Code: 256}, api.ErrArg},
		{"Code least", api.ICMP{Code: math.MinInt}, api.ErrArg},
		{"Code greatest", api.ICMP{Code: math.MaxInt}, api.ErrArg},
		{"Rest -1", api.ICMP{Rest: -1}, api.ErrArg},
		{"Rest 2^32", api.ICMP{Rest: 1 << 32}, api.ErrArg},
		{"Rest least", api.ICMP{Rest: math.MinInt}, api.ErrArg},
		{"Rest greatest", api.ICMP{Rest: math.MaxInt}, api.ErrArg},
		{"65528 bytes", api.ICMP{Data: long}, api.ErrLong},
		{"100000 bytes", api.ICMP{Data: make([]byte, 100000)}, api.ErrLong},
		{"65528 bytes and Type 256", api.ICMP{Type: 256, Data: long}, api.ErrArg},
		{"65528 bytes and Code -1", api.ICMP{Code: -1, Data: long}, api.ErrArg},
		{"65528 bytes and Rest 2^32", api.ICMP{Rest: 1 << 32, Data: long}, api.ErrArg},
	} {
		if e := icmp.Check(c.m); e != c.want {
			t.Errorf("%s: Check = %d; want %d", c.name, e, c.want)
		}
		if b, e := icmp.Build(c.m); len(b) != 0 || e != c.want {
			t.Errorf("%s: Build = %d bytes, %d; want %d", c.name, len(b), e, c.want)
		}
	}
}

// P9.1: Build, byte by byte.
func TestBuild(t *testing.T) {
	for _, c := range []struct {
		name string
		m    api.ICMP
		want []byte
	}{
		{"zero", api.ICMP{}, []byte{0, 0, 255, 255, 0, 0, 0, 0}},
		{"plain", plain(), plainBytes},
		{"an even number of bytes", with(func(m *api.ICMP) { m.Data = []byte{9, 10} }), []byte{8, 1, 0xEE, 0xF1, 0, 1, 0, 2, 9, 10}},
		{"greatest numbers", api.ICMP{Type: 255, Code: 255, Rest: 1<<32 - 1}, []byte{255, 255, 0, 0, 255, 255, 255, 255}},
		{"Rest, the highest byte first", api.ICMP{Rest: 0x01020304}, []byte{0, 0, 0xFB, 0xF9, 1, 2, 3, 4}},
	} {
		if b, e := icmp.Build(c.m); !bytes.Equal(b, c.want) || e != api.OK {
			t.Errorf("%s: Build = %x, %d; want %x", c.name, b, e, c.want)
		}
	}
}

// P9.1, P9.3: the greatest message, and one byte more.
func TestGreatest(t *testing.T) {
	r := rand.New(rand.NewPCG(9, 0))
	want := api.ICMP{Type: 13, Data: some(r, 65527)}
	b, e := icmp.Build(want)
	if len(b) != 65535 || e != api.OK || slow(b) != 65535 {
		t.Fatalf("Build = %d bytes, %d", len(b), e)
	}
	if m, e := icmp.Parse(b); !equal(m, want) || e != api.OK {
		t.Errorf("Parse of 65535 bytes = %d of Data, %d", len(m.Data), e)
	}
	b = mend(append(b, 1))
	if m, e := icmp.Parse(b); !equal(m, api.ICMP{}) || e != api.ErrLong {
		t.Errorf("Parse of 65536 bytes = %d of Data, %d", len(m.Data), e)
	}
	b[2]++
	if m, e := icmp.Parse(b); !equal(m, api.ICMP{}) || e != api.ErrLong {
		t.Errorf("Parse of 65536 bytes without a right sum = %d of Data, %d", len(m.Data), e)
	}
}

// R3: what Build answers is new memory, and nothing that is handed in is changed.
func TestBuildSharesNothing(t *testing.T) {
	data := spare(plain().Data)
	b, _ := icmp.Build(with(func(m *api.ICMP) { m.Data = data }))
	for i := range b {
		b[i] = 99
	}
	_ = append(b, 98, 97)
	untouched(t, data, plain().Data)
}

// P9.1: Parse.
func TestParse(t *testing.T) {
	for _, c := range []struct {
		name string
		b    []byte
		want api.ICMP
	}{
		{"plain", plainBytes, plain()},
		{"a head alone", []byte{0, 0, 255, 255, 0, 0, 0, 0}, api.ICMP{}},
		{"a sum of 0", []byte{255, 255, 0, 0, 0, 0, 0, 0}, api.ICMP{Type: 255, Code: 255}},
		{"a sum of 65535, which counts as much", []byte{255, 255, 255, 255, 0, 0, 0, 0}, api.ICMP{Type: 255, Code: 255}},
		{"greatest numbers", []byte{255, 255, 0, 0, 255, 255, 255, 255}, api.ICMP{Type: 255, Code: 255, Rest: 1<<32 - 1}},
		{"a byte behind is data", mend(append(slices.Clone(plainBytes), 12)), with(func(m *api.ICMP) { m.Data = []byte{9, 10, 11, 12} })},
	} {
		if m, e := icmp.Parse(c.b); !equal(m, c.want) || e != api.OK {
			t.Errorf("%s: Parse = %v, %d; want %v", c.name, m, e, c.want)
		}
	}
}

// P9.1: Parse's errors, and which comes first. R2: what stands beside them is zero.
func TestParseErrors(t *testing.T) {
	for _, c := range []struct {
		name string
		b    []byte
		want api.Errno
	}{
		{"nothing", nil, api.ErrShort},
		{"a byte", []byte{8}, api.ErrShort},
		{"7 bytes", plainBytes[:7], api.ErrShort},
		{"7 bytes with a right sum", []byte{0, 0, 255, 255, 0, 0, 0}, api.ErrShort},
		{"8 bytes of 0", make([]byte, 8), api.ErrSum},
		{"less data", plainBytes[:10], api.ErrSum},
		{"another Type", append([]byte{9}, plainBytes[1:]...), api.ErrSum},
		{"another Rest", append(append(slices.Clone(plainBytes[:7]), 3), plainBytes[8:]...), api.ErrSum},
		{"another byte of data", append(slices.Clone(plainBytes[:10]), 12), api.ErrSum},
		{"65536 bytes", make([]byte, 65536), api.ErrLong},
	} {
		if m, e := icmp.Parse(c.b); !equal(m, api.ICMP{}) || e != c.want {
			t.Errorf("%s: Parse = %v, %d; want %d", c.name, m, e, c.want)
		}
	}
}

// R3: what Parse answers shares nothing with b.
func TestParseSharesNothing(t *testing.T) {
	b := spare(plainBytes)
	m, _ := icmp.Parse(b)
	_ = append(m.Data, 5, 6, 7, 8)
	for i := range m.Data {
		m.Data[i] = 98
	}
	untouched(t, b, plainBytes)
	again, _ := icmp.Parse(b)
	clear(b)
	if !equal(again, plain()) {
		t.Errorf("the message became %v with its bytes", again)
	}
}

// P9.3: Parse of Build is the message, and its words add up to 65535.
func TestParseOfBuild(t *testing.T) {
	r := rand.New(rand.NewPCG(9, 3))
	for range 20000 {
		want := random(r)
		b, e := icmp.Build(want)
		if e != api.OK || len(b) != 8+len(want.Data) || slow(b) != 65535 {
			t.Fatalf("Build(%v) = %x, %d", want, b, e)
		}
		if m, e := icmp.Parse(b); e != api.OK || !equal(m, want) || !icmp.Same(m, want) || icmp.Check(m) != api.OK {
			t.Fatalf("Parse of Build of %v = %v, %d", want, m, e)
		}
	}
}

// expected is Parse's error of no more than MaxPacket bytes, told in another way, by P9.1's words.
func expected(b []byte) api.Errno {
	switch {
	case len(b) < 8:
		return api.ErrShort
	case slow(b) != 65535:
		return api.ErrSum
	}
	return api.OK
}

// P9.1: bytes that are near to messages. What Parse takes is what Build makes of it.
func TestParseNearMessages(t *testing.T) {
	r := rand.New(rand.NewPCG(9, 1))
	met := map[api.Errno]int{}
	for range 50000 {
		b, _ := icmp.Build(random(r))
		if r.IntN(2) == 0 {
			b[r.IntN(len(b))] ^= 1 << r.IntN(8)
		}
		b = b[:len(b)-r.IntN(2)*r.IntN(len(b))]
		m, e := icmp.Parse(b)
		met[e]++
		if want := expected(b); e != want || e != api.OK && !equal(m, api.ICMP{}) {
			t.Fatalf("Parse(%x) = %v, %d; want %d", b, m, e, want)
		}
		if again, _ := icmp.Build(m); e == api.OK && !bytes.Equal(again, b) {
			t.Fatalf("Build of Parse of %x is %x", b, again)
		}
	}
	for _, e := range []api.Errno{api.OK, api.ErrShort, api.ErrSum} {
		if met[e] < 1000 {
			t.Errorf("the test has met the error %d %d times", e, met[e])
		}
	}
}

// P9.2: Fault and Query, of every kind and of numbers that are none.
func TestFaultAndQuery(t *testing.T) {
	faults := map[int]int{3: 1, 4: 1, 5: 1, 11: 1, 12: 1}
	queries := map[int]int{0: 1, 8: 1}
	kinds := []int{math.MinInt, math.MaxInt, 1 << 32, 1<<32 + 3, 1<<32 + 8, -1 << 32}
	for kind := -300; kind < 600; kind++ {
		kinds = append(kinds, kind)
	}
	for _, kind := range kinds {
		if is := icmp.Fault(kind); is != (faults[kind] == 1) {
			t.Errorf("Fault(%d) = %t", kind, is)
		}
		if is := icmp.Query(kind); is != (queries[kind] == 1) {
			t.Errorf("Query(%d) = %t", kind, is)
		}
	}
}

// P9.2: ID, of messages that may be and of others.
func TestID(t *testing.T) {
	for _, c := range []struct{ rest, want int }{
		{0x00010002, 1}, // example 1
		{0, 0},
		{0xFFFF, 0},
		{0x10000, 1},
		{0xFFFF0000, 65535},
		{0xFFFFFFFF, 65535},
		{0x12345678, 0x1234},
		{1 << 32, 0},
		{0x7_0005_0006, 5},
		{-1, 65535},
		{-1 << 16, 65535},
		{-1 << 32, 0},
		{math.MinInt, 0},
		{math.MaxInt, 65535},
	} {
		if id := icmp.ID(with(func(m *api.ICMP) { m.Rest = c.rest })); id != c.want {
			t.Errorf("ID of Rest %#x = %d; want %d", c.rest, id, c.want)
		}
	}
}

// P9.2: WithID: the lowest 16 bits of Rest stay, the identifier is modulo 65536, and nothing else is other.
func TestWithID(t *testing.T) {
	for _, c := range []struct{ rest, id, want int }{
		{0x00010002, 7, 0x00070002},
		{0x00010002, 0, 2},
		{0, 1, 0x10000},
		{0xFFFFFFFF, 0, 0xFFFF},
		{0, 65535, 0xFFFF0000},
		{0xABCD, 65536, 0xABCD},
		{0xABCD, 65537, 0x1ABCD},
		{0x12345678, -1, 0xFFFF5678},
		{0x12345678, -65536, 0x5678},
		{0x12345678, math.MaxInt, 0xFFFF5678},
		{0x12345678, math.MinInt, 0x5678},
		{1 << 32, 3, 0x30000},
		{0x7_0005_0006, 3, 0x30006},
		{-1, 0x1234, 0x1234FFFF},
		{math.MinInt, 2, 0x20000},
	} {
		m := icmp.WithID(with(func(m *api.ICMP) { m.Rest = c.rest }), c.id)
		if want := with(func(m *api.ICMP) { m.Rest = c.want }); !equal(m, want) {
			t.Errorf("WithID of Rest %#x with %d = %v; want %v", c.rest, c.id, m, want)
		}
	}
	for _, m := range []api.ICMP{{Type: -5, Code: 256, Data: make([]byte, 70000)}, {}} {
		want := m
		want.Rest = 0x90000
		if got := icmp.WithID(m, 9); !equal(got, want) {
			t.Errorf("WithID of Type %d = %d, %d, %#x, %d of Data", m.Type, got.Type, got.Code, got.Rest, len(got.Data))
		}
	}
}

// P9.2: ID of WithID is the identifier.
func TestIDOfWithID(t *testing.T) {
	r := rand.New(rand.NewPCG(9, 2))
	for range 10000 {
		m, id := random(r), r.IntN(65536)
		now := icmp.WithID(m, id)
		if icmp.ID(now) != id || now.Rest%65536 != m.Rest%65536 || icmp.Check(now) != api.OK {
			t.Fatalf("WithID(%v, %d) = %v", m, id, now)
		}
		if !equal(icmp.WithID(now, icmp.ID(m)), m) {
			t.Fatalf("WithID(%v, %d) does not lead back", m, id)
		}
	}
}

// R3: WithID shares nothing with its message, and does not change it.
func TestWithIDSharesNothing(t *testing.T) {
	data := spare(plain().Data)
	m := with(func(m *api.ICMP) { m.Data = data })
	now := icmp.WithID(m, 7)
	_ = append(now.Data, 5, 6, 7, 8)
	for i := range now.Data {
		now.Data[i] = 98
	}
	untouched(t, data, plain().Data)
	if !equal(m, plain()) {
		t.Errorf("the message is %v now", m)
	}
}
