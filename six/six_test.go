package six_test

import (
	"bytes"
	"math"
	"math/rand/v2"
	"slices"
	"strconv"
	"strings"
	"testing"

	"goosepond/api"
	"goosepond/six"
)

// known are addresses, and their texts.
var known = []struct {
	a    api.Six
	text string
}{
	{api.Six{}, "0:0:0:0:0:0:0:0"},
	{api.Six{15: 1}, "0:0:0:0:0:0:0:1"},
	{api.Six{1: 1}, "1:0:0:0:0:0:0:0"},
	{api.Six{0x20, 1, 0x0d, 0xb8, 15: 1}, "2001:db8:0:0:0:0:0:1"},
	{api.Six{0, 1, 2, 3, 4, 5, 6, 7, 8, 9, 10, 11, 12, 13, 14, 15}, "1:203:405:607:809:a0b:c0d:e0f"},
	{api.Six{0x10, 0, 0x01, 0, 0, 0x10, 0, 1, 0xab, 0xcd, 0xef, 0x90, 0x09, 0x99, 0, 0xa}, "1000:100:10:1:abcd:ef90:999:a"},
	{api.Six{0xfe, 0x80, 14: 0xff, 15: 0xff}, "fe80:0:0:0:0:0:0:ffff"},
	{api.Six(bytes.Repeat([]byte{0xff}, 16)), "ffff:ffff:ffff:ffff:ffff:ffff:ffff:ffff"},
}

// P4.1: Text.
func TestText(t *testing.T) {
	for _, c := range known {
		if got := six.Text(c.a); got != c.text {
			t.Errorf("Text(%v) = %q; want %q", c.a, got, c.text)
		}
	}
}

// P4.1: Parse of the texts of addresses.
func TestParse(t *testing.T) {
	for _, c := range known {
		if a, e := six.Parse(c.text); a != c.a || e != api.OK {
			t.Errorf("Parse(%q) = %v, %d; want %v", c.text, a, e, c.a)
		}
	}
}

// P4.1: Parse of what is no address's text: nothing but ErrForm (R2).
func TestParseErrors(t *testing.T) {
	for _, s := range []string{
		"", ":", "::", "::1", "1::", "2001:db8::1", ":::::::", "::::::::", "0", "1:2:3:4:5:6:7", "1:2:3:4:5:6:7:", ":1:2:3:4:5:6:7", "1:2:3:4:5:6:7:8:", ":1:2:3:4:5:6:7:8",
		"1:2:3:4:5:6:7:8:9", "1:2:3::4:5:6:7", "1:2:3::4:5:6:7:8", "1:2:3:4:5:6:7::8",
		"01:2:3:4:5:6:7:8", "1:2:3:4:5:6:7:08", "1:2:3:4:5:6:7:00", "1:2:3:4:5:6:7:0000", "0000:2:3:4:5:6:7:8", "1:2:3:0db8:5:6:7:8", "1:2:3:00:5:6:7:8",
		"2001:DB8:0:0:0:0:0:1", "1:2:3:4:5:6:7:A", "1:2:3:4:5:6:7:F", "1:2:3:4:5:6:7:fF",
		"10000:2:3:4:5:6:7:8", "1:2:3:4:5:6:7:10000", "1:2:3:4:5:6:7:fffff", "1:2:3:4:5:6:7:10000000000000001",
		"1:2:3:4:5:6:7:g", "1:2:3:4:5:6:7:`", "1:2:3:4:5:6:7:/", "1:2:3:4:5:6:7:@", "1:2:3:4:5:6:7:a/", "1:2:3:4:5:6:7:-8", "1:2:3:4:5:6:7:+8", "1:2:3:4:5:6:7:0x8", "-1:2:3:4:5:6:7:8",
		" 1:2:3:4:5:6:7:8", "1:2:3:4:5:6:7:8 ", "1:2:3: 4:5:6:7:8", "1:2:3:4:5:6:7:8\n", "1:2:3:4:5:6:7:8\x00", "1.2.3.4.5.6.7.8", "1:2:3:4:5:6:1.2.3.4", "[1:2:3:4:5:6:7:8]", "1:2:3:4:5:6:7:8/64", "1:2:3:4:5:6:7:8%1",
		"\xff:2:3:4:5:6:7:8", "1:2:3:4:5:6:7:\u0661", "1:2:3:4:5:6:7:1_0", "2001;db8;0;0;0;0;0;1",
		strings.Repeat("1:", 1000) + "1", strings.Repeat("1", 1000), strings.Repeat(":", 1000),
	} {
		if a, e := six.Parse(s); a != (api.Six{}) || e != api.ErrForm {
			t.Errorf("Parse(%q) = %v, %d; want 0, %d", s, a, e, api.ErrForm)
		}
	}
}

// P4.1: Parse takes a text if it is Text of some address, and no other: told by texts that are near to some.
func TestParseNearTexts(t *testing.T) {
	r := rand.New(rand.NewPCG(4, 1))
	const signs = "0123456789abcdef:gAF "
	right := 0
	for range 200000 {
		b := []byte(six.Text(random(r)))
		switch at := r.IntN(len(b)); r.IntN(3) {
		case 0:
			b[at] = signs[r.IntN(len(signs))]
		case 1:
			b = append(b[:at], b[at+1:]...)
		case 2:
			b = append(b[:at], append([]byte{signs[r.IntN(len(signs))]}, b[at:]...)...)
		}
		s := string(b)
		want, ok := parsed(s)
		if ok {
			right++
		}
		a, e := six.Parse(s)
		if ok && (a != want || e != api.OK) || !ok && (a != api.Six{} || e != api.ErrForm) {
			t.Fatalf("Parse(%q) = %v, %d; want %v, %t", s, a, e, want, ok)
		}
	}
	if right < 1000 {
		t.Errorf("the test has met %d texts of addresses", right)
	}
}

// parsed is Parse in another way.
func parsed(s string) (api.Six, bool) {
	var a api.Six
	parts := strings.Split(s, ":")
	if len(parts) != 8 {
		return api.Six{}, false
	}
	for i, part := range parts {
		n, err := strconv.ParseUint(part, 16, 16)
		if err != nil || strconv.FormatUint(n, 16) != part {
			return api.Six{}, false
		}
		a[2*i], a[2*i+1] = byte(n/256), byte(n%256)
	}
	return a, true
}

// random is an address that has short words, and 0, as often as long ones.
func random(r *rand.Rand) api.Six {
	var a api.Six
	for i := 0; i < len(a); i += 2 {
		word := r.IntN(1<<16) >> r.IntN(17)
		a[i], a[i+1] = byte(word/256), byte(word%256)
	}
	return a
}

// P4.2: Host.
func TestHost(t *testing.T) {
	for _, c := range []struct {
		a    api.Six
		want bool
	}{
		{api.Six{}, false},
		{api.Six{0xFF}, false},
		{api.Six{0xFF, 2, 15: 1}, false},
		{api.Six(bytes.Repeat([]byte{0xFF}, 16)), false},
		{api.Six{15: 1}, true},
		{api.Six{1: 0xFF}, true},
		{api.Six{1}, true},
		{api.Six{0xFE}, true},
		{api.Six{0xFE, 0x80, 15: 0xFF}, true},
		{api.Six{0x20, 1, 0x0d, 0xb8, 15: 1}, true},
	} {
		if got := six.Host(c.a); got != c.want {
			t.Errorf("Host(%s) is %t", six.Text(c.a), got)
		}
	}
	for i := range 16 {
		var a api.Six
		a[i] = 1
		if !six.Host(a) {
			t.Errorf("Host of 1 at %d alone is false", i)
		}
	}
}

// P4.2: Less: the first byte in which they differ says it, whatever is behind.
func TestLess(t *testing.T) {
	for i := range 16 {
		var a, b api.Six
		for j := range 16 {
			switch {
			case j < i:
				a[j], b[j] = 0x80, 0x80
			case j == i:
				a[j], b[j] = 0x7F, 0x80
			default:
				a[j], b[j] = 0xFF, 0
			}
		}
		if !six.Less(a, b) || six.Less(b, a) {
			t.Errorf("they differ at %d: Less is %t, turned round %t", i, six.Less(a, b), six.Less(b, a))
		}
	}
	for _, c := range known {
		if six.Less(c.a, c.a) {
			t.Errorf("%s is less than itself", c.text)
		}
	}
}

// P4.2: Less of any two is the order of their bytes.
func TestLessOrder(t *testing.T) {
	r := rand.New(rand.NewPCG(4, 2))
	for range 20000 {
		a, b := random(r), random(r)
		copy(b[:r.IntN(17)], a[:])
		if got, want := six.Less(a, b), bytes.Compare(a[:], b[:]) < 0; got != want {
			t.Fatalf("Less(%v, %v) is %t", a, b, got)
		}
	}
}

// P4.2: Of: words that are told, 0 for the others, nothing behind the eighth one.
func TestOf(t *testing.T) {
	for _, c := range []struct {
		words []int
		want  api.Six
	}{
		{nil, api.Six{}},
		{[]int{0x2001}, api.Six{0x20, 1}},
		{[]int{0, 0, 0x0102}, api.Six{4: 1, 5: 2}},
		{[]int{0x2001, 0xdb8, 0, 0, 0, 0, 0, 1}, api.Six{0x20, 1, 0x0d, 0xb8, 15: 1}},
		{[]int{1, 2, 3, 4, 5, 6, 7}, api.Six{0, 1, 0, 2, 0, 3, 0, 4, 0, 5, 0, 6, 0, 7, 0, 0}},
		{[]int{1, 2, 3, 4, 5, 6, 7, 0x0809, 0x0A0B}, api.Six{0, 1, 0, 2, 0, 3, 0, 4, 0, 5, 0, 6, 0, 7, 8, 9}},
		{make([]int, 1000), api.Six{}},
	} {
		if got := six.Of(c.words...); got != c.want {
			t.Errorf("Of(%v) = %v; want %v", c.words, got, c.want)
		}
	}
	if six.Of() != (api.Six{}) {
		t.Error("Of of nothing is not 0")
	}
}

// P4.2: each word modulo 65536, from 0 on.
func TestOfModulo(t *testing.T) {
	for _, c := range []struct {
		word   int
		hi, lo byte
	}{
		{65535, 0xFF, 0xFF}, {65536, 0, 0}, {65537, 0, 1}, {1<<40 + 0x1234, 0x12, 0x34}, {0x1FFFE, 0xFF, 0xFE},
		{-1, 0xFF, 0xFF}, {-2, 0xFF, 0xFE}, {-256, 0xFF, 0}, {-65535, 0, 1}, {-65536, 0, 0}, {-65537, 0xFF, 0xFF},
		{math.MinInt, 0, 0}, {math.MaxInt, 0xFF, 0xFF},
	} {
		want := api.Six{2: c.hi, 3: c.lo, 5: 7}
		if got := six.Of(0, c.word, 7); got != want {
			t.Errorf("Of(0, %d, 7) = %v; want %v", c.word, got, want)
		}
	}
}

// R3: words that are handed in stay as they are.
func TestOfChangesNothing(t *testing.T) {
	words := []int{-1, 65536, 3, 4, 5, 6, 7, 8, 9, 10}
	before := slices.Clone(words)
	six.Of(words[:3]...)
	six.Of(words...)
	if !slices.Equal(words, before) {
		t.Errorf("they are %v now", words)
	}
}

// P4.3: Parse of Text is the address.
func TestParseOfText(t *testing.T) {
	r := rand.New(rand.NewPCG(4, 3))
	for range 50000 {
		a := random(r)
		if got, e := six.Parse(six.Text(a)); got != a || e != api.OK {
			t.Fatalf("Parse(%q) = %v, %d; want %v", six.Text(a), got, e, a)
		}
	}
	for at := range 8 {
		for word := range 1 << 16 {
			var a api.Six
			a[2*at], a[2*at+1] = byte(word>>8), byte(word)
			if got, e := six.Parse(six.Text(a)); got != a || e != api.OK {
				t.Fatalf("Parse(%q) = %v, %d; want %v", six.Text(a), got, e, a)
			}
		}
	}
}
