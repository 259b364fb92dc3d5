package four_test

import (
	"math"
	"math/rand/v2"
	"strconv"
	"strings"
	"testing"

	"goosepond/api"
	"goosepond/four"
)

// ip is the address a.b.c.d.
func ip(a, b, c, d int) int {
	return a<<24 | b<<16 | c<<8 | d
}

// noAddresses are numbers that are no address.
var noAddresses = []int{math.MinInt, -1 << 32, -ip(10, 0, 0, 1), -1, 1 << 32, 1<<32 + ip(10, 0, 0, 1), 1<<40 + ip(8, 8, 8, 8), math.MaxInt}

// known are addresses and their texts.
var known = []struct {
	a    int
	text string
}{
	{0, "0.0.0.0"},
	{1, "0.0.0.1"},
	{255, "0.0.0.255"},
	{256, "0.0.1.0"},
	{ip(1, 2, 3, 4), "1.2.3.4"},
	{0xC0000201, "192.0.2.1"},
	{ip(10, 0, 0, 100), "10.0.0.100"},
	{ip(198, 51, 100, 1), "198.51.100.1"},
	{ip(99, 100, 109, 110), "99.100.109.110"},
	{ip(249, 250, 9, 10), "249.250.9.10"},
	{1<<31 - 1, "127.255.255.255"},
	{1 << 31, "128.0.0.0"},
	{1<<32 - 1, "255.255.255.255"},
}

// P3.1: Right.
func TestRight(t *testing.T) {
	for _, c := range known {
		if !four.Right(c.a) {
			t.Errorf("Right(%#x) is false", c.a)
		}
	}
	for _, a := range noAddresses {
		if four.Right(a) {
			t.Errorf("Right(%d) is true", a)
		}
	}
}

// P3.1: Text of addresses, and of what is none.
func TestText(t *testing.T) {
	for _, c := range known {
		if got := four.Text(c.a); got != c.text {
			t.Errorf("Text(%#x) = %q; want %q", c.a, got, c.text)
		}
	}
	for _, a := range noAddresses {
		if got := four.Text(a); got != "" {
			t.Errorf("Text(%d) = %q", a, got)
		}
	}
}

// P3.1: Parse of the texts of addresses.
func TestParse(t *testing.T) {
	for _, c := range known {
		if a, e := four.Parse(c.text); a != c.a || e != api.OK {
			t.Errorf("Parse(%q) = %#x, %d; want %#x", c.text, a, e, c.a)
		}
	}
}

// P3.1: Parse of what is no address's text: nothing but ErrForm (R2).
func TestParseErrors(t *testing.T) {
	for _, s := range []string{
		"", ".", "...", "....", "0", "1.2.3", "1.2.3.", ".1.2.3", "1..2.3", "1.2.3.4.", ".1.2.3.4", "1.2.3.4.5", "1.2..3.4", "1.2.3..4",
		"192.0.02.1", "192.0.2.01", "00.0.0.0", "0.0.0.00", "0.0.0.000", "01.2.3.4", "1.2.003.4",
		"256.0.0.0", "0.256.0.0", "0.0.256.0", "0.0.0.256", "1.2.3.260", "1.2.3.300", "1.2.3.999", "1.2.3.1000", "1.2.3.4294967300", "1.2.3.18446744073709551620",
		"-1.2.3.4", "1.2.3.-4", "+1.2.3.4", "1.2.3.+4", " 1.2.3.4", "1.2.3.4 ", "1. 2.3.4", "1.2.3.4\n", "1.2.3.4\x00", "\x001.2.3.4",
		"a.b.c.d", "1.2.3.a", "1.2.3.4a", "0x1.2.3.4", "1.2.3.f", "1.2.3./", "1.2.3.:", "1.2.3.1/", "1.2.3.1:", "1,2,3,4", "1:2:3:4", "1.2.3.1_0", "1.2.3.1e1",
		"3221225985", "0xC0000201", "1.2.3.4/32", "1.2.3.4:80", "\xff.2.3.4", "١.٢.٣.٤", "1.2.3.\u00b2", "::1.2.3.4",
		strings.Repeat("1.", 1000) + "1", strings.Repeat("9", 1000), strings.Repeat(".", 1000),
	} {
		if a, e := four.Parse(s); a != 0 || e != api.ErrForm {
			t.Errorf("Parse(%q) = %#x, %d; want 0, %d", s, a, e, api.ErrForm)
		}
	}
}

// P3.1: Parse takes a text if it is Text of some address, and no other: told by texts that are near to some.
func TestParseNearTexts(t *testing.T) {
	r := rand.New(rand.NewPCG(3, 1))
	const signs = "0123456789. -a"
	right := 0
	for range 200000 {
		b := []byte(four.Text(int(r.Uint32())))
		switch at := r.IntN(len(b)); r.IntN(3) {
		case 0:
			b[at] = signs[r.IntN(len(signs))]
		case 1:
			b = append(b[:at], b[at+1:]...)
		case 2:
			b = append(b[:at], append([]byte{signs[r.IntN(len(signs))]}, b[at:]...)...)
		}
		s := string(b)
		want, ok := parsed(s)
		a, e := four.Parse(s)
		if ok {
			right++
		}
		if ok && (a != want || e != api.OK) || !ok && (a != 0 || e != api.ErrForm) {
			t.Fatalf("Parse(%q) = %#x, %d; want %#x, %t", s, a, e, want, ok)
		}
	}
	if right < 1000 {
		t.Errorf("the test has met %d texts of addresses", right)
	}
}

// parsed is Parse in another way.
func parsed(s string) (int, bool) {
	parts := strings.Split(s, ".")
	if len(parts) != 4 {
		return 0, false
	}
	a := 0
	for _, part := range parts {
		n, err := strconv.Atoi(part)
		if err != nil || n < 0 || n > 255 || strconv.Itoa(n) != part {
			return 0, false
		}
		a = a*256 + n
	}
	return a, true
}

// P3.2: Host, on both sides of each bound.
func TestHost(t *testing.T) {
	for _, a := range []int{
		ip(1, 0, 0, 0), ip(1, 0, 0, 1), ip(10, 0, 0, 1), ip(126, 255, 255, 255), ip(128, 0, 0, 0), ip(169, 254, 0, 1),
		ip(192, 0, 0, 2), ip(192, 0, 2, 1), ip(223, 255, 255, 254), ip(223, 255, 255, 255),
	} {
		if !four.Host(a) {
			t.Errorf("Host(%s) is false", four.Text(a))
		}
	}
	for _, a := range []int{
		0, 1, ip(0, 255, 255, 255), ip(127, 0, 0, 0), ip(127, 0, 0, 1), ip(127, 128, 3, 4), ip(127, 255, 255, 255),
		ip(224, 0, 0, 0), ip(224, 0, 0, 1), ip(239, 255, 255, 255), ip(240, 0, 0, 0), ip(255, 255, 255, 255),
	} {
		if four.Host(a) {
			t.Errorf("Host(%s) is true", four.Text(a))
		}
	}
	for _, a := range noAddresses {
		if four.Host(a) {
			t.Errorf("Host(%d) is true: it is no address", a)
		}
	}
}

// P3.2: Private, on both sides of each bound.
func TestPrivate(t *testing.T) {
	for _, a := range []int{
		ip(10, 0, 0, 0), ip(10, 0, 0, 1), ip(10, 128, 0, 0), ip(10, 255, 255, 255),
		ip(172, 16, 0, 0), ip(172, 20, 1, 1), ip(172, 31, 255, 255),
		ip(192, 168, 0, 0), ip(192, 168, 1, 1), ip(192, 168, 255, 255),
	} {
		if !four.Private(a) {
			t.Errorf("Private(%s) is false", four.Text(a))
		}
	}
	for _, a := range []int{
		0, ip(9, 255, 255, 255), ip(11, 0, 0, 0), ip(172, 15, 255, 255), ip(172, 32, 0, 0), ip(172, 0, 0, 0), ip(173, 16, 0, 0),
		ip(192, 167, 255, 255), ip(192, 169, 0, 0), ip(193, 168, 0, 0), ip(127, 0, 0, 1), ip(198, 51, 100, 1), ip(100, 64, 0, 1), 1<<32 - 1,
	} {
		if four.Private(a) {
			t.Errorf("Private(%s) is true", four.Text(a))
		}
	}
	for _, a := range noAddresses {
		if four.Private(a) {
			t.Errorf("Private(%d) is true: it is no address", a)
		}
	}
}

// P3.3: Parse of Text is the address.
func TestParseOfText(t *testing.T) {
	r := rand.New(rand.NewPCG(3, 3))
	for range 100000 {
		a := int(r.Uint32()) >> r.IntN(32)
		if got, e := four.Parse(four.Text(a)); got != a || e != api.OK {
			t.Fatalf("Parse(%q) = %#x, %d; want %#x", four.Text(a), got, e, a)
		}
	}
	for at := range 4 {
		for x := range 256 {
			a := x << (8 * at)
			if got, e := four.Parse(four.Text(a)); got != a || e != api.OK {
				t.Fatalf("Parse(%q) = %#x, %d; want %#x", four.Text(a), got, e, a)
			}
		}
	}
}
