package cmd_test

import (
	"fmt"
	"math"
	"math/rand/v2"
	"regexp"
	"strconv"
	"strings"
	"testing"

	"goosepond/api"
	"goosepond/cmd"
	"goosepond/four"
)

// ip is the address a.b.c.d.
func ip(a, b, c, d int) int {
	return a<<24 | b<<16 | c<<8 | d
}

// known are commands and the words that say them.
var known = []struct {
	words string
	c     cmd.Command
}{
	{"show", cmd.Command{Verb: cmd.Show}},
	{"flush 0", cmd.Command{Verb: cmd.Flush}},
	{"flush 1", cmd.Command{Verb: cmd.Flush, Inner: api.Inner{Softwire: 1}}},
	{"flush 63", cmd.Command{Verb: cmd.Flush, Inner: api.Inner{Softwire: 63}}},
	{"unmap 0 icmp 0.0.0.0 0", cmd.Command{Verb: cmd.Unmap, Inner: api.Inner{Proto: 1}}},
	{"unmap 7 tcp 10.0.0.1 80", cmd.Command{Verb: cmd.Unmap, Inner: api.Inner{Softwire: 7, Proto: 6, Addr: ip(10, 0, 0, 1), Port: 80}}},
	{"unmap 63 udp 255.255.255.255 65535", cmd.Command{Verb: cmd.Unmap, Inner: api.Inner{Softwire: 63, Proto: 17, Addr: 1<<32 - 1, Port: 65535}}},
	{"map 0 udp 10.0.0.1 80 198.51.100.1 8080", cmd.Command{Verb: cmd.Map,
		Inner: api.Inner{Proto: 17, Addr: ip(10, 0, 0, 1), Port: 80},
		Outer: api.Outer{Proto: 17, Addr: ip(198, 51, 100, 1), Port: 8080}}},
	{"map 0 icmp 0.0.0.0 0 0.0.0.0 0", cmd.Command{Verb: cmd.Map, Inner: api.Inner{Proto: 1}, Outer: api.Outer{Proto: 1}}},
	{"map 63 tcp 255.255.255.255 65535 255.255.255.255 65535", cmd.Command{Verb: cmd.Map,
		Inner: api.Inner{Softwire: 63, Proto: 6, Addr: 1<<32 - 1, Port: 65535},
		Outer: api.Outer{Proto: 6, Addr: 1<<32 - 1, Port: 65535}}},
}

// P35.1: Number of digits, up to the most that there may be.
func TestNumber(t *testing.T) {
	for _, c := range []struct {
		s    string
		most int
		want int
	}{
		{"0", 0, 0}, {"0", 5, 0}, {"0", math.MaxInt, 0},
		{"1", 1, 1}, {"9", 9, 9}, {"9", 10, 9}, {"10", 10, 10}, {"63", 63, 63}, {"65535", 65535, 65535},
		{"100", 100, 100}, {"1000000000", 1000000000, 1000000000}, {"1234567890", math.MaxInt, 1234567890},
		{"4294967296", math.MaxInt, 4294967296}, {"9999999999", 9999999999, 9999999999}, {"9999999999", math.MaxInt, 9999999999},
	} {
		if n, ok := cmd.Number(c.s, c.most); n != c.want || !ok {
			t.Errorf("Number(%q, %d) = %d, %t; want %d", c.s, c.most, n, ok, c.want)
		}
	}
}

// P35.1: Number of what is none, or above the most.
func TestNumberNone(t *testing.T) {
	for _, s := range []string{
		"", "00", "01", "000", "0000000000", "00000000001", "063", "-0", "-1", "+1", "+0", " 1", "1 ", "1 2", "1\n", "\t1", "1\x00", "\x00",
		"a", "1a", "a1", "0x1", "0b1", "1_0", "1e1", "1.0", ".1", "1,0", "/", ":", "1/", "1:", "/1", ":1",
		"10000000000", "12345678901", "99999999999", "18446744073709551616", strings.Repeat("9", 300),
		"\xb2", "²", "١", "１",
	} {
		if n, ok := cmd.Number(s, math.MaxInt); n != 0 || ok {
			t.Errorf("Number(%q, the greatest) = %d, %t", s, n, ok)
		}
	}
	for _, c := range []struct {
		s    string
		most int
	}{
		{"0", -1}, {"0", math.MinInt}, {"1", 0}, {"1", -1}, {"2", 1}, {"64", 63}, {"65536", 65535}, {"9999999999", 9999999998}, {"9999999999", 9},
	} {
		if n, ok := cmd.Number(c.s, c.most); n != 0 || ok {
			t.Errorf("Number(%q, %d) = %d, %t", c.s, c.most, n, ok)
		}
	}
}

// P35.1: Proto of the words, and of no other.
func TestProto(t *testing.T) {
	for s, want := range map[string]int{"icmp": 1, "tcp": 6, "udp": 17} {
		if n, ok := cmd.Proto(s); n != want || !ok {
			t.Errorf("Proto(%q) = %d, %t; want %d", s, n, ok, want)
		}
	}
	for _, s := range []string{
		"", " ", "ip", "icmp6", "icm", "cmp", "tc", "tcpp", "ud", "dp", "udp ", " udp", "udp\n", "udp\x00", "UDP", "Tcp", "ICMP", "tcp udp", "1", "6", "17", "show", "\xff",
	} {
		if n, ok := cmd.Proto(s); n != 0 || ok {
			t.Errorf("Proto(%q) = %d, %t", s, n, ok)
		}
	}
}

// P35.1: the verbs, as the chapter counts them.
func TestVerbs(t *testing.T) {
	if got := [...]int{cmd.Flush, cmd.Map, cmd.Unmap, cmd.Show}; got != [...]int{1, 2, 3, 4} {
		t.Errorf("the verbs are %v", got)
	}
}

// P35.1: Parse of what may be said.
func TestParse(t *testing.T) {
	for _, k := range known {
		if c, e := cmd.Parse(k.words); c != k.c || e != api.OK {
			t.Errorf("Parse(%q) = %v, %d; want %v", k.words, c, e, k.c)
		}
	}
}

// wrong are words that say nothing.
var wrong = []string{
	"", " ", "  ", "sho", "shows", "Show", "SHOW", " show", "show ", "show  ", "show\n", "show\t", "show\x00", "show 0", "show show", "hide", "0",
	"flush", "flush ", "flush  0", " flush 0", "flush 0 ", "flush 0 0", "flush\t0", "flush 64", "flush 100", "flush -1", "flush 00", "flush 01", "flush a", "flush +1", "flush 0 udp 10.0.0.1 80", "Flush 0", "flush0",
	"flush 4294967296", "flush 18446744073709551616",
	"unmap", "unmap 0", "unmap 0 udp", "unmap 0 udp 10.0.0.1", "unmap 0 udp 10.0.0.1 ", "unmap 0 udp 10.0.0.1 80 ", "unmap 0 udp 10.0.0.1 80 198.51.100.1 8080",
	"unmap 64 udp 10.0.0.1 80", "unmap -1 udp 10.0.0.1 80", "unmap 0 17 10.0.0.1 80", "unmap 0 UDP 10.0.0.1 80", "unmap 0 ip 10.0.0.1 80",
	"unmap 0 udp 10.0.0 80", "unmap 0 udp 10.0.0.01 80", "unmap 0 udp 10.0.0.256 80", "unmap 0 udp 167772161 80", "unmap 0 udp 10.0.0.1:80",
	"unmap 0 udp 10.0.0.1 65536", "unmap 0 udp 10.0.0.1 -1", "unmap 0 udp 10.0.0.1 080", "unmap 0 udp 10.0.0.1 http", "unmap  0 udp 10.0.0.1 80", "unmap 0 udp 10.0.0.1  80", "unmap 0  10.0.0.1 80",
	"map", "map 0", "map 0 udp 10.0.0.1 80", "map 0 udp 10.0.0.1 80 198.51.100.1", "map 0 udp 10.0.0.1 80 198.51.100.1 8080 ", "map 0 udp 10.0.0.1 80 198.51.100.1 8080 0",
	"map 64 udp 10.0.0.1 80 198.51.100.1 8080", "map 0 sctp 10.0.0.1 80 198.51.100.1 8080", "map 0 udp 10.0.0.1 65536 198.51.100.1 8080",
	"map 0 udp 10.0.0.1 80 198.51.100 8080", "map 0 udp 10.0.0.1 80 198.51.100.1 65536", "map 0 udp 10.0.0.1 80 198.51.100.1 08080", "map 0 udp 10.0.0.1 80 udp 198.51.100.1 8080",
	"map 0 udp 10.0.0.1 80  198.51.100.1 8080", "map 0 udp 256.0.0.1 80 198.51.100.1 8080", "map 0 udp 10.0.0.1 80 256.51.100.1 8080", "map 0 udp 10.0.0.1 80 198.51.100.1 -1",
	"map\u00a00 udp 10.0.0.1 80 198.51.100.1 8080", "\xff\xfe", "map 0 udp 10.0.0.1 80 198.51.100.1 8080\n",
}

// P35.1: Parse of what may not be said: nothing but ErrWord (R2).
func TestParseErrors(t *testing.T) {
	for _, s := range wrong {
		if c, e := cmd.Parse(s); c != (cmd.Command{}) || e != api.ErrWord {
			t.Errorf("Parse(%q) = %v, %d; want nothing, %d", s, c, e, api.ErrWord)
		}
	}
}

// P35.1: ErrLong of more than 200 bytes, ahead of ErrWord, whatever stands in them.
func TestParseLong(t *testing.T) {
	for _, c := range []struct {
		s    string
		want api.Errno
	}{
		{strings.Repeat("a", 200), api.ErrWord}, {strings.Repeat(" ", 200), api.ErrWord}, {"show" + strings.Repeat(" ", 196), api.ErrWord},
		{"flush " + strings.Repeat("0", 194), api.ErrWord}, {strings.Repeat("\u00e9", 100), api.ErrWord},
		{strings.Repeat("a", 201), api.ErrLong}, {strings.Repeat(" ", 201), api.ErrLong}, {"show" + strings.Repeat(" ", 197), api.ErrLong},
		{"flush " + strings.Repeat("0", 195), api.ErrLong}, {strings.Repeat("\u00e9", 101), api.ErrLong}, // bytes count, not letters
		{"map 0 udp 10.0.0.1 80 198.51.100.1 8080" + strings.Repeat("\x00", 1<<20), api.ErrLong},
	} {
		if got, e := cmd.Parse(c.s); got != (cmd.Command{}) || e != c.want {
			t.Errorf("Parse of %d bytes = %v, %d; want nothing, %d", len(c.s), got, e, c.want)
		}
	}
}

// said is what may be said, in another way than cmd's.
var said = func() *regexp.Regexp {
	softwire := `([0-9]|[1-5][0-9]|6[0-3])`
	octet := `(?:[0-9]|[1-9][0-9]|1[0-9][0-9]|2[0-4][0-9]|25[0-5])`
	port := `(0|[1-9][0-9]{0,3}|[1-5][0-9]{4}|6[0-4][0-9]{3}|65[0-4][0-9]{2}|655[0-2][0-9]|6553[0-5])`
	address := `(` + octet + `\.` + octet + `\.` + octet + `\.` + octet + `)`
	inner := softwire + ` (icmp|tcp|udp) ` + address + ` ` + port
	return regexp.MustCompile(`\A(?:show|flush ` + softwire + `|unmap ` + inner + `|map ` + inner + ` ` + address + ` ` + port + `)\z`)
}()

// parsed is Parse in another way.
func parsed(s string) (cmd.Command, api.Errno) {
	if len(s) > 200 {
		return cmd.Command{}, api.ErrLong
	}
	m := said.FindStringSubmatch(s)
	if m == nil {
		return cmd.Command{}, api.ErrWord
	}
	number := func(i int) int {
		n, _ := strconv.Atoi(m[i])
		return n
	}
	address := func(i int) int {
		var a, b, c, d int
		fmt.Sscanf(m[i], "%d.%d.%d.%d", &a, &b, &c, &d)
		return ip(a, b, c, d)
	}
	protos := map[string]int{"icmp": 1, "tcp": 6, "udp": 17}
	switch s[0] {
	case 's':
		return cmd.Command{Verb: 4}, api.OK
	case 'f':
		return cmd.Command{Verb: 1, Inner: api.Inner{Softwire: number(1)}}, api.OK
	case 'u':
		return cmd.Command{Verb: 3, Inner: api.Inner{Softwire: number(2), Proto: protos[m[3]], Addr: address(4), Port: number(5)}}, api.OK
	}
	return cmd.Command{
		Verb:  2,
		Inner: api.Inner{Softwire: number(6), Proto: protos[m[7]], Addr: address(8), Port: number(9)},
		Outer: api.Outer{Proto: protos[m[7]], Addr: address(10), Port: number(11)},
	}, api.OK
}

// P35.1: Parse takes what may be said, and nothing else: told by words that are near to that.
func TestParseNearWords(t *testing.T) {
	r := rand.New(rand.NewPCG(35, 1))
	const signs = "0123456789. -amuptcifl"
	right := 0
	for range 300000 {
		b := []byte(sprint(someCommand(r)))
		for range r.IntN(3) {
			switch at := r.IntN(len(b)); r.IntN(3) {
			case 0:
				b[at] = signs[r.IntN(len(signs))]
			case 1:
				b = append(b[:at], b[at+1:]...)
			case 2:
				b = append(b[:at], append([]byte{signs[r.IntN(len(signs))]}, b[at:]...)...)
			}
		}
		s := string(b)
		want, wantE := parsed(s)
		if wantE == api.OK {
			right++
		}
		if c, e := cmd.Parse(s); c != want || e != wantE {
			t.Fatalf("Parse(%q) = %v, %d; want %v, %d", s, c, e, want, wantE)
		}
	}
	if right < 50000 || right > 250000 {
		t.Errorf("the test has met %d words that may be said", right)
	}
}

// someCommand is one that may be.
func someCommand(r *rand.Rand) cmd.Command {
	number := func(most int) int {
		switch r.IntN(8) {
		case 0:
			return most
		case 1:
			return 0
		case 2:
			return r.IntN(min(most, 10))
		}
		return r.IntN(most + 1)
	}
	c := cmd.Command{Verb: 1 + r.IntN(4)}
	if c.Verb != cmd.Show {
		c.Inner.Softwire = number(63)
	}
	if c.Verb == cmd.Map || c.Verb == cmd.Unmap {
		c.Inner.Proto = [...]int{1, 6, 17}[r.IntN(3)]
		c.Inner.Addr, c.Inner.Port = number(1<<32-1), number(65535)
	}
	if c.Verb == cmd.Map {
		c.Outer = api.Outer{Proto: c.Inner.Proto, Addr: number(1<<32 - 1), Port: number(65535)}
	}
	return c
}

// sprint is the words of a command that may be, in another way than cmd's.
func sprint(c cmd.Command) string {
	in, out := c.Inner, c.Outer
	inner := fmt.Sprintf("%d %s %s %d", in.Softwire, map[int]string{1: "icmp", 6: "tcp", 17: "udp"}[in.Proto], four.Text(in.Addr), in.Port)
	switch c.Verb {
	case cmd.Flush:
		return fmt.Sprintf("flush %d", in.Softwire)
	case cmd.Map:
		return fmt.Sprintf("map %s %s %d", inner, four.Text(out.Addr), out.Port)
	case cmd.Unmap:
		return "unmap " + inner
	}
	return "show"
}

// may tells whether a command may be, by the chapter's words.
func may(c cmd.Command) bool {
	softwire := 0 <= c.Inner.Softwire && c.Inner.Softwire <= 63
	protos := c.Inner.Proto == 1 || c.Inner.Proto == 6 || c.Inner.Proto == 17
	end := func(addr, port int) bool { return four.Right(addr) && 0 <= port && port <= 65535 }
	switch c.Verb {
	case cmd.Flush:
		return softwire && c.Inner == api.Inner{Softwire: c.Inner.Softwire} && c.Outer == api.Outer{}
	case cmd.Map:
		return softwire && protos && end(c.Inner.Addr, c.Inner.Port) && c.Outer.Proto == c.Inner.Proto && end(c.Outer.Addr, c.Outer.Port)
	case cmd.Unmap:
		return softwire && protos && end(c.Inner.Addr, c.Inner.Port) && c.Outer == api.Outer{}
	case cmd.Show:
		return c == cmd.Command{Verb: cmd.Show}
	}
	return false
}

// P35.2: Print of what may be said.
func TestPrint(t *testing.T) {
	for _, k := range known {
		if s, e := cmd.Print(k.c); s != k.words || e != api.OK {
			t.Errorf("Print(%v) = %q, %d; want %q", k.c, s, e, k.words)
		}
	}
}

// fields are a command's numbers behind its verb.
func fields(c *cmd.Command) []*int {
	return []*int{&c.Inner.Softwire, &c.Inner.Proto, &c.Inner.Addr, &c.Inner.Port, &c.Outer.Proto, &c.Outer.Addr, &c.Outer.Port}
}

// P35.2: Print, whatever number stands in each field of each verb's command: the words if it may be said, else nothing but ErrArg (R2).
func TestPrintFields(t *testing.T) {
	many := map[api.Errno]int{}
	for _, k := range known {
		for i := range fields(&cmd.Command{}) {
			for _, n := range []int{
				math.MinInt, -1 << 32, -65536, -1, 0, 1, 2, 5, 6, 7, 16, 17, 18, 58, 62, 63, 64, 255, 256, 65534, 65535, 65536,
				1<<32 - 1, 1 << 32, 1<<32 + 1, 9999999999, 10000000000, math.MaxInt,
			} {
				c := k.c
				*fields(&c)[i] = n
				want, wantE := "", api.ErrArg
				if may(c) {
					want, wantE = sprint(c), api.OK
				}
				many[wantE]++
				if s, e := cmd.Print(c); s != want || e != wantE {
					t.Errorf("Print(%v) = %q, %d; want %q, %d", c, s, e, want, wantE)
				}
			}
		}
	}
	if many[api.OK] < 100 || many[api.ErrArg] < 100 {
		t.Errorf("the test has met %v", many)
	}
}

// P35.2: Print of what is no verb.
func TestPrintNoVerb(t *testing.T) {
	for _, verb := range []int{math.MinInt, -4, -1, 0, 5, 6, 256, 257, 1 << 32, 1<<32 + 1, math.MaxInt} {
		for _, k := range known {
			c := k.c
			c.Verb = verb
			if s, e := cmd.Print(c); s != "" || e != api.ErrArg {
				t.Errorf("Print(%v) = %q, %d; want nothing, %d", c, s, e, api.ErrArg)
			}
		}
		if s, e := cmd.Print(cmd.Command{Verb: verb}); s != "" || e != api.ErrArg {
			t.Errorf("Print of the verb %d = %q, %d; want nothing, %d", verb, s, e, api.ErrArg)
		}
	}
}

// P35.2: a command of one verb is not said by another one's words, unless it may be.
func TestPrintOtherVerbs(t *testing.T) {
	for _, k := range known {
		for verb := cmd.Flush; verb <= cmd.Show; verb++ {
			c := k.c
			c.Verb = verb
			want, wantE := "", api.ErrArg
			if may(c) {
				want, wantE = sprint(c), api.OK
			}
			if s, e := cmd.Print(c); s != want || e != wantE {
				t.Errorf("Print(%v) = %q, %d; want %q, %d", c, s, e, want, wantE)
			}
		}
	}
}

// P35.3: Parse of Print is the command; and Print's words are the ones that another way makes.
func TestParseOfPrint(t *testing.T) {
	r := rand.New(rand.NewPCG(35, 3))
	for range 200000 {
		c := someCommand(r)
		s, e := cmd.Print(c)
		if e != api.OK || s != sprint(c) {
			t.Fatalf("Print(%v) = %q, %d; want %q", c, s, e, sprint(c))
		}
		if got, e := cmd.Parse(s); got != c || e != api.OK {
			t.Fatalf("Parse(%q) = %v, %d; want %v", s, got, e, c)
		}
	}
}

// P35.3: Print of Parse is the words, since there is one way alone to say something.
func TestPrintOfParse(t *testing.T) {
	for _, k := range known {
		c, _ := cmd.Parse(k.words)
		if s, e := cmd.Print(c); s != k.words || e != api.OK {
			t.Errorf("Print of Parse(%q) = %q, %d", k.words, s, e)
		}
	}
	for _, s := range wrong {
		if c, _ := cmd.Parse(s); c != (cmd.Command{}) {
			t.Errorf("Parse(%q) = %v", s, c)
		}
	}
}
