package pool_test

import (
	"fmt"
	"iter"
	"math"
	"math/rand/v2"
	"slices"
	"testing"

	"goosepond/api"
	"goosepond/four"
	"goosepond/pool"
)

const (
	icmp, tcp, udp = 1, 6, 17

	one   = 0xC6336401 // 198.51.100.1
	two   = 0xC6336402
	three = 0xC6336403
)

// out is an outer endpoint.
func out(proto, addr, port int) api.Outer {
	return api.Outer{Proto: proto, Addr: addr, Port: port}
}

// made is New of what may be.
func made(t *testing.T, lo, hi int, addrs ...int) *pool.Pool {
	t.Helper()
	p, e := pool.New(addrs, lo, hi)
	if e != api.OK || p == nil {
		t.Fatalf("New(%v, %d, %d) = %v, %d", addrs, lo, hi, p, e)
	}
	return p
}

// keep keeps these, all of which must be taken.
func keep(t *testing.T, p *pool.Pool, l ...api.Outer) {
	t.Helper()
	for _, o := range l {
		if e := p.Keep(o); e != api.OK {
			t.Fatalf("Keep(%v) = %d", o, e)
		}
	}
}

// takes fails unless Take answers these, one behind the other.
func takes(t *testing.T, p *pool.Pool, proto, want, first int, l ...api.Outer) {
	t.Helper()
	for _, o := range l {
		if got, e := p.Take(proto, want, first); got != o || e != api.OK {
			t.Errorf("Take(%d, %d, %d) = %v, %d; want %v", proto, want, first, got, e, o)
		}
	}
}

// refuses fails unless Take answers this error, and nothing beside it.
func refuses(t *testing.T, p *pool.Pool, proto, want, first int, e api.Errno) {
	t.Helper()
	if got, f := p.Take(proto, want, first); got != (api.Outer{}) || f != e {
		t.Errorf("Take(%d, %d, %d) = %v, %d; want %d", proto, want, first, got, f, e)
	}
}

// tried are the ports that an iterator goes through.
func tried(all iter.Seq[int]) []int { return slices.Collect(all) }

// tries is what Wants tells, as the document has it: each rule goes through all ports from one on, and tells those that none told ahead.
func tries(lo, hi, proto, want int) (l []int) {
	const ports = 65536
	want = (want%ports + ports) % ports
	told := map[int]bool{}
	rule := func(from int, fits func(port int) bool) {
		for port := max(from, lo); port <= hi; port++ {
			if fits(port) && !told[port] {
				told[port] = true
				l = append(l, port)
			}
		}
	}
	parity := func(port int) bool { return port%2 == want%2 }
	near := func(port int) bool { return parity(port) && (port < 1024) == (want < 1024) }
	switch proto {
	case icmp, tcp, udp:
		rule(0, func(port int) bool { return port == want })
	default:
		return nil
	}
	if proto != icmp {
		rule(want+1, near)
		rule(lo, near)
		rule(0, parity)
	}
	rule(0, func(int) bool { return true })
	return l
}

// P19.2, P19.3: the chapter's example.
func TestExample(t *testing.T) {
	p := made(t, 1024, 2000, one)
	takes(t, p, udp, 5000, 0, out(udp, one, 1024))
	if p.Used() != 1 {
		t.Errorf("Used = %d", p.Used())
	}
}

// P19.1: what New takes, and what it refuses.
func TestNew(t *testing.T) {
	var most []int
	for i := range api.MaxPool {
		most = append(most, one+i)
	}
	for _, c := range []struct {
		name   string
		addrs  []int
		lo, hi int
		want   api.Errno
	}{
		{"one", []int{one}, 1024, 65535, api.OK},
		{"two", []int{two, one}, 1024, 65535, api.OK},
		{"the most", most, 1024, 65535, api.OK},
		{"all ports", []int{one}, 1, 65535, api.OK},
		{"the least port alone", []int{one}, 1, 1, api.OK},
		{"the greatest port alone", []int{one}, 65535, 65535, api.OK},
		{"the least host", []int{0x01000000}, 1, 1, api.OK},
		{"the greatest host", []int{0xDFFFFFFF}, 1, 1, api.OK},
		{"a private host", []int{0x0A000001}, 1, 1, api.OK},
		{"nil", nil, 1024, 65535, api.ErrArg},
		{"none", []int{}, 1024, 65535, api.ErrArg},
		{"too many", append(slices.Clone(most), one-1), 1024, 65535, api.ErrArg},
		{"address 0", []int{0}, 1024, 65535, api.ErrArg},
		{"address -1", []int{-1}, 1024, 65535, api.ErrArg},
		{"loopback", []int{one, 0x7F000001}, 1024, 65535, api.ErrArg},
		{"a group", []int{0xE0000000, one}, 1024, 65535, api.ErrArg},
		{"no address", []int{1 << 32}, 1024, 65535, api.ErrArg},
		{"the first one is none", []int{0x00FFFFFF, one}, 1024, 65535, api.ErrArg},
		{"two the same", []int{one, one}, 1024, 65535, api.ErrArg},
		{"two the same, apart", []int{one, two, three, one}, 1024, 65535, api.ErrArg},
		{"lo 0", []int{one}, 0, 65535, api.ErrArg},
		{"lo -1", []int{one}, -1, 65535, api.ErrArg},
		{"lo above hi", []int{one}, 2001, 2000, api.ErrArg},
		{"hi too great", []int{one}, 1024, 65536, api.ErrArg},
		{"both too great", []int{one}, 65536, 65536, api.ErrArg},
		{"both 0", []int{one}, 0, 0, api.ErrArg},
		{"the least and the greatest", []int{one}, math.MinInt, math.MaxInt, api.ErrArg},
	} {
		p, e := pool.New(c.addrs, c.lo, c.hi)
		if e != c.want || (p == nil) != (e != api.OK) {
			t.Errorf("%s: New(%v, %d, %d) = %v, %d; want %d", c.name, c.addrs, c.lo, c.hi, p, e, c.want)
		}
		if e == api.OK && p.Used() != 0 {
			t.Errorf("%s: Used = %d of a new one", c.name, p.Used())
		}
	}
}

// P19.1: whom it has.
func TestHas(t *testing.T) {
	p := made(t, 1024, 65535, one, three)
	for addr, want := range map[int]bool{one: true, three: true, two: false, 0: false, -1: false, one + 1<<32: false, math.MinInt: false} {
		if p.Has(addr) != want {
			t.Errorf("Has(%#x) = %v", addr, !want)
		}
	}
	takes(t, p, udp, 5000, 0, out(udp, one, 5000))
	if !p.Has(one) {
		t.Error("Has of one of which a port is given out")
	}
}

// P19.2: the ports that are tried, as they are written out.
func TestWants(t *testing.T) {
	for _, c := range []struct {
		name                string
		lo, hi, proto, want int
		tried               []int
	}{
		{"TCP", 2000, 2007, tcp, 2003, []int{2003, 2005, 2007, 2001, 2000, 2002, 2004, 2006}},
		{"UDP", 2000, 2007, udp, 2003, []int{2003, 2005, 2007, 2001, 2000, 2002, 2004, 2006}},
		{"ICMP", 2000, 2007, icmp, 2003, []int{2003, 2000, 2001, 2002, 2004, 2005, 2006, 2007}},
		{"even", 2000, 2007, udp, 2004, []int{2004, 2006, 2000, 2002, 2001, 2003, 2005, 2007}},
		{"the first one", 2000, 2004, udp, 2000, []int{2000, 2002, 2004, 2001, 2003}},
		{"the last one", 2000, 2004, udp, 2004, []int{2004, 2000, 2002, 2001, 2003}},
		{"ICMP, the first one", 2000, 2003, icmp, 2000, []int{2000, 2001, 2002, 2003}},
		{"ICMP, the last one", 2000, 2003, icmp, 2003, []int{2003, 2000, 2001, 2002}},
		{"above hi", 2000, 2005, udp, 5000, []int{2000, 2002, 2004, 2001, 2003, 2005}},
		{"above hi, odd", 2000, 2005, udp, 5001, []int{2001, 2003, 2005, 2000, 2002, 2004}},
		{"one above hi", 2000, 2005, udp, 2006, []int{2000, 2002, 2004, 2001, 2003, 2005}},
		{"below lo", 2000, 2005, udp, 1500, []int{2000, 2002, 2004, 2001, 2003, 2005}},
		{"one below lo", 2000, 2005, udp, 1999, []int{2001, 2003, 2005, 2000, 2002, 2004}},
		{"ICMP above hi", 2000, 2003, icmp, 5001, []int{2000, 2001, 2002, 2003}},
		{"ICMP below lo", 2000, 2003, icmp, 1, []int{2000, 2001, 2002, 2003}},
		{"of the other class", 1024, 1027, udp, 53, []int{1025, 1027, 1024, 1026}},
		{"both classes, low", 1020, 1027, udp, 1021, []int{1021, 1023, 1025, 1027, 1020, 1022, 1024, 1026}},
		{"both classes, low, behind want first", 1019, 1027, udp, 1021, []int{1021, 1023, 1019, 1025, 1027, 1020, 1022, 1024, 1026}},
		{"both classes, the last one of the low", 1020, 1027, udp, 1023, []int{1023, 1021, 1025, 1027, 1020, 1022, 1024, 1026}},
		{"both classes, the first one of the high", 1020, 1027, udp, 1024, []int{1024, 1026, 1020, 1022, 1021, 1023, 1025, 1027}},
		{"both classes, high", 1020, 1029, udp, 1026, []int{1026, 1028, 1024, 1020, 1022, 1021, 1023, 1025, 1027, 1029}},
		{"both classes, above hi", 1020, 1027, udp, 5000, []int{1024, 1026, 1020, 1022, 1021, 1023, 1025, 1027}},
		{"both classes, below lo", 1020, 1027, udp, 500, []int{1020, 1022, 1024, 1026, 1021, 1023, 1025, 1027}},
		{"all of the low class", 1020, 1023, udp, 5000, []int{1020, 1022, 1021, 1023}},
		{"want 0", 1, 4, udp, 0, []int{2, 4, 1, 3}},
		{"want 0, ICMP", 1, 4, icmp, 0, []int{1, 2, 3, 4}},
		{"want 65535", 65530, 65535, udp, 65535, []int{65535, 65531, 65533, 65530, 65532, 65534}},
		{"want -1 is 65535", 65530, 65535, udp, -1, []int{65535, 65531, 65533, 65530, 65532, 65534}},
		{"want -1 is 65535, ICMP", 65533, 65535, icmp, -1, []int{65535, 65533, 65534}},
		{"want 65536 is 0", 1, 4, udp, 65536, []int{2, 4, 1, 3}},
		{"want 67539 is 2003", 2000, 2007, udp, 65536 + 2003, []int{2003, 2005, 2007, 2001, 2000, 2002, 2004, 2006}},
		{"want is of the low class by 65536", 1020, 1025, tcp, -65536*3 + 1020, []int{1020, 1022, 1024, 1021, 1023, 1025}},
		{"one port", 2000, 2000, udp, 2000, []int{2000}},
		{"one port, another want", 2000, 2000, udp, 2001, []int{2000}},
		{"one port, ICMP", 2000, 2000, icmp, 7, []int{2000}},
		{"another protocol", 2000, 2007, 2, 2003, nil},
		{"no protocol", 2000, 2007, 0, 2003, nil},
		{"protocol -1", 2000, 2007, -1, 2003, nil},
		{"protocol 4", 2000, 2007, 4, 2003, nil},
		{"protocol 58", 2000, 2007, 58, 2003, nil},
		{"protocol 17 by 256", 2000, 2007, 256 + 17, 2003, nil},
	} {
		all := made(t, c.lo, c.hi, one, two).Wants(c.proto, c.want)
		for range 2 {
			if l := tried(all); !slices.Equal(l, c.tried) {
				t.Errorf("%s: Wants(%d, %d) = %v; want %v", c.name, c.proto, c.want, l, c.tried)
			}
		}
	}
}

// P19.2: whatever the pool's ports are, and whichever one is wanted.
func TestWantsMany(t *testing.T) {
	r := rand.New(rand.NewPCG(19, 1))
	wants := []int{math.MinInt, math.MaxInt, math.MinInt + 1, math.MaxInt - 1, 0, 1, 1022, 1023, 1024, 1025, 65534, 65535}
	for i := range 2000 {
		lo := 1 + r.IntN(65535)
		if i%2 == 0 {
			lo = 1000 + r.IntN(48)
		}
		hi := min(65535, lo+r.IntN(40))
		want := lo - 20 + r.IntN(80)
		if i%10 == 0 {
			want = wants[r.IntN(len(wants))]
		}
		p := made(t, lo, hi, one)
		for _, proto := range []int{icmp, tcp, udp, 58} {
			if l, m := tried(p.Wants(proto, want)), tries(lo, hi, proto, want); !slices.Equal(l, m) {
				t.Fatalf("lo %d, hi %d: Wants(%d, %d) = %v; want %v", lo, hi, proto, want, l, m)
			}
		}
	}
	for _, want := range append(wants, 5000, 53) {
		for _, proto := range []int{icmp, udp} {
			if !slices.Equal(tried(made(t, 1, 65535, one).Wants(proto, want)), tries(1, 65535, proto, want)) {
				t.Errorf("all ports: Wants(%d, %d)", proto, want)
			}
		}
	}
}

// P19.2, R7: who ends early is told no more; what is given out is tried all the same.
func TestWantsEarly(t *testing.T) {
	p := made(t, 2000, 2007, one)
	takes(t, p, udp, 2003, 0, out(udp, one, 2003), out(udp, one, 2005))
	all := p.Wants(udp, 2003)
	for n, want := range [][]int{{2003}, {2003, 2005}, {2003, 2005, 2007}, {2003, 2005, 2007, 2001}, {2003, 2005, 2007, 2001, 2000}} {
		var l []int
		for port := range all {
			if l = append(l, port); len(l) > n {
				break
			}
		}
		if !slices.Equal(l, want) {
			t.Errorf("Wants = %v; want %v", l, want)
		}
	}
	if p.Used() != 2 {
		t.Errorf("Used = %d", p.Used())
	}
}

// P19.3: what Take gives out, and in which order.
func TestTake(t *testing.T) {
	p := made(t, 2000, 2003, one, two)
	takes(t, p, udp, 2001, 0,
		out(udp, one, 2001), out(udp, one, 2003), out(udp, one, 2000), out(udp, one, 2002),
		out(udp, two, 2001), out(udp, two, 2003), out(udp, two, 2000), out(udp, two, 2002))
	refuses(t, p, udp, 2001, 0, api.ErrRange)
	refuses(t, p, udp, 2001, 1, api.ErrRange)
	if p.Used() != 8 {
		t.Errorf("Used = %d", p.Used())
	}
	takes(t, p, tcp, 2001, 1, out(tcp, two, 2001), out(tcp, two, 2003))
	takes(t, p, icmp, 2002, 1, out(icmp, two, 2002), out(icmp, two, 2000), out(icmp, two, 2001), out(icmp, two, 2003), out(icmp, one, 2002))
	if !p.Free(out(udp, one, 2000)) {
		t.Error("Free of what is given out")
	}
	takes(t, p, udp, 2001, 1, out(udp, one, 2000))
	refuses(t, p, udp, 2001, 1, api.ErrRange)
	if p.Used() != 15 {
		t.Errorf("Used = %d", p.Used())
	}
}

// P19.3: at which address Take begins.
func TestTakeFirst(t *testing.T) {
	for first, addr := range map[int]int{
		0: one, 1: two, 2: three, 3: one, 4: two, 5: three, 300: one,
		-1: three, -2: two, -3: one, -4: three, -300: one,
		math.MaxInt: two, math.MinInt: two, // 2^63 - 1 is 1 modulo 3, -2^63 is 1
	} {
		takes(t, made(t, 2000, 2003, one, two, three), udp, 2001, first, out(udp, addr, 2001))
	}
	p := made(t, 2000, 2000, one, two, three)
	takes(t, p, udp, 5, 2, out(udp, three, 2000), out(udp, one, 2000), out(udp, two, 2000))
	refuses(t, p, udp, 5, 2, api.ErrRange)
	p = made(t, 2000, 2000, one, two, three)
	takes(t, p, udp, 5, -2, out(udp, two, 2000), out(udp, three, 2000), out(udp, one, 2000))
}

// P19.3: a wanted port that is free elsewhere is no reason to go to another address.
func TestTakeStays(t *testing.T) {
	p := made(t, 2000, 2003, one, two)
	takes(t, p, udp, 2001, 0, out(udp, one, 2001), out(udp, one, 2003), out(udp, one, 2000))
	keep(t, p, out(tcp, two, 2001))
	takes(t, p, tcp, 2001, 1, out(tcp, two, 2003))
	takes(t, p, tcp, 2001, 0, out(tcp, one, 2001))
}

// P19.3: wants out of the span, and beyond the numbers of ports.
func TestTakeWant(t *testing.T) {
	for _, c := range []struct{ proto, want, port int }{
		{udp, 53, 1025},
		{tcp, 80, 1024},
		{udp, 5000, 5000},
		{icmp, 7, 1024},
		{icmp, 5000, 5000},
		{udp, 0, 1024},
		{udp, 65536 + 5000, 5000},
		{udp, 5000 - 65536, 5000},
		{tcp, -1, 65535},
		{icmp, math.MinInt, 1024},
		{udp, math.MaxInt, 65535},
	} {
		takes(t, made(t, 1024, 65535, one), c.proto, c.want, 0, out(c.proto, one, c.port))
	}
}

// P19.3: protocols that have no ports are refused, even where all is given out, and nothing changes.
func TestTakeProto(t *testing.T) {
	p := made(t, 2000, 2000, one)
	for _, proto := range []int{0, 2, 4, 5, 7, 16, 18, 44, 58, -1, 256 + 17, math.MinInt, math.MaxInt} {
		refuses(t, p, proto, 2000, 0, api.ErrArg)
	}
	if p.Used() != 0 {
		t.Errorf("Used = %d", p.Used())
	}
	takes(t, p, udp, 2000, 0, out(udp, one, 2000))
	refuses(t, p, 58, 2000, 0, api.ErrArg)
	refuses(t, p, udp, 2000, 0, api.ErrRange)
}

// P19.3: what Keep says, and that nothing changes where it refuses.
func TestKeep(t *testing.T) {
	there := out(udp, one, 2001)
	for _, c := range []struct {
		name string
		o    api.Outer
		want api.Errno
	}{
		{"UDP", out(udp, one, 2000), api.OK},
		{"TCP", out(tcp, one, 2001), api.OK},
		{"ICMP", out(icmp, one, 2001), api.OK},
		{"another address", out(udp, two, 2001), api.OK},
		{"port 0", out(udp, one, 0), api.OK},
		{"port 65535", out(udp, one, 65535), api.OK},
		{"below lo", out(udp, one, 1999), api.OK},
		{"above hi", out(udp, one, 2004), api.OK},
		{"given out", there, api.ErrTwice},
		{"no protocol", out(0, one, 2000), api.ErrArg},
		{"another protocol", out(58, one, 2000), api.ErrArg},
		{"protocol -1", out(-1, one, 2000), api.ErrArg},
		{"not of the pool", out(udp, three, 2000), api.ErrArg},
		{"address 0", out(udp, 0, 2000), api.ErrArg},
		{"address by 2^32", out(udp, one+1<<32, 2000), api.ErrArg},
		{"port -1", out(udp, one, -1), api.ErrArg},
		{"port 65536", out(udp, one, 65536), api.ErrArg},
		{"given out, by 65536", out(udp, one, 65536+2001), api.ErrArg},
		{"zero", api.Outer{}, api.ErrArg},
	} {
		p := made(t, 2000, 2003, one, two)
		keep(t, p, there)
		used := 1
		if c.want == api.OK {
			used = 2
		}
		if e := p.Keep(c.o); e != c.want || p.Used() != used {
			t.Errorf("%s: Keep(%v) = %d, Used = %d; want %d, %d", c.name, c.o, e, p.Used(), c.want, used)
		}
		if c.want == api.OK {
			if e := p.Keep(c.o); e != api.ErrTwice || p.Used() != used {
				t.Errorf("%s: Keep(%v) twice = %d, Used = %d", c.name, c.o, e, p.Used())
			}
		}
		if p.Free(c.o) != (c.want != api.ErrArg) {
			t.Errorf("%s: Free(%v)", c.name, c.o)
		}
		if !p.Free(there) != (c.o == there) || p.Used() != 0 {
			t.Errorf("%s: Free(%v), Used = %d", c.name, there, p.Used())
		}
	}
}

// P19.3: what was kept is not taken, and what was taken is not kept.
func TestKeepAndTake(t *testing.T) {
	p := made(t, 2000, 2003, one)
	keep(t, p, out(udp, one, 2001), out(udp, one, 2000), out(udp, one, 3000), out(udp, one, 0))
	takes(t, p, udp, 2001, 0, out(udp, one, 2003), out(udp, one, 2002))
	refuses(t, p, udp, 2001, 0, api.ErrRange)
	if e := p.Keep(out(udp, one, 2002)); e != api.ErrTwice {
		t.Errorf("Keep of what was taken = %d", e)
	}
	if p.Used() != 6 {
		t.Errorf("Used = %d", p.Used())
	}
}

// P19.3: who is freed is given out no more, and can be given out again.
func TestFree(t *testing.T) {
	p := made(t, 2000, 2003, one, two)
	for _, o := range []api.Outer{{}, out(udp, one, 2000), out(udp, three, 2000), out(58, one, 2000), out(udp, one, -1), out(udp, one, math.MaxInt)} {
		if p.Free(o) {
			t.Errorf("Free(%v) of a new one", o)
		}
	}
	takes(t, p, udp, 2000, 0, out(udp, one, 2000))
	for _, o := range []api.Outer{out(tcp, one, 2000), out(udp, two, 2000), out(udp, one, 2001), out(udp, one, 2000+65536), out(udp+256, one, 2000)} {
		if p.Free(o) || p.Used() != 1 {
			t.Errorf("Free(%v), Used = %d", o, p.Used())
		}
	}
	if !p.Free(out(udp, one, 2000)) || p.Used() != 0 || p.Free(out(udp, one, 2000)) || p.Used() != 0 {
		t.Errorf("Free twice, Used = %d", p.Used())
	}
	takes(t, p, udp, 2000, 0, out(udp, one, 2000))
	if !p.Free(out(udp, one, 2000)) {
		t.Error("Free of what is given out again")
	}
	keep(t, p, out(udp, one, 2000))
}

// P19.3, R5: of what no call made there is nothing.
func TestNotMade(t *testing.T) {
	refused, _ := pool.New(nil, 1, 2)
	for name, p := range map[string]*pool.Pool{"nil": nil, "zero": {}, "refused": refused} {
		for _, proto := range []int{udp, tcp, icmp, 58} {
			refuses(t, p, proto, 5000, 0, api.ErrNil)
			if l := tried(p.Wants(proto, 5000)); len(l) != 0 {
				t.Errorf("%s: Wants(%d) = %v", name, proto, l)
			}
		}
		for _, o := range []api.Outer{{}, out(udp, one, 2000), out(58, one, -1)} {
			if e := p.Keep(o); e != api.ErrNil {
				t.Errorf("%s: Keep(%v) = %d", name, o, e)
			}
			if p.Free(o) {
				t.Errorf("%s: Free(%v)", name, o)
			}
		}
		if p.Used() != 0 || p.Has(0) || p.Has(one) {
			t.Errorf("%s: Used = %d, Has(0) = %v", name, p.Used(), p.Has(0))
		}
	}
}

// R3: a pool keeps nothing that is handed in, and changes nothing of it; two have nothing in common.
func TestSharesNothing(t *testing.T) {
	addrs := append(make([]int, 0, 5), one, two)
	room := addrs[:5]
	p, q := made(t, 2000, 2003, addrs...), made(t, 2000, 2003, addrs...)
	takes(t, p, udp, 2000, 0, out(udp, one, 2000))
	takes(t, q, udp, 2000, 0, out(udp, one, 2000))
	if !slices.Equal(room, []int{one, two, 0, 0, 0}) {
		t.Errorf("addrs are %v", room)
	}
	addrs[0], addrs[1] = three, three
	if !p.Has(one) || !p.Has(two) || p.Has(three) {
		t.Error("Has asks what was handed in")
	}
	takes(t, p, udp, 2001, 1, out(udp, two, 2001))
	if q.Used() != 1 {
		t.Errorf("Used = %d of another one", q.Used())
	}
}

// model is a pool as the document has it.
type model struct {
	addrs  []int
	lo, hi int
	given  []api.Outer
}

func (m *model) take(proto, want, first int) (api.Outer, api.Errno) {
	if proto != icmp && proto != tcp && proto != udp {
		return api.Outer{}, api.ErrArg
	}
	for first < 0 {
		first += len(m.addrs)
	}
	for i := range m.addrs {
		for _, port := range tries(m.lo, m.hi, proto, want) {
			o := out(proto, m.addrs[(first+i)%len(m.addrs)], port)
			if !slices.Contains(m.given, o) {
				m.given = append(m.given, o)
				return o, api.OK
			}
		}
	}
	return api.Outer{}, api.ErrRange
}

func (m *model) keep(o api.Outer) api.Errno {
	if o.Proto != icmp && o.Proto != tcp && o.Proto != udp || !slices.Contains(m.addrs, o.Addr) || o.Port < 0 || o.Port > 65535 {
		return api.ErrArg
	}
	if slices.Contains(m.given, o) {
		return api.ErrTwice
	}
	m.given = append(m.given, o)
	return api.OK
}

func (m *model) free(o api.Outer) bool {
	i := slices.Index(m.given, o)
	if i >= 0 {
		m.given = slices.Delete(m.given, i, i+1)
	}
	return i >= 0
}

// P19.3, P19.4: whatever was given out and freed ahead.
func TestMany(t *testing.T) {
	r := rand.New(rand.NewPCG(19, 2))
	protos := []int{icmp, tcp, udp, udp, tcp, 58}
	for range 60 {
		lo := 1018 + r.IntN(10)
		m := &model{addrs: []int{one, two, three}[:1+r.IntN(3)], lo: lo, hi: lo + r.IntN(8)}
		p, frees := made(t, m.lo, m.hi, m.addrs...), 1+r.IntN(6)
		for range 150 {
			proto, port := protos[r.IntN(len(protos))], 1010+r.IntN(30)
			o := out(proto, one+r.IntN(4), port)
			switch n := r.IntN(10); {
			case n < frees:
				if len(m.given) > 0 && n%2 == 0 {
					o = m.given[r.IntN(len(m.given))]
				}
				if got, want := p.Free(o), m.free(o); got != want {
					t.Fatalf("Free(%v) = %v; want %v", o, got, want)
				}
			case n == 9:
				if got, want := p.Keep(o), m.keep(o); got != want {
					t.Fatalf("Keep(%v) = %d; want %d", o, got, want)
				}
			default:
				first := r.IntN(20) - 10
				got, e := p.Take(proto, port, first)
				if want, f := m.take(proto, port, first); got != want || e != f {
					t.Fatalf("Take(%d, %d, %d) = %v, %d; want %v, %d", proto, port, first, got, e, want, f)
				}
			}
			if p.Used() != len(m.given) {
				t.Fatalf("Used = %d; want %d", p.Used(), len(m.given))
			}
		}
	}
}

// P19.4: as many as there are, each once, of all addresses and protocols.
func TestAll(t *testing.T) {
	r := rand.New(rand.NewPCG(19, 3))
	const lo, hi = 1000, 1100
	p, seen := made(t, lo, hi, one, two, three), map[api.Outer]bool{}
	for _, proto := range []int{icmp, tcp, udp} {
		for range 3 * (hi - lo + 1) {
			o, e := p.Take(proto, r.IntN(65536), r.IntN(100))
			if e != api.OK || seen[o] || o.Proto != proto || !p.Has(o.Addr) || !four.Host(o.Addr) || o.Port < lo || o.Port > hi {
				t.Fatalf("Take = %v, %d", o, e)
			}
			seen[o] = true
		}
		refuses(t, p, proto, 1000, 0, api.ErrRange)
		if p.Used() != len(seen) {
			t.Errorf("Used = %d; want %d", p.Used(), len(seen))
		}
	}
	for o := range seen {
		if e := p.Keep(o); e != api.ErrTwice {
			t.Errorf("Keep(%v) = %d", o, e)
		}
		if !p.Free(o) {
			t.Errorf("Free(%v)", o)
		}
	}
	if p.Used() != 0 {
		t.Errorf("Used = %d", p.Used())
	}
}

// P19.4: all ports that an address can have.
func TestGreat(t *testing.T) {
	p := made(t, 1, 65535, one)
	for port := range 65535 {
		takes(t, p, tcp, port+1, port, out(tcp, one, port+1))
	}
	refuses(t, p, tcp, 1, 0, api.ErrRange)
	if p.Used() != 65535 {
		t.Errorf("Used = %d", p.Used())
	}
	if !p.Free(out(tcp, one, 4321)) {
		t.Error("Free of what is given out")
	}
	takes(t, p, tcp, 8, 0, out(tcp, one, 4321))
}

// R4: the same calls answer the same.
func TestSameTwice(t *testing.T) {
	run := func() string {
		r, p := rand.New(rand.NewPCG(19, 4)), made(t, 1020, 1040, one, two)
		text := ""
		for range 300 {
			o, e := p.Take(udp, 1000+r.IntN(60), r.IntN(5))
			text += fmt.Sprintln(o, e, p.Free(out(udp, one+r.IntN(2), 1020+r.IntN(20))), p.Used(), tried(p.Wants(tcp, r.IntN(2000))))
		}
		return text
	}
	if run() != run() {
		t.Error("the same calls answered otherwise")
	}
}
