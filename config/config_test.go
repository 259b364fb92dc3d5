package config_test

import (
	"fmt"
	"math"
	"reflect"
	"slices"
	"testing"

	"goosepond/api"
	"goosepond/config"
	"goosepond/four"
	"goosepond/six"
)

const (
	icmp, tcp, udp = 1, 6, 17

	host  = 0x0A000001 // 10.0.0.1
	other = 0xCB007101 // 203.0.113.1
)

// with is Base with a change.
func with(change func(c *api.Config)) api.Config {
	c := config.Base()
	change(&c)
	return c
}

// static is a binding that may be, of the softwire 0 and the pool's first address; no two of n from 0 on are alike.
func static(n int) api.Static {
	return api.Static{
		Inner: api.Inner{Softwire: 0, Proto: udp, Addr: host, Port: 1000 + n},
		Outer: api.Outer{Proto: udp, Addr: config.Base().Pool[0], Port: 2000 + n},
	}
}

// statics are n that may be, but for a quota.
func statics(n int) (l []api.Static) {
	for i := range n {
		l = append(l, static(i))
	}
	return l
}

// softwires are n addresses that may be.
func softwires(n int) (l []api.Six) {
	for i := range n {
		l = append(l, six.Of(0x2001, 0xdb8, 1, i, 0, 0, 0, 1))
	}
	return l
}

// addrs are n addresses of a pool that may be.
func addrs(n int) (l []int) {
	for i := range n {
		l = append(l, other+i)
	}
	return l
}

// says fails unless Check of this says that, and leaves what it was given.
func says(t *testing.T, name string, c api.Config, want api.Errno) {
	t.Helper()
	before := copied(c)
	if e := config.Check(c); e != want {
		t.Errorf("%s: Check = %d; want %d", name, e, want)
	}
	if !reflect.DeepEqual(c, before) {
		t.Errorf("%s: Check changed what it was given", name)
	}
}

// copied is c in new memory.
func copied(c api.Config) api.Config {
	c.Softwires = slices.Clone(c.Softwires)
	c.Pool = slices.Clone(c.Pool)
	c.Static = slices.Clone(c.Static)
	return c
}

// P20.2, P20.3: what Base is, and that it may be.
func TestBase(t *testing.T) {
	a := func(s string) api.Six {
		a, e := six.Parse(s)
		if e != api.OK {
			t.Fatalf("Parse(%q) = %d", s, e)
		}
		return a
	}
	p, e := four.Parse("198.51.100.1")
	if e != api.OK {
		t.Fatalf("Parse = %d", e)
	}
	want := api.Config{
		AFTR:      a("2001:db8:0:0:0:0:0:1"),
		Softwires: []api.Six{a("2001:db8:1:0:0:0:0:1"), a("2001:db8:2:0:0:0:0:1")},
		Pool:      []int{p},
		Lo:        1024, Hi: 65535,
		Quota: 16, Bindings: 64, Sessions: 128,
		Buffers: 8, Bytes: 1048576,
		TunnelMTU: 1500, NetMTU: 1500, Hop: 64, MSS: 0,
		Filter: 2,
		UDP:    300, TCP: 7440, Trans: 240, Query: 60, Frag: 60,
	}
	if c := config.Base(); !reflect.DeepEqual(c, want) {
		t.Errorf("Base = %v; want %v", c, want)
	}
	says(t, "Base", config.Base(), api.OK)
}

// R3: each Base is new memory.
func TestBaseSharesNothing(t *testing.T) {
	c := config.Base()
	c.Softwires[0], c.Pool[0] = api.Six{}, 0
	_ = append(c.Softwires[:1], api.Six{1})
	says(t, "another Base", config.Base(), api.OK)
	if d := config.Base(); d.Softwires[0] == c.Softwires[0] || d.Pool[0] == 0 {
		t.Errorf("Base = %v", d)
	}
}

// P20.2: the chapter's example.
func TestExample(t *testing.T) {
	if n := config.Wait(config.Base(), tcp, api.StateOpen); n != 7440 {
		t.Errorf("Wait = %d", n)
	}
}

// P20.1: each number at its ends, and beyond them.
func TestNumbers(t *testing.T) {
	for _, c := range []struct {
		name   string
		of     func(c *api.Config) *int
		lo, hi int
	}{
		{"Quota", func(c *api.Config) *int { return &c.Quota }, 1, 4096},
		{"Bindings", func(c *api.Config) *int { return &c.Bindings }, 1, 4096},
		{"Sessions", func(c *api.Config) *int { return &c.Sessions }, 1, 4096},
		{"Buffers", func(c *api.Config) *int { return &c.Buffers }, 0, 4096},
		{"Bytes", func(c *api.Config) *int { return &c.Bytes }, 0, 1 << 26},
		{"TunnelMTU", func(c *api.Config) *int { return &c.TunnelMTU }, 1280, 65535},
		{"NetMTU", func(c *api.Config) *int { return &c.NetMTU }, 1280, 65535},
		{"Hop", func(c *api.Config) *int { return &c.Hop }, 1, 255},
		{"Filter", func(c *api.Config) *int { return &c.Filter }, 0, 2},
		{"UDP", func(c *api.Config) *int { return &c.UDP }, 120, 1 << 20},
		{"TCP", func(c *api.Config) *int { return &c.TCP }, 7440, 1 << 20},
		{"Trans", func(c *api.Config) *int { return &c.Trans }, 240, 1 << 20},
		{"Query", func(c *api.Config) *int { return &c.Query }, 60, 1 << 20},
		{"Frag", func(c *api.Config) *int { return &c.Frag }, 1, 1 << 20},
		{"Lo", func(c *api.Config) *int { return &c.Lo }, 1, 65535},
		{"Hi", func(c *api.Config) *int { return &c.Hi }, 1024, 65535},
	} {
		for _, n := range []int{math.MinInt, -1, c.lo - 1, c.lo, c.lo + 1, c.hi - 1, c.hi, c.hi + 1, math.MaxInt} {
			want := api.ErrArg
			if c.lo <= n && n <= c.hi {
				want = api.OK
			}
			says(t, fmt.Sprint(c.name, " ", n), with(func(d *api.Config) { *c.of(d) = n }), want)
		}
	}
	for n, want := range map[int]api.Errno{
		0: api.OK, 536: api.OK, 1460: api.OK, 65535: api.OK,
		1: api.ErrArg, -1: api.ErrArg, 535: api.ErrArg, 65536: api.ErrArg, math.MinInt: api.ErrArg, math.MaxInt: api.ErrArg,
	} {
		says(t, fmt.Sprint("MSS ", n), with(func(c *api.Config) { c.MSS = n }), want)
	}
}

// P20.1: the span of ports.
func TestPorts(t *testing.T) {
	for _, c := range []struct {
		lo, hi int
		want   api.Errno
	}{
		{1, 65535, api.OK},
		{1, 1, api.OK},
		{2000, 2000, api.OK},
		{65535, 65535, api.OK},
		{2001, 2000, api.ErrArg},
		{0, 2000, api.ErrArg},
		{0, 0, api.ErrArg},
		{-5, -1, api.ErrArg},
		{65536, 65536, api.ErrArg},
		{65535, 65536, api.ErrArg},
	} {
		says(t, fmt.Sprint(c.lo, " to ", c.hi), with(func(d *api.Config) { d.Lo, d.Hi = c.lo, c.hi }), c.want)
	}
}

// P20.1: addresses: how many, and which.
func TestAddresses(t *testing.T) {
	group := api.Six{0xFF, 2, 15: 1}
	for _, c := range []struct {
		name   string
		change func(c *api.Config)
		want   api.Errno
	}{
		{"AFTR all 0", func(c *api.Config) { c.AFTR = api.Six{} }, api.ErrArg},
		{"AFTR a group", func(c *api.Config) { c.AFTR = group }, api.ErrArg},
		{"AFTR another host", func(c *api.Config) { c.AFTR = api.Six{15: 1} }, api.OK},
		{"no softwires", func(c *api.Config) { c.Softwires = nil }, api.ErrArg},
		{"an empty list of softwires", func(c *api.Config) { c.Softwires = []api.Six{} }, api.ErrArg},
		{"one softwire", func(c *api.Config) { c.Softwires = softwires(1) }, api.OK},
		{"the most softwires", func(c *api.Config) { c.Softwires = softwires(64) }, api.OK},
		{"too many softwires", func(c *api.Config) { c.Softwires = softwires(65) }, api.ErrArg},
		{"the first softwire all 0", func(c *api.Config) { c.Softwires[0] = api.Six{} }, api.ErrArg},
		{"the last softwire a group", func(c *api.Config) { c.Softwires[1] = group }, api.ErrArg},
		{"no pool", func(c *api.Config) { c.Pool = nil }, api.ErrArg},
		{"an empty pool", func(c *api.Config) { c.Pool = []int{} }, api.ErrArg},
		{"the greatest pool", func(c *api.Config) { c.Pool = addrs(16) }, api.OK},
		{"too great a pool", func(c *api.Config) { c.Pool = addrs(17) }, api.ErrArg},
		{"pool of address 0", func(c *api.Config) { c.Pool = []int{0} }, api.ErrArg},
		{"pool of address -1", func(c *api.Config) { c.Pool = []int{-1} }, api.ErrArg},
		{"loopback behind", func(c *api.Config) { c.Pool = append(c.Pool, 0x7F000001) }, api.ErrArg},
		{"a group ahead", func(c *api.Config) { c.Pool = []int{0xE0000001, other} }, api.ErrArg},
		{"pool of no address", func(c *api.Config) { c.Pool = []int{other + 1<<32} }, api.ErrArg},
		{"pool of the ends", func(c *api.Config) { c.Pool = []int{0x01000000, 0xDFFFFFFF} }, api.OK},
		{"zero", func(c *api.Config) { *c = api.Config{} }, api.ErrArg},

		{"two softwires the same", func(c *api.Config) { c.Softwires[1] = c.Softwires[0] }, api.ErrTwice},
		{"two of many softwires the same", func(c *api.Config) { c.Softwires = append(softwires(9), softwires(5)[4]) }, api.ErrTwice},
		{"the first softwire is the AFTR", func(c *api.Config) { c.Softwires[0] = c.AFTR }, api.ErrTwice},
		{"the last softwire is the AFTR", func(c *api.Config) { c.AFTR = c.Softwires[1] }, api.ErrTwice},
		{"two of the pool the same", func(c *api.Config) { c.Pool = []int{other, other} }, api.ErrTwice},
		{"two of the pool the same, apart", func(c *api.Config) { c.Pool = append(addrs(9), other+3) }, api.ErrTwice},
		{"softwires that differ in one bit", func(c *api.Config) { c.Softwires[1] = c.Softwires[0]; c.Softwires[1][15] ^= 2 }, api.OK},
	} {
		says(t, c.name, with(c.change), c.want)
	}
}

// P20.1: bindings that are told, each alone.
func TestStatic(t *testing.T) {
	for _, c := range []struct {
		name   string
		change func(s *api.Static)
		want   api.Errno
	}{
		{"UDP", func(s *api.Static) {}, api.OK},
		{"TCP", func(s *api.Static) { s.Inner.Proto, s.Outer.Proto = tcp, tcp }, api.OK},
		{"ICMP", func(s *api.Static) { s.Inner.Proto, s.Outer.Proto = icmp, icmp }, api.OK},
		{"the last softwire", func(s *api.Static) { s.Inner.Softwire = 1 }, api.OK},
		{"the second one of the pool", func(s *api.Static) { s.Outer.Addr = other }, api.OK},
		{"inner port 0", func(s *api.Static) { s.Inner.Port = 0 }, api.OK},
		{"inner port 65535", func(s *api.Static) { s.Inner.Port = 65535 }, api.OK},
		{"outer port 0", func(s *api.Static) { s.Outer.Port = 0 }, api.OK},
		{"outer port 65535", func(s *api.Static) { s.Outer.Port = 65535 }, api.OK},
		{"outer port below Lo", func(s *api.Static) { s.Outer.Port = 80 }, api.OK},
		{"inner address of nobody's own", func(s *api.Static) { s.Inner.Addr = 0x08080808 }, api.OK},
		{"inner address of the pool", func(s *api.Static) { s.Inner.Addr = other }, api.OK},
		{"softwire -1", func(s *api.Static) { s.Inner.Softwire = -1 }, api.ErrArg},
		{"no such softwire", func(s *api.Static) { s.Inner.Softwire = 2 }, api.ErrArg},
		{"the greatest softwire", func(s *api.Static) { s.Inner.Softwire = math.MaxInt }, api.ErrArg},
		{"no protocol", func(s *api.Static) { s.Inner.Proto, s.Outer.Proto = 0, 0 }, api.ErrArg},
		{"another protocol", func(s *api.Static) { s.Inner.Proto, s.Outer.Proto = 58, 58 }, api.ErrArg},
		{"protocol -1", func(s *api.Static) { s.Inner.Proto, s.Outer.Proto = -1, -1 }, api.ErrArg},
		{"protocol within alone", func(s *api.Static) { s.Outer.Proto = 0 }, api.ErrArg},
		{"protocol outside alone", func(s *api.Static) { s.Inner.Proto = 0 }, api.ErrArg},
		{"two protocols", func(s *api.Static) { s.Inner.Proto, s.Outer.Proto = tcp, udp }, api.ErrArg},
		{"inner address 0", func(s *api.Static) { s.Inner.Addr = 0 }, api.ErrArg},
		{"inner address -1", func(s *api.Static) { s.Inner.Addr = -1 }, api.ErrArg},
		{"inner address a group", func(s *api.Static) { s.Inner.Addr = 0xE0000001 }, api.ErrArg},
		{"inner address of loopback", func(s *api.Static) { s.Inner.Addr = 0x7F000001 }, api.ErrArg},
		{"outer address not of the pool", func(s *api.Static) { s.Outer.Addr = other + 1 }, api.ErrArg},
		{"outer address 0", func(s *api.Static) { s.Outer.Addr = 0 }, api.ErrArg},
		{"inner port -1", func(s *api.Static) { s.Inner.Port = -1 }, api.ErrArg},
		{"inner port 65536", func(s *api.Static) { s.Inner.Port = 65536 }, api.ErrArg},
		{"outer port -1", func(s *api.Static) { s.Outer.Port = -1 }, api.ErrArg},
		{"outer port 65536", func(s *api.Static) { s.Outer.Port = 65536 }, api.ErrArg},
		{"zero", func(s *api.Static) { *s = api.Static{} }, api.ErrArg},
	} {
		s := static(0)
		c.change(&s)
		for name, l := range map[string][]api.Static{
			"alone":     {s},
			"the first": {s, static(5), static(6)},
			"the last":  {static(5), static(6), s},
		} {
			says(t, c.name+", "+name, with(func(d *api.Config) {
				d.Pool = append(d.Pool, other)
				d.Static = l
			}), c.want)
		}
	}
}

// P20.1: bindings that are told, together: how many, and which ones may not stand beside each other.
func TestStatics(t *testing.T) {
	some := func(n, quota, bindings int) func(c *api.Config) {
		return func(c *api.Config) { c.Static, c.Quota, c.Bindings = statics(n), quota, bindings }
	}
	two := func(change func(s *api.Static)) func(c *api.Config) {
		s := static(0)
		change(&s)
		return func(c *api.Config) {
			c.Pool = append(c.Pool, other)
			c.Static = []api.Static{static(0), static(1), s}
		}
	}
	shared := func(c *api.Config, quota int) {
		c.Static, c.Quota = statics(8), quota
		for i := range c.Static {
			c.Static[i].Inner.Softwire = i % 2
		}
	}
	for _, c := range []struct {
		name   string
		change func(c *api.Config)
		want   api.Errno
	}{
		{"an empty list", func(c *api.Config) { c.Static = []api.Static{} }, api.OK},
		{"the most", some(64, 64, 64), api.OK},
		{"the most, and room for more", some(64, 4096, 4096), api.OK},
		{"too many", some(65, 4096, 4096), api.ErrArg},
		{"as many as bindings", some(5, 5, 5), api.OK},
		{"more than bindings", some(5, 5, 4), api.ErrArg},
		{"as many as the quota", some(5, 5, 64), api.OK},
		{"more than the quota", some(5, 4, 64), api.ErrTwice},
		{"more than the quota, and bindings", some(5, 4, 4), api.ErrArg},
		{"two softwires' as many as the quota", func(c *api.Config) { shared(c, 4) }, api.OK},
		{"two softwires' more than the quota", func(c *api.Config) { shared(c, 3) }, api.ErrTwice},
		{"the last softwire's more than the quota", func(c *api.Config) {
			shared(c, 4)
			c.Static[0].Inner.Softwire = 1
		}, api.ErrTwice},

		{"one twice", two(func(s *api.Static) {}), api.ErrTwice},
		{"one Inner", two(func(s *api.Static) { s.Outer.Port = 9 }), api.ErrTwice},
		{"one Outer", two(func(s *api.Static) { s.Inner.Port = 9 }), api.ErrTwice},
		{"one Outer of two softwires", two(func(s *api.Static) { s.Inner.Softwire = 1 }), api.ErrTwice},
		{"one Outer of two inner addresses", two(func(s *api.Static) { s.Inner.Addr++ }), api.ErrTwice},
		{"one Inner at two addresses", two(func(s *api.Static) { s.Outer.Addr = other }), api.ErrTwice},
		{"another softwire", two(func(s *api.Static) { s.Inner.Softwire, s.Outer.Port = 1, 9 }), api.OK},
		{"another protocol", two(func(s *api.Static) { s.Inner.Proto, s.Outer.Proto = tcp, tcp }), api.OK},
		{"another inner address", two(func(s *api.Static) { s.Inner.Addr++; s.Outer.Port = 9 }), api.OK},
		{"another outer address", two(func(s *api.Static) { s.Inner.Port, s.Outer.Addr = 9, other }), api.OK},
	} {
		says(t, c.name, with(c.change), c.want)
	}
}

// P20.1, R1: ErrArg comes ahead of ErrTwice, wherever the fault is.
func TestOrder(t *testing.T) {
	faults := map[string]func(c *api.Config){
		"AFTR":           func(c *api.Config) { c.AFTR = api.Six{} },
		"softwire":       func(c *api.Config) { c.Softwires = append(c.Softwires, api.Six{}) },
		"many softwires": func(c *api.Config) { c.Softwires = append(c.Softwires, softwires(63)...) },
		"pool":           func(c *api.Config) { c.Pool = append(c.Pool, 0) },
		"great pool":     func(c *api.Config) { c.Pool = append(c.Pool, addrs(16)...) },
		"Lo":             func(c *api.Config) { c.Lo = 0 },
		"Quota":          func(c *api.Config) { c.Quota = 0 },
		"MSS":            func(c *api.Config) { c.MSS = 1 },
		"Frag":           func(c *api.Config) { c.Frag = 0 },
		"static":         func(c *api.Config) { c.Static = append(c.Static, api.Static{}) },
		"static softwire": func(c *api.Config) {
			c.Static = append(c.Static, static(9))
			c.Static[len(c.Static)-1].Inner.Softwire = 9
		},
		"many static": func(c *api.Config) { c.Static = append(c.Static, statics(65)...) },
	}
	twice := map[string]func(c *api.Config){
		"softwires": func(c *api.Config) { c.Softwires[1] = c.Softwires[0] },
		"AFTR":      func(c *api.Config) { c.Softwires[1] = c.AFTR },
		"pool":      func(c *api.Config) { c.Pool = append(c.Pool, c.Pool[0]) },
		"static":    func(c *api.Config) { c.Static = append(c.Static, static(0), static(0)) },
		"quota":     func(c *api.Config) { c.Static, c.Quota = statics(3), 2 },
	}
	for name, again := range twice {
		says(t, name, with(again), api.ErrTwice)
		for fault, change := range faults {
			says(t, name+" and "+fault, with(func(c *api.Config) { again(c); change(c) }), api.ErrArg)
		}
	}
}

// P20.2: which softwire has an address.
func TestSoftwire(t *testing.T) {
	c := with(func(c *api.Config) { c.Softwires = softwires(64) })
	for i, a := range softwires(64) {
		if n, ok := config.Softwire(c, a); n != i || !ok {
			t.Errorf("Softwire(%s) = %d, %v; want %d", six.Text(a), n, ok, i)
		}
	}
	for _, a := range []api.Six{{}, c.AFTR, softwires(65)[64], six.Of(0x2001, 0xdb8, 1, 1)} {
		if n, ok := config.Softwire(c, a); n != 0 || ok {
			t.Errorf("Softwire(%s) = %d, %v", six.Text(a), n, ok)
		}
	}
	c = api.Config{Softwires: []api.Six{{1}, {}, {1}, {2}, {}}}
	for a, want := range map[api.Six]int{{1}: 0, {}: 1, {2}: 3} {
		if n, ok := config.Softwire(c, a); n != want || !ok {
			t.Errorf("Softwire(%s) = %d, %v of what may not be; want %d", six.Text(a), n, ok, want)
		}
	}
	if n, ok := config.Softwire(api.Config{}, api.Six{}); n != 0 || ok {
		t.Errorf("Softwire = %d, %v of none", n, ok)
	}
}

// P20.2: how long sessions wait.
func TestWait(t *testing.T) {
	c := api.Config{UDP: 11, TCP: 22, Trans: 33, Query: 44, Frag: 55}
	for _, state := range []int{math.MinInt, -1, 0, 1, 2, 3, 4, 5, 6, 7, math.MaxInt} {
		trans := 33
		if state == api.StateOpen {
			trans = 22
		}
		for proto, want := range map[int]int{
			udp: 11, icmp: 44, tcp: trans,
			0: 0, 2: 0, 4: 0, 44: 0, 58: 0, -1: 0, 256 + 17: 0, math.MinInt: 0, math.MaxInt: 0,
		} {
			if n := config.Wait(c, proto, state); n != want {
				t.Errorf("Wait(%d, %d) = %d; want %d", proto, state, n, want)
			}
		}
	}
}
