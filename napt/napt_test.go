package napt_test

import (
	"bytes"
	"math"
	"reflect"
	"slices"
	"testing"

	"goosepond/api"
	"goosepond/config"
	"goosepond/icmp"
	"goosepond/napt"
	"goosepond/ports"
	"goosepond/quote"
	"goosepond/tcp"
	"goosepond/udp"
	"goosepond/v4"
)

const (
	host   = 0x0A000001 // 10.0.0.1
	other  = 0x0A000002
	outer  = 0xC6336401 // 198.51.100.1, the address of Base's pool
	second = 0xC6336402
	far    = 0xCB007101 // 203.0.113.1
	far2   = 0xCB007102
)

// made is New of what may be.
func made(t *testing.T, c api.Config) *napt.Engine {
	t.Helper()
	e, errno := napt.New(c)
	if errno != api.OK || e == nil {
		t.Fatalf("New = %v, %d", e, errno)
	}
	return e
}

// with is Base with changes.
func with(changes ...func(*api.Config)) api.Config {
	c := config.Base()
	for _, change := range changes {
		change(&c)
	}
	return c
}

func whole(proto, src, dst int, data []byte) api.V4 {
	return api.V4{TOS: 3, ID: 77, TTL: 9, DF: true, Proto: proto, Src: src, Dst: dst, Options: []byte{1, 1, 1, 0}, Data: data}
}

func datagram(src, sport, dst, dport int) api.V4 {
	b, _ := udp.Build(src, dst, api.UDP{Src: sport, Dst: dport, Data: []byte("data")})
	return whole(17, src, dst, b)
}

func segment(src, sport, dst, dport, flags int) api.V4 {
	b, _ := tcp.Build(src, dst, api.TCP{Src: sport, Dst: dport, Seq: 5, Flags: flags, Window: 7, Data: []byte("data")})
	return whole(6, src, dst, b)
}

func message(src, dst int, m api.ICMP) api.V4 {
	b, _ := icmp.Build(m)
	return whole(1, src, dst, b)
}

func ping(src, dst, id int) api.V4 {
	return message(src, dst, api.ICMP{Type: 8, Rest: id<<16 | 3, Data: []byte("ping")})
}

func pong(src, dst, id int) api.V4 {
	return message(src, dst, api.ICMP{Type: 0, Rest: id<<16 | 3, Data: []byte("ping")})
}

// fault is a message of this kind that quotes p.
func fault(src, dst, kind int, p api.V4) api.V4 {
	b, _ := v4.Build(p)
	return message(src, dst, api.ICMP{Type: kind, Code: 1, Rest: 1400, Data: b})
}

// from is p as ports.From says, to as ports.To.
func from(p api.V4, addr, port int) api.V4 {
	q, _ := ports.From(p, addr, port)
	return q
}

func to(p api.V4, addr, port int) api.V4 {
	q, _ := ports.To(p, addr, port)
	return q
}

// goesOut fails unless p goes on as want.
func goesOut(t *testing.T, e *napt.Engine, softwire int, p, want api.V4) {
	t.Helper()
	got, why := e.Out(softwire, p)
	if why != api.DropNone || !v4.Same(got, want) {
		t.Fatalf("Out(%d, %v) = %v, %d; want %v", softwire, p, got, why, want)
	}
}

// comesIn fails unless p goes on into the softwire as want.
func comesIn(t *testing.T, e *napt.Engine, p api.V4, softwire int, want api.V4) {
	t.Helper()
	i, got, why := e.In(p)
	if i != softwire || why != api.DropNone || !v4.Same(got, want) {
		t.Fatalf("In(%v) = %d, %v, %d; want %d, %v", p, i, got, why, softwire, want)
	}
}

// dropsOut fails unless p is dropped for this reason, and nothing is beside it and nothing changes.
func dropsOut(t *testing.T, e *napt.Engine, softwire int, p api.V4, reason int) {
	t.Helper()
	ahead := e.View()
	if got, why := e.Out(softwire, p); why != reason || !reflect.DeepEqual(got, api.V4{}) {
		t.Errorf("Out(%d, %v) = %v, %d; want %d", softwire, p, got, why, reason)
	}
	stays(t, e, ahead)
}

func dropsIn(t *testing.T, e *napt.Engine, p api.V4, reason int) {
	t.Helper()
	ahead := e.View()
	if i, got, why := e.In(p); why != reason || i != 0 || !reflect.DeepEqual(got, api.V4{}) {
		t.Errorf("In(%v) = %d, %v, %d; want %d", p, i, got, why, reason)
	}
	stays(t, e, ahead)
}

// stays fails unless the view is this one.
func stays(t *testing.T, e *napt.Engine, want api.View) {
	t.Helper()
	if got := e.View(); !alike(got, want) {
		t.Errorf("View = %+v; want %+v", got, want)
	}
}

func alike(a, b api.View) bool {
	return a.Now == b.Now && slices.Equal(a.Bindings, b.Bindings) && slices.Equal(a.Sessions, b.Sessions) &&
		a.Bytes == b.Bytes && a.Bufs == b.Bufs && a.Timers == b.Timers && len(a.Counts) == 0 && len(b.Counts) == 0
}

// view is what an engine has at a time: Timers are as many as sessions.
func view(now int, bindings []api.Binding, sessions ...api.Session) api.View {
	return api.View{Now: now, Bindings: bindings, Sessions: sessions, Timers: len(sessions)}
}

func inner(softwire, proto, addr, port int) api.Inner {
	return api.Inner{Softwire: softwire, Proto: proto, Addr: addr, Port: port}
}

func static(softwire, proto, addr, port, outside, outerPort int) api.Static {
	return api.Static{Inner: inner(softwire, proto, addr, port), Outer: api.Outer{Proto: proto, Addr: outside, Port: outerPort}}
}

func bound(softwire, proto, addr, port, outside, outerPort int) api.Binding {
	s := static(softwire, proto, addr, port, outside, outerPort)
	return api.Binding{Inner: s.Inner, Outer: s.Outer}
}

func told(s api.Static) api.Binding {
	return api.Binding{Inner: s.Inner, Outer: s.Outer, Static: true}
}

func talk(binding, state, until, addr, port int) api.Session {
	return api.Session{Binding: binding, State: state, Until: until, Remote: api.Remote{Addr: addr, Port: port}}
}

// P27.1 to P27.4: the document's examples 1 to 7.
func TestExamples(t *testing.T) {
	e := made(t, config.Base())
	p := datagram(host, 5000, far, 53)
	goesOut(t, e, 0, p, from(p, outer, 5000))
	goesOut(t, e, 1, p, from(p, outer, 5002))
	answer := datagram(far, 53, outer, 5002)
	comesIn(t, e, answer, 1, to(answer, host, 5000))
	p = datagram(host, 53, far, 53)
	goesOut(t, e, 0, p, from(p, outer, 1025))
	dropsIn(t, e, datagram(far2, 53, outer, 5000), api.DropFilter)
	dropsOut(t, e, 0, segment(host, 5000, far, 80, api.FlagAck), api.DropState)
	if n := e.Advance(300); n != 3 {
		t.Errorf("Advance(300) = %d; want 3", n)
	}
	dropsIn(t, e, answer, api.DropBinding)
}

// P27.1: settings that may not be, and who shares what with whom.
func TestNew(t *testing.T) {
	for _, c := range []struct {
		change func(*api.Config)
		errno  api.Errno
	}{
		{func(c *api.Config) {}, api.OK},
		{func(c *api.Config) { c.Pool = nil }, api.ErrArg},
		{func(c *api.Config) { c.Softwires = nil }, api.ErrArg},
		{func(c *api.Config) { c.Filter = 3 }, api.ErrArg},
		{func(c *api.Config) { c.Frag = 0 }, api.ErrArg},
		{func(c *api.Config) { c.Softwires[1] = c.AFTR }, api.ErrTwice},
		{func(c *api.Config) { c.Static = []api.Static{static(2, 17, host, 1, outer, 1)} }, api.ErrArg},
		{func(c *api.Config) { c.Static = slices.Repeat([]api.Static{static(1, 17, host, 1, outer, 1)}, 2) }, api.ErrTwice},
		{func(c *api.Config) { c.Static = []api.Static{static(1, 17, host, 1, outer, 1)} }, api.OK},
	} {
		e, errno := napt.New(with(c.change))
		if errno != c.errno || (e != nil) != (errno == api.OK) {
			t.Errorf("New = %v, %d; want %d", e, errno, c.errno)
		}
	}
}

// P27.1: bindings that settings tell, in order, as many as may be.
func TestNewStatic(t *testing.T) {
	statics := []api.Static{
		static(1, 17, host, 5000, outer, 80),
		static(0, 6, host, 0, outer, 65535),
		static(1, 1, other, 65535, outer, 0),
	}
	c := with(func(c *api.Config) { c.Static, c.Bindings, c.Quota = slices.Clone(statics), 3, 2 })
	e := made(t, c)
	want := view(0, []api.Binding{told(statics[0]), told(statics[1]), told(statics[2])})
	stays(t, e, want)
	if n := e.Now(); n != 0 {
		t.Errorf("Now = %d", n)
	}
	// R3: what the settings were made of may be changed.
	c.Static[0], c.Pool[0], c.Softwires[0], c.Softwires[1] = api.Static{}, 1<<24, api.Six{}, api.Six{}
	stays(t, e, want)
	if !e.Has(outer) || e.Has(1<<24) {
		t.Error("Has hangs on what is the caller's")
	}
	p := datagram(far, 9, outer, 80)
	comesIn(t, e, p, 1, to(p, host, 5000))
}

// P27.1: whose addresses are the pool's.
func TestHas(t *testing.T) {
	e := made(t, with(func(c *api.Config) { c.Pool = []int{outer, far} }))
	for _, c := range []struct {
		addr int
		want bool
	}{{outer, true}, {far, true}, {second, false}, {host, false}, {0, false}, {-1, false}, {math.MaxInt, false}, {math.MinInt, false}} {
		if got := e.Has(c.addr); got != c.want {
			t.Errorf("Has(%#x) = %t", c.addr, got)
		}
	}
}

// P27.1: the time, which rises alone, and only so far.
func TestTime(t *testing.T) {
	e := made(t, config.Base())
	for _, c := range []struct{ to, now int }{
		{5, 5}, {4, 5}, {-1, 5}, {math.MinInt, 5}, {5, 5}, {1<<40 - 1, 1<<40 - 1}, {1<<40 + 1, 1 << 40}, {math.MaxInt, 1 << 40}, {7, 1 << 40},
	} {
		if n := e.Advance(c.to); n != 0 {
			t.Errorf("Advance(%d) = %d", c.to, n)
		}
		if got := e.Now(); got != c.now {
			t.Errorf("Now = %d behind Advance(%d); want %d", got, c.to, c.now)
		}
		stays(t, e, view(c.now, nil))
	}
}

// P27.1: at the end of time a session waits till the next Advance, whatever that tells.
func TestEndOfTime(t *testing.T) {
	e := made(t, config.Base())
	e.Advance(api.MaxTime - 100)
	p := datagram(host, 5000, far, 53)
	goesOut(t, e, 0, p, from(p, outer, 5000))
	want := []api.Binding{bound(0, 17, host, 5000, outer, 5000)}
	stays(t, e, view(api.MaxTime-100, want, talk(0, 0, api.MaxTime, far, 53)))
	if n := e.Advance(api.MaxTime - 1); n != 0 {
		t.Errorf("Advance = %d ahead of its time", n)
	}
	if n := e.Advance(math.MaxInt); n != 1 {
		t.Errorf("Advance = %d; want 1", n)
	}
	stays(t, e, view(api.MaxTime, nil))
	goesOut(t, e, 0, p, from(p, outer, 5000))
	stays(t, e, view(api.MaxTime, want, talk(0, 0, api.MaxTime, far, 53)))
	if n := e.Advance(0); n != 1 {
		t.Errorf("Advance(0) = %d; want 1", n)
	}
	stays(t, e, view(api.MaxTime, nil))
}

// P27.1: each session waits as its protocol and state say, and goes then, not ahead.
func TestWaits(t *testing.T) {
	for _, c := range []struct {
		name string
		wait int
		send func(e *napt.Engine) int
	}{
		{"udp", 310, func(e *napt.Engine) int { _, why := e.Out(0, datagram(host, 5000, far, 53)); return why }},
		{"query", 61, func(e *napt.Engine) int { _, why := e.Out(0, ping(host, far, 5000)); return why }},
		{"tcp, half open", 241, func(e *napt.Engine) int { _, why := e.Out(0, segment(host, 5000, far, 80, api.FlagSyn)); return why }},
		{"tcp, open", 7441, func(e *napt.Engine) int {
			e.Out(0, segment(host, 5000, far, 80, api.FlagSyn))
			_, _, why := e.In(segment(far, 80, outer, 5000, api.FlagSyn|api.FlagAck))
			return why
		}},
		{"tcp, ending", 241, func(e *napt.Engine) int {
			e.Out(0, segment(host, 5000, far, 80, api.FlagSyn))
			e.In(segment(far, 80, outer, 5000, api.FlagSyn|api.FlagAck))
			_, why := e.Out(0, segment(host, 5000, far, 80, api.FlagFin))
			return why
		}},
	} {
		e := made(t, with(func(c *api.Config) { c.UDP, c.Query, c.Trans, c.TCP = 310, 61, 241, 7441 }))
		e.Advance(1000)
		if why := c.send(e); why != api.DropNone {
			t.Fatalf("%s: dropped for %d", c.name, why)
		}
		v := e.View()
		if len(v.Sessions) != 1 || v.Sessions[0].Until != 1000+c.wait {
			t.Errorf("%s: sessions are %v", c.name, v.Sessions)
		}
		if n := e.Advance(1000 + c.wait - 1); n != 0 || len(e.View().Sessions) != 1 || len(e.View().Bindings) != 1 {
			t.Errorf("%s: %d are gone ahead of their time", c.name, n)
		}
		if n := e.Advance(1000 + c.wait); n != 1 {
			t.Errorf("%s: %d are gone in time", c.name, n)
		}
		stays(t, e, view(1000+c.wait, nil))
	}
}

// P27.1: a binding goes with its last session, and gives back what it had; one that was told stays.
func TestAdvance(t *testing.T) {
	fixed := static(0, 17, other, 7, outer, 80)
	e := made(t, with(func(c *api.Config) { c.Quota, c.Static = 2, []api.Static{fixed} }))
	p, q := datagram(host, 5000, far, 53), datagram(host, 5000, far2, 53)
	r := datagram(other, 7, far, 9)
	goesOut(t, e, 0, p, from(p, outer, 5000))
	goesOut(t, e, 0, r, from(r, outer, 80))
	e.Advance(10)
	goesOut(t, e, 0, q, from(q, outer, 5000))
	both := []api.Binding{told(fixed), bound(0, 17, host, 5000, outer, 5000)}
	stays(t, e, view(10, both, talk(1, 0, 300, far, 53), talk(0, 0, 300, far, 9), talk(1, 0, 310, far2, 53)))
	dropsOut(t, e, 0, datagram(host, 5001, far, 53), api.DropQuota)
	if n := e.Advance(300); n != 0 {
		t.Errorf("Advance(300) = %d; want 0, since one session is left", n)
	}
	stays(t, e, view(300, both, talk(1, 0, 310, far2, 53)))
	if n := e.Advance(310); n != 1 {
		t.Errorf("Advance(310) = %d; want 1", n)
	}
	stays(t, e, view(310, both[:1]))
	goesOut(t, e, 0, p, from(p, outer, 5000)) // the port is free again, and the quota, too
	stays(t, e, view(310, both, talk(1, 0, 610, far, 53)))
}

// P27.1: a session that is used waits anew.
func TestAgain(t *testing.T) {
	e := made(t, config.Base())
	p := datagram(host, 5000, far, 53)
	b := []api.Binding{bound(0, 17, host, 5000, outer, 5000)}
	for now := 0; now < 2000; now += 299 {
		if n := e.Advance(now); n != 0 {
			t.Fatalf("Advance(%d) = %d", now, n)
		}
		goesOut(t, e, 0, p, from(p, outer, 5000))
		stays(t, e, view(now, b, talk(0, 0, now+300, far, 53)))
	}
}

// P27.2: what is no packet, and from where none comes.
func TestOutForm(t *testing.T) {
	good := datagram(host, 5000, far, 53)
	e := made(t, config.Base())
	for _, i := range []int{-1, 2, math.MinInt, math.MaxInt} {
		dropsOut(t, e, i, good, api.DropForm)
	}
	for _, p := range malformed(good) {
		dropsOut(t, e, 0, p, api.DropForm)
	}
	dropsOut(t, e, 0, api.V4{}, api.DropProto)
	dropsOut(t, e, 0, whole(99, host, far, []byte("any")), api.DropProto)
	dropsOut(t, e, 2, whole(99, host, far, []byte("any")), api.DropForm)
	for _, kind := range []int{1, 2, 6, 7, 9, 10, 13, 17, 255} {
		dropsOut(t, e, 0, message(host, far, api.ICMP{Type: kind, Data: []byte("12345678")}), api.DropProto)
	}
	goesOut(t, e, 0, good, from(good, outer, 5000))
}

// malformed are packets that may not be, or are of another form, one of each protocol among them.
func malformed(good api.V4) []api.V4 {
	changed := func(change func(p *api.V4)) api.V4 {
		p := good
		p.Data = slices.Clone(good.Data)
		change(&p)
		return p
	}
	return []api.V4{
		changed(func(p *api.V4) { p.TTL = 256 }),
		changed(func(p *api.V4) { p.Src = -1 }),
		changed(func(p *api.V4) { p.Dst = 1 << 32 }),
		changed(func(p *api.V4) { p.Options = []byte{1} }),
		changed(func(p *api.V4) { p.Data = make([]byte, 65536) }),
		changed(func(p *api.V4) { p.MF, p.Data = true, make([]byte, 8) }),
		changed(func(p *api.V4) { p.Off = 8 }),
		changed(func(p *api.V4) { p.Off = -8 }),
		changed(func(p *api.V4) { p.Proto, p.Off = 99, 8 }),
		changed(func(p *api.V4) { p.Proto, p.TTL = 99, -1 }),
		changed(func(p *api.V4) { p.Data = p.Data[:7] }),
		changed(func(p *api.V4) { p.Data[9]++ }),
		changed(func(p *api.V4) { p.Proto = 6 }),
		changed(func(p *api.V4) { p.Proto = 1 }),
		changed(func(p *api.V4) { p.Proto, p.Data = 1, nil }),
		changed(func(p *api.V4) { p.Proto, p.Data = 1, []byte{8, 0, 0, 0, 0, 0, 0, 0} }),
		changed(func(p *api.V4) { p.Proto, p.Data = 1, []byte{3, 0, 0, 0, 0, 0, 0, 0} }),
	}
}

// P27.2: one binding of an inner endpoint, whoever it sends to; another for another protocol, address, port or softwire.
func TestOutBindings(t *testing.T) {
	e := made(t, config.Base())
	var want []api.Binding
	for _, c := range []struct {
		softwire  int
		p         api.V4
		addr      int
		port      int
		proto     int
		outerPort int
		isNew     bool
	}{
		{0, datagram(host, 5000, far, 53), host, 5000, 17, 5000, true},
		{0, datagram(host, 5000, far, 54), host, 5000, 17, 5000, false},
		{0, datagram(host, 5000, far2, 53), host, 5000, 17, 5000, false},
		{1, datagram(host, 5000, far, 53), host, 5000, 17, 5002, true},
		{0, datagram(other, 5000, far, 53), other, 5000, 17, 5004, true},
		{0, datagram(host, 5001, far, 53), host, 5001, 17, 5001, true},
		{0, segment(host, 5000, far, 53, api.FlagSyn), host, 5000, 6, 5000, true},
		{0, ping(host, far, 5000), host, 5000, 1, 5000, true},
		{1, ping(host, far, 5000), host, 5000, 1, 1024, true},
		{0, datagram(host, 0, far, 0), host, 0, 17, 1024, true},
	} {
		goesOut(t, e, c.softwire, c.p, from(c.p, outer, c.outerPort))
		if c.isNew {
			want = append(want, bound(c.softwire, c.proto, c.addr, c.port, outer, c.outerPort))
		}
		if got := e.View().Bindings; !slices.Equal(got, want) {
			t.Fatalf("bindings are %v; want %v", got, want)
		}
	}
}

// P27.2: which address of the pool is tried first, and that the others are tried behind it.
func TestOutPool(t *testing.T) {
	c := with(func(c *api.Config) {
		c.Pool, c.Lo, c.Hi, c.Quota = []int{outer, second}, 2000, 2001, 4
		c.Softwires = append(c.Softwires, api.Six{0x20, 1, 15: 9})
	})
	e := made(t, c)
	for _, x := range []struct{ softwire, port, addr, want int }{
		{1, 2000, second, 2000},
		{1, 2001, second, 2001},
		{1, 2002, outer, 2000},
		{2, 7, outer, 2001},
	} {
		p := datagram(host, x.port, far, 53)
		goesOut(t, e, x.softwire, p, from(p, x.addr, x.want))
	}
	dropsOut(t, e, 0, datagram(host, 7, far, 53), api.DropPool)
	dropsOut(t, e, 1, datagram(host, 7, far, 53), api.DropPool)
	p := segment(host, 7, far, 53, api.FlagSyn)
	goesOut(t, e, 0, p, from(p, outer, 2001))
	// What was refused took no quota: three are of this softwire, and one more may be.
	if n := e.Flush(2); n != 1 {
		t.Errorf("Flush(2) = %d", n)
	}
	p = datagram(host, 7, far, 53)
	goesOut(t, e, 1, p, from(p, outer, 2001))
	dropsOut(t, e, 1, datagram(host, 8, far, 53), api.DropQuota)
}

// P27.2: the reasons' order, and that what is refused takes nothing.
func TestOutOrder(t *testing.T) {
	e := made(t, with(func(c *api.Config) { c.Lo, c.Hi, c.Quota, c.Bindings, c.Sessions = 2000, 2001, 2, 3, 4 }))
	p := datagram(host, 2000, far, 1)
	goesOut(t, e, 0, p, from(p, outer, 2000))
	p = datagram(host, 2001, far, 1)
	goesOut(t, e, 0, p, from(p, outer, 2001))
	dropsOut(t, e, 0, datagram(host, 5, far, 1), api.DropQuota) // and no port is left
	for range 3 {
		dropsOut(t, e, 1, datagram(host, 5, far, 1), api.DropPool)
	}
	p = ping(host, far, 2000)
	goesOut(t, e, 1, p, from(p, outer, 2000))
	dropsOut(t, e, 0, ping(host, far, 9), api.DropQuota) // and no binding is left
	for range 3 {
		dropsOut(t, e, 1, datagram(host, 5, far, 1), api.DropFull) // bindings; and no port is left
	}
	p = ping(host, far2, 2000)
	goesOut(t, e, 1, p, from(p, outer, 2000))
	dropsOut(t, e, 0, ping(host, far, 9), api.DropFull)                                    // sessions; and no quota is left
	dropsOut(t, e, 0, datagram(host, 2000, far, 2), api.DropFull)                          // there is a binding
	dropsOut(t, e, 0, segment(host, 2000, far, 2, api.FlagAck), api.DropState)             // ahead of DropFull
	dropsOut(t, e, 0, pong(host, far, 9), api.DropBinding)                                 // ahead of DropFull
	dropsOut(t, e, 0, segment(host, 2000, far, 2, api.FlagSyn|api.FlagRst), api.DropState) // no beginning
	p = datagram(host, 2000, far, 1)
	goesOut(t, e, 0, p, from(p, outer, 2000)) // what has a session needs no room
}

// P27.2: answers need a binding, and no session with who is answered.
func TestOutReply(t *testing.T) {
	fixed := static(0, 1, host, 9, outer, 9)
	e := made(t, with(func(c *api.Config) { c.Static = []api.Static{fixed} }))
	dropsOut(t, e, 0, pong(host, far, 7), api.DropBinding)
	dropsOut(t, e, 1, pong(host, far, 9), api.DropBinding)
	p := pong(host, far, 9)
	goesOut(t, e, 0, p, from(p, outer, 9))
	q := ping(host, far, 7)
	goesOut(t, e, 0, q, from(q, outer, 1024))
	p = pong(host, far2, 7)
	goesOut(t, e, 0, p, from(p, outer, 1024))
	stays(t, e, view(0, []api.Binding{told(fixed), bound(0, 1, host, 7, outer, 1024)},
		talk(0, 0, 60, far, 0), talk(1, 0, 60, far, 0), talk(1, 0, 60, far2, 0)))
}

// P27.2, P27.3: the states of a session, by segments both ways.
func TestStates(t *testing.T) {
	const syn, ack, fin, rst = api.FlagSyn, api.FlagAck, api.FlagFin, api.FlagRst
	e := made(t, config.Base())
	for i, c := range []struct {
		out          bool
		flags, state int
		wait         int
	}{
		{true, syn, api.StateOut, 240},
		{true, syn, api.StateOut, 240},
		{false, ack, api.StateOut, 240},
		{false, syn | ack, api.StateOpen, 7440},
		{true, ack, api.StateOpen, 7440},
		{false, fin | ack, api.StateFinIn, 240},
		{true, ack, api.StateFinIn, 240},
		{true, fin, api.StateDone, 240},
		{false, syn, api.StateIn, 240},
		{true, syn, api.StateOpen, 7440},
		{true, fin, api.StateFinOut, 240},
		{false, rst, api.StateDone, 240},
	} {
		e.Advance(i)
		if c.out {
			p := segment(host, 5000, far, 80, c.flags)
			goesOut(t, e, 0, p, from(p, outer, 5000))
		} else {
			p := segment(far, 80, outer, 5000, c.flags)
			comesIn(t, e, p, 0, to(p, host, 5000))
		}
		stays(t, e, view(i, []api.Binding{bound(0, 6, host, 5000, outer, 5000)}, talk(0, c.state, i+c.wait, far, 80)))
	}
}

// P27.3: what is no packet, or of no binding.
func TestInForm(t *testing.T) {
	e := made(t, config.Base())
	p := datagram(host, 5000, far, 53)
	goesOut(t, e, 1, p, from(p, outer, 5000))
	good := datagram(far, 53, outer, 5000)
	for _, p := range malformed(good) {
		dropsIn(t, e, p, api.DropForm)
	}
	dropsIn(t, e, whole(99, far, outer, []byte("any")), api.DropProto)
	dropsIn(t, e, message(far, outer, api.ICMP{Type: 13}), api.DropProto)
	dropsIn(t, e, datagram(far, 53, outer, 5001), api.DropBinding)
	dropsIn(t, e, datagram(far, 53, second, 5000), api.DropBinding)
	dropsIn(t, e, segment(far, 53, outer, 5000, api.FlagSyn), api.DropBinding)
	dropsIn(t, e, ping(far, outer, 5000), api.DropBinding)
	comesIn(t, e, good, 1, to(good, host, 5000))
}

// P27.3: whom bindings let in, by the filter and by whom was sent to.
func TestInFilter(t *testing.T) {
	for _, c := range []struct {
		filter              int
		same, port, foreign bool // is let in: who was sent to, another port of it, somebody else?
	}{
		{api.FilterNone, true, true, true},
		{api.FilterAddress, true, true, false},
		{api.FilterPort, true, false, false},
	} {
		fixed := static(1, 17, host, 7, outer, 80)
		e := made(t, with(func(s *api.Config) { s.Filter, s.Static = c.filter, []api.Static{fixed} }))
		p := datagram(host, 5000, far, 53)
		goesOut(t, e, 0, p, from(p, outer, 5000))
		p = datagram(other, 5002, far2, 53) // by another binding, which lets none in here
		goesOut(t, e, 0, p, from(p, outer, 5002))
		for _, x := range []struct {
			p  api.V4
			ok bool
		}{
			{datagram(far, 53, outer, 5000), c.same},
			{datagram(far, 54, outer, 5000), c.port},
			{datagram(far2, 53, outer, 5000), c.foreign},
		} {
			if x.ok {
				ahead := e.View()
				comesIn(t, e, x.p, 0, to(x.p, host, 5000))
				stays(t, e, ahead) // no session, and no waiting, is of what comes in
			} else {
				dropsIn(t, e, x.p, api.DropFilter)
			}
		}
		p = datagram(far2, 1, outer, 80) // whoever sends to what was told
		comesIn(t, e, p, 1, to(p, host, 7))
	}
}

// P27.3: queries have no port of who sends them.
func TestInPing(t *testing.T) {
	e := made(t, config.Base())
	p := ping(host, far, 7)
	goesOut(t, e, 1, p, from(p, outer, 1024))
	for _, p := range []api.V4{pong(far, outer, 1024), ping(far, outer, 1024)} {
		comesIn(t, e, p, 1, to(p, host, 7))
	}
	dropsIn(t, e, pong(far2, outer, 1024), api.DropFilter)
	dropsIn(t, e, pong(far, outer, 7), api.DropBinding)
}

// P27.3: segments that begin a session from outside, and where there is no room for it.
func TestInSegments(t *testing.T) {
	fixed := static(1, 6, host, 8080, outer, 80)
	e := made(t, with(func(c *api.Config) { c.Sessions, c.Static = 1, []api.Static{fixed} }))
	dropsIn(t, e, segment(far, 9, outer, 80, api.FlagAck), api.DropState)
	dropsIn(t, e, segment(far, 9, outer, 80, api.FlagSyn|api.FlagRst), api.DropState)
	p := segment(far, 9, outer, 80, api.FlagSyn)
	comesIn(t, e, p, 1, to(p, host, 8080))
	want := view(0, []api.Binding{told(fixed)}, talk(0, api.StateIn, 240, far, 9))
	stays(t, e, want)
	dropsIn(t, e, segment(far, 10, outer, 80, api.FlagAck), api.DropState) // ahead of DropFull
	dropsIn(t, e, segment(far, 10, outer, 80, api.FlagSyn), api.DropFull)
	dropsIn(t, e, segment(far2, 9, outer, 80, api.FlagSyn), api.DropFull)
	comesIn(t, e, p, 1, to(p, host, 8080))
	stays(t, e, want)
	q := segment(host, 8080, far, 9, api.FlagSyn|api.FlagAck)
	goesOut(t, e, 1, q, from(q, outer, 80))
	stays(t, e, view(0, want.Bindings, talk(0, api.StateOpen, 7440, far, 9)))
}

// P27.3: the filter is asked ahead of the state, and a session begins from outside only where it lets in.
func TestInFilterFirst(t *testing.T) {
	e := made(t, with(func(c *api.Config) { c.Filter = api.FilterAddress }))
	p := segment(host, 5000, far, 80, api.FlagSyn)
	goesOut(t, e, 0, p, from(p, outer, 5000))
	dropsIn(t, e, segment(far2, 80, outer, 5000, api.FlagAck), api.DropFilter)
	dropsIn(t, e, segment(far, 81, outer, 5000, api.FlagAck), api.DropState)
	p = segment(far, 81, outer, 5000, api.FlagSyn)
	comesIn(t, e, p, 0, to(p, host, 5000))
	stays(t, e, view(0, []api.Binding{bound(0, 6, host, 5000, outer, 5000)},
		talk(0, api.StateOut, 240, far, 80), talk(0, api.StateIn, 240, far, 81)))
}

// telling is p with its message's quote changed, its own address too, as the chapter says of faults.
func telling(t *testing.T, p api.V4, out bool, addr, port int) api.V4 {
	t.Helper()
	m, e := icmp.Parse(p.Data)
	if e != api.OK {
		t.Fatal(e)
	}
	m, e = quote.Message(m, !out, addr, port)
	if e != api.OK {
		t.Fatal(e)
	}
	p.Data, _ = icmp.Build(m)
	if out {
		p.Src = addr
	} else {
		p.Dst = addr
	}
	return p
}

// P27.2, P27.3: faults of each protocol, both ways: they go by what they quote, and change nothing.
func TestFaults(t *testing.T) {
	for _, kind := range []int{3, 4, 5, 11, 12} {
		for _, sent := range []api.V4{
			datagram(host, 5000, far, 53),
			segment(host, 5000, far, 80, api.FlagSyn),
			ping(host, far, 5000),
		} {
			e := made(t, config.Base())
			goesOut(t, e, 0, sent, from(sent, outer, 5000)) // so that behind the softwire 1 it is not
			gone, why := e.Out(1, sent)
			x, _ := ports.Of(gone)
			if why != api.DropNone {
				t.Fatal(why)
			}
			e.Advance(5)
			ahead := e.View()
			const router = 0xC0000201 // nobody was ever sent to it, which no filter looks at
			in := fault(router, outer, kind, gone)
			comesIn(t, e, in, 1, telling(t, in, false, host, 5000))
			_, got, _ := e.In(in)
			m, errno := icmp.Parse(got.Data)
			if b, _ := v4.Build(sent); errno != api.OK || !bytes.Equal(m.Data, b) {
				t.Errorf("what is quoted of %v is %v, not what was sent, %d", gone, m.Data, errno)
			}
			_, arrived, why := e.In(answerOf(t, gone))
			if why != api.DropNone {
				t.Fatal(why)
			}
			ahead = e.View()
			out := fault(other, far, kind, arrived) // by a router behind the softwire, which has no binding
			goesOut(t, e, 1, out, telling(t, out, true, outer, x.Src))
			stays(t, e, ahead)
		}
	}
}

// answerOf is what comes back to p.
func answerOf(t *testing.T, p api.V4) api.V4 {
	t.Helper()
	x, e := ports.Of(p)
	switch {
	case e != api.OK:
		t.Fatal(e)
	case x.Proto == 17:
		return datagram(p.Dst, x.Dst, p.Src, x.Src)
	case x.Proto == 6:
		return segment(p.Dst, x.Dst, p.Src, x.Src, api.FlagSyn|api.FlagAck)
	}
	return pong(p.Dst, p.Src, x.Src)
}

// P27.2, P27.3: faults that quote too little, or what has no binding.
func TestFaultsDropped(t *testing.T) {
	e := made(t, config.Base())
	sent := datagram(host, 5000, far, 53)
	goesOut(t, e, 1, sent, from(sent, outer, 5000))
	gone, arrived := from(sent, outer, 5000), datagram(far, 53, host, 5000)
	short := func(p api.V4, n int) api.V4 {
		b, _ := v4.Build(p)
		return message(far, outer, api.ICMP{Type: 3, Data: b[:n]})
	}
	fragment := gone
	fragment.Off = 8
	for _, p := range []api.V4{
		message(far, outer, api.ICMP{Type: 3}),
		short(gone, 24+7),
		short(gone, 19),
		fault(far, outer, 3, fragment),
		fault(far, outer, 3, whole(99, outer, far, make([]byte, 8))),
		fault(far, outer, 3, fault(outer, far, 3, arrived)),
	} {
		dropsIn(t, e, p, api.DropForm)
		dropsOut(t, e, 1, p, api.DropForm)
	}
	for _, change := range []func(p *api.V4){
		func(p *api.V4) { p.TTL = 256 },
		func(p *api.V4) { p.Off = 8 },
		func(p *api.V4) { p.MF = true },
	} {
		p, q := short(gone, 24+8), short(arrived, 24+8)
		change(&p)
		change(&q)
		dropsIn(t, e, p, api.DropForm)
		dropsOut(t, e, 1, q, api.DropForm)
	}
	p := short(gone, 24+8)
	comesIn(t, e, p, 1, telling(t, p, false, host, 5000))
	dropsIn(t, e, fault(far, outer, 3, from(sent, outer, 5001)), api.DropBinding)
	dropsIn(t, e, fault(far, outer, 3, from(sent, second, 5000)), api.DropBinding)
	dropsIn(t, e, fault(far, outer, 3, segment(outer, 5000, far, 53, 2)), api.DropBinding)
	out := fault(host, far, 3, arrived)
	goesOut(t, e, 1, out, telling(t, out, true, outer, 5000))
	dropsOut(t, e, 0, out, api.DropBinding)
	dropsOut(t, e, 2, out, api.DropForm)
	dropsOut(t, e, 1, fault(host, far, 3, datagram(far, 53, host, 5001)), api.DropBinding)
	dropsOut(t, e, 1, fault(host, far, 3, datagram(far, 53, other, 5000)), api.DropBinding)
	dropsOut(t, e, 1, fault(host, far, 3, sent), api.DropBinding)
}

// P27.4: all goes that a softwire has, but what was told.
func TestFlush(t *testing.T) {
	fixed := static(0, 17, other, 7, outer, 80)
	e := made(t, with(func(c *api.Config) { c.Quota, c.Static = 3, []api.Static{fixed} }))
	p, q, r := datagram(host, 5000, far, 53), datagram(host, 5002, far2, 53), datagram(other, 7, far, 9)
	s := datagram(host, 5000, far2, 9)
	goesOut(t, e, 0, p, from(p, outer, 5000))
	goesOut(t, e, 1, p, from(p, outer, 5002))
	goesOut(t, e, 0, q, from(q, outer, 5004))
	goesOut(t, e, 0, r, from(r, outer, 80))
	goesOut(t, e, 0, s, from(s, outer, 5000))
	ahead := e.View()
	for _, i := range []int{-1, 2, math.MaxInt, math.MinInt} {
		if n := e.Flush(i); n != 0 {
			t.Errorf("Flush(%d) = %d", i, n)
		}
		stays(t, e, ahead)
	}
	if n := e.Flush(0); n != 2 {
		t.Errorf("Flush(0) = %d; want 2", n)
	}
	stays(t, e, view(0, []api.Binding{told(fixed), bound(1, 17, host, 5000, outer, 5002)}, talk(1, 0, 300, far, 53)))
	if n := e.Flush(0); n != 0 {
		t.Errorf("Flush(0) = %d behind itself", n)
	}
	goesOut(t, e, 0, p, from(p, outer, 5000)) // the ports are free again, and the quota, too
	goesOut(t, e, 0, q, from(q, outer, 5004))
	dropsOut(t, e, 0, datagram(host, 1, far, 1), api.DropQuota)
	e.Flush(0)
	if n := e.Advance(299); n != 0 {
		t.Errorf("Advance(299) = %d", n)
	}
	if n := e.Advance(300); n != 1 {
		t.Errorf("Advance(300) = %d; want 1, since what was flushed is gone already", n)
	}
	stays(t, e, view(300, []api.Binding{told(fixed)}))
}

// P27.4: a number of a session that was flushed waits as its next one does.
func TestFlushTimers(t *testing.T) {
	e := made(t, config.Base())
	p := ping(host, far, 7)
	goesOut(t, e, 0, p, from(p, outer, 1024))
	e.Advance(30)
	e.Flush(0)
	q := datagram(host, 5000, far, 53)
	goesOut(t, e, 0, q, from(q, outer, 5000))
	if n := e.Advance(60); n != 0 {
		t.Errorf("Advance(60) = %d: the new session went by the old one's time", n)
	}
	stays(t, e, view(60, []api.Binding{bound(0, 17, host, 5000, outer, 5000)}, talk(0, 0, 330, far, 53)))
}

// P27.4: what may not be told, each fault alone and ahead of those behind it.
func TestMap(t *testing.T) {
	c := with(func(c *api.Config) { c.Quota, c.Bindings, c.Pool = 2, 3, []int{outer, second} })
	c.Static = []api.Static{static(0, 17, host, 1, outer, 1)}
	e := made(t, c)
	p := datagram(host, 5000, far, 53)
	goesOut(t, e, 0, p, from(p, outer, 5000))
	refuse := func(s api.Static, want api.Errno) {
		t.Helper()
		ahead := e.View()
		if errno := e.Map(s); errno != want {
			t.Errorf("Map(%v) = %d; want %d", s, errno, want)
		}
		stays(t, e, ahead)
	}
	for _, change := range []func(*api.Static){
		func(s *api.Static) { s.Inner.Softwire = 2 },
		func(s *api.Static) { s.Inner.Softwire = -1 },
		func(s *api.Static) { s.Inner.Proto, s.Outer.Proto = 2, 2 },
		func(s *api.Static) { s.Inner.Proto, s.Outer.Proto = 0, 0 },
		func(s *api.Static) { s.Inner.Proto = 6 },
		func(s *api.Static) { s.Outer.Proto = 1 },
		func(s *api.Static) { s.Inner.Addr = 0 },
		func(s *api.Static) { s.Inner.Addr = 0x7F000001 },
		func(s *api.Static) { s.Inner.Addr = -1 },
		func(s *api.Static) { s.Outer.Addr = far },
		func(s *api.Static) { s.Inner.Port = -1 },
		func(s *api.Static) { s.Inner.Port = 65536 },
		func(s *api.Static) { s.Outer.Port = -1 },
		func(s *api.Static) { s.Outer.Port = 65536 },
	} {
		s := static(0, 17, host, 1, outer, 1) // which is there already, and of a softwire with no binding left
		change(&s)
		refuse(s, api.ErrArg)
	}
	refuse(static(0, 17, host, 1, outer, 2), api.ErrTwice)
	refuse(static(0, 17, host, 5000, outer, 2), api.ErrTwice)
	refuse(static(0, 17, other, 2, outer, 1), api.ErrTwice)
	refuse(static(1, 17, other, 2, outer, 5000), api.ErrTwice)
	refuse(static(0, 17, other, 2, outer, 2), api.ErrQuota)
	third := static(1, 17, host, 1, second, 1)
	if errno := e.Map(third); errno != api.OK {
		t.Fatalf("Map = %d", errno)
	}
	stays(t, e, view(0, []api.Binding{told(c.Static[0]), bound(0, 17, host, 5000, outer, 5000), told(third)}, talk(1, 0, 300, far, 53)))
	refuse(static(0, 17, other, 2, outer, 2), api.ErrQuota) // ahead of ErrFull
	for range 3 {
		refuse(static(1, 17, other, 2, outer, 2), api.ErrFull)
	}
	if n := e.Flush(0); n != 1 {
		t.Errorf("Flush = %d", n)
	}
	if errno := e.Map(static(1, 6, other, 0, outer, 65535)); errno != api.OK {
		t.Errorf("Map = %d: what was refused took some of the quota", errno)
	}
	if errno := e.Map(static(1, 6, other, 65535, outer, 0)); errno != api.ErrQuota {
		t.Errorf("Map = %d; want %d", errno, api.ErrQuota)
	}
}

// P27.4: a port that was told is given out to nobody, till it is free again.
func TestMapKeeps(t *testing.T) {
	e := made(t, config.Base())
	if errno := e.Map(static(1, 17, other, 9, outer, 5000)); errno != api.OK {
		t.Fatal(errno)
	}
	p := datagram(host, 5000, far, 53)
	goesOut(t, e, 0, p, from(p, outer, 5002))
	e.Flush(0)
	if errno := e.Unmap(inner(1, 17, other, 9)); errno != api.OK {
		t.Fatal(errno)
	}
	goesOut(t, e, 0, p, from(p, outer, 5000))
}

// P27.4: what was told goes when it is told to, with its sessions, and nothing else does.
func TestUnmap(t *testing.T) {
	one, two := static(0, 6, host, 80, outer, 80), static(0, 17, host, 80, outer, 80)
	e := made(t, with(func(c *api.Config) { c.Quota, c.Static = 3, []api.Static{one, two} }))
	p := datagram(host, 5000, far, 53)
	goesOut(t, e, 0, p, from(p, outer, 5000))
	for i := range 3 {
		q := segment(far, 1+i, outer, 80, api.FlagSyn)
		comesIn(t, e, q, 0, to(q, host, 80))
	}
	refuse := func(in api.Inner) {
		t.Helper()
		ahead := e.View()
		if errno := e.Unmap(in); errno != api.ErrNone {
			t.Errorf("Unmap(%v) = %d; want %d", in, errno, api.ErrNone)
		}
		stays(t, e, ahead)
	}
	for _, in := range []api.Inner{
		{}, inner(1, 6, host, 80), inner(0, 1, host, 80), inner(0, 6, other, 80), inner(0, 6, host, 81),
		inner(0, 17, host, 5000), inner(-1, -1, -1, -1), inner(math.MaxInt, math.MinInt, 0, 0),
	} {
		refuse(in)
	}
	if errno := e.Unmap(one.Inner); errno != api.OK {
		t.Errorf("Unmap = %d", errno)
	}
	refuse(one.Inner)
	stays(t, e, view(0, []api.Binding{told(two), bound(0, 17, host, 5000, outer, 5000)}, talk(1, 0, 300, far, 53)))
	dropsIn(t, e, segment(far, 1, outer, 80, api.FlagSyn), api.DropBinding)
	if errno := e.Map(one); errno != api.OK { // its port is free again, and the quota, too
		t.Errorf("Map = %d", errno)
	}
	stays(t, e, view(0, []api.Binding{told(one), told(two), bound(0, 17, host, 5000, outer, 5000)}, talk(2, 0, 300, far, 53)))
	if n := e.Advance(300); n != 1 {
		t.Errorf("Advance = %d; want 1", n)
	}
}

// P27.4: places in the view are those of its list, not the numbers of bindings, and sessions stand by their numbers.
func TestView(t *testing.T) {
	e := made(t, config.Base())
	for i := range 3 {
		p := datagram(host, 5000+i, far, 53)
		goesOut(t, e, i%2, p, from(p, outer, 5000+i))
	}
	if n := e.Flush(0); n != 2 {
		t.Fatal(n)
	}
	one := bound(1, 17, host, 5001, outer, 5001)
	stays(t, e, view(0, []api.Binding{one}, talk(0, 0, 300, far, 53)))
	p := datagram(host, 5001, far2, 1)
	goesOut(t, e, 1, p, from(p, outer, 5001))
	q := ping(host, far, 7)
	goesOut(t, e, 0, q, from(q, outer, 1024))
	want := view(0, []api.Binding{bound(0, 1, host, 7, outer, 1024), one},
		talk(1, 0, 300, far2, 1), talk(1, 0, 300, far, 53), talk(0, 0, 60, far, 0))
	stays(t, e, want)
	// R3: who gets a view may change it.
	v := e.View()
	v.Bindings[0], v.Sessions[0] = api.Binding{}, api.Session{}
	_ = append(v.Bindings[:1], api.Binding{})
	stays(t, e, want)
}

// R5, P27.4: engines that no call made.
func TestNoEngine(t *testing.T) {
	for _, e := range []*napt.Engine{nil, {}} {
		p := datagram(host, 5000, far, 53)
		if got, why := e.Out(0, p); why != api.DropForm || !reflect.DeepEqual(got, api.V4{}) {
			t.Errorf("Out = %v, %d", got, why)
		}
		if i, got, why := e.In(p); i != 0 || why != api.DropForm || !reflect.DeepEqual(got, api.V4{}) {
			t.Errorf("In = %d, %v, %d", i, got, why)
		}
		if a, f := e.Advance(5), e.Flush(0); a != 0 || f != 0 {
			t.Errorf("Advance, Flush = %d, %d", a, f)
		}
		m, u := e.Map(static(0, 17, host, 1, outer, 1)), e.Unmap(inner(0, 17, host, 1))
		if m != api.ErrNil || u != api.ErrNil {
			t.Errorf("Map, Unmap = %d, %d", m, u)
		}
		if v := e.View(); !reflect.DeepEqual(v, api.View{}) {
			t.Errorf("View = %v", v)
		}
		if e.Now() != 0 || e.Has(outer) || e.Has(0) {
			t.Error("Now, Has answer something")
		}
	}
}

// spare is p whose lists have room behind them, and what checks that they, and the room, stay as they are.
func spare(t *testing.T, p api.V4) (api.V4, func()) {
	room := func(b []byte) []byte { return append(slices.Clip(slices.Clone(b)), "spare room"...)[:len(b)] }
	p.Options, p.Data = room(p.Options), room(p.Data)
	options, data := slices.Clone(p.Options[:cap(p.Options)]), slices.Clone(p.Data[:cap(p.Data)])
	return p, func() {
		t.Helper()
		if !bytes.Equal(p.Options[:cap(p.Options)], options) || !bytes.Equal(p.Data[:cap(p.Data)], data) {
			t.Error("what was handed in was changed")
		}
	}
}

// spoil changes all that p has, and what is behind it.
func spoil(p api.V4) {
	for _, b := range [][]byte{p.Options, p.Data} {
		b = b[:cap(b)]
		for i := range b {
			b[i] ^= 0xFF
		}
	}
}

// R3: nothing is shared, whichever way a packet goes.
func TestShared(t *testing.T) {
	for _, sent := range []api.V4{
		datagram(host, 5000, far, 53),
		segment(host, 5000, far, 80, api.FlagSyn),
		ping(host, far, 5000),
		fault(host, far, 3, datagram(far, 53, host, 5000)),
	} {
		e := made(t, config.Base())
		e.Out(0, datagram(host, 5000, far, 53))
		p, untouched := spare(t, sent)
		got, why := e.Out(0, p)
		if why != api.DropNone {
			t.Fatal(why)
		}
		spoil(got)
		untouched()
		back := fault(far, outer, 3, from(datagram(host, 5000, far, 53), outer, 5000))
		if _, e := ports.Of(sent); e == api.OK {
			back = answerOf(t, from(sent, outer, 5000))
		}
		p, untouched = spare(t, back)
		_, got, why = e.In(p)
		if why != api.DropNone {
			t.Fatal(why)
		}
		spoil(got)
		untouched()
	}
}
