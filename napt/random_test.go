package napt_test

import (
	"math/rand/v2"
	"slices"
	"testing"

	"goosepond/api"
	"goosepond/config"
	"goosepond/icmp"
	"goosepond/ports"
	"goosepond/quote"
	"goosepond/state"
)

// plain is a translator that has lists alone, and looks through them as the chapter's sentences say.
type plain struct {
	c        api.Config
	now      int
	bindings [16]*api.Binding // by their numbers
	sessions [16]*api.Session
}

func newPlain(c api.Config) *plain {
	x := &plain{c: c}
	for _, s := range c.Static {
		x.add(api.Binding{Inner: s.Inner, Outer: s.Outer, Static: true})
	}
	return x
}

// find is the number of the first one of l that is right, or -1.
func find[T any](l []*T, right func(T) bool) int {
	return slices.IndexFunc(l, func(x *T) bool { return x != nil && right(*x) })
}

func count[T any](l []*T, right func(T) bool) (n int) {
	for _, x := range l {
		if x != nil && right(*x) {
			n++
		}
	}
	return n
}

func (x *plain) add(b api.Binding) int {
	i := slices.Index(x.bindings[:], nil)
	x.bindings[i] = &b
	return i
}

func (x *plain) byInner(in api.Inner) int {
	return find(x.bindings[:], func(b api.Binding) bool { return b.Inner == in })
}

func (x *plain) byOuter(o api.Outer) int {
	return find(x.bindings[:], func(b api.Binding) bool { return b.Outer == o })
}

func (x *plain) talk(binding int, r api.Remote) int {
	return find(x.sessions[:], func(s api.Session) bool { return s.Binding == binding && s.Remote == r })
}

func (x *plain) howMany() (bindings, sessions int) {
	return count(x.bindings[:], func(api.Binding) bool { return true }), count(x.sessions[:], func(api.Session) bool { return true })
}

func (x *plain) hasOf(softwire int) int {
	return count(x.bindings[:], func(b api.Binding) bool { return b.Inner.Softwire == softwire })
}

// try is the first outer endpoint that is free, for so few ports that all may be listed.
func (x *plain) try(proto, want, first int) (api.Outer, bool) {
	var tried []int
	class := func(n int) bool { return n < 1024 }
	add := func(right func(n int) bool) {
		for n := x.c.Lo; n <= x.c.Hi; n++ {
			if right(n) && !slices.Contains(tried, n) {
				tried = append(tried, n)
			}
		}
	}
	add(func(n int) bool { return n == want })
	if proto != 1 {
		alike := func(n int) bool { return n%2 == want%2 }
		add(func(n int) bool { return alike(n) && class(n) == class(want) && n > want })
		add(func(n int) bool { return alike(n) && class(n) == class(want) })
		add(alike)
	}
	add(func(int) bool { return true })
	for i := range x.c.Pool {
		for _, port := range tried {
			o := api.Outer{Proto: proto, Addr: x.c.Pool[(first+i)%len(x.c.Pool)], Port: port}
			if x.byOuter(o) < 0 {
				return o, true
			}
		}
	}
	return api.Outer{}, false
}

// put is a session with a state, old or new.
func (x *plain) put(binding, proto int, r api.Remote, now int) {
	i := x.talk(binding, r)
	if i < 0 {
		i = slices.Index(x.sessions[:], nil)
		x.sessions[i] = &api.Session{Binding: binding, Remote: r}
	}
	x.sessions[i].State, x.sessions[i].Until = now, min(x.now+config.Wait(x.c, proto, now), api.MaxTime)
}

// look is what a packet that may be is: of a fault what it quotes.
func look(p api.V4) (m api.ICMP, fault bool, src, dst api.Remote, proto, why int) {
	if p.Proto == 1 {
		if m, e := icmp.Parse(p.Data); e == api.OK && icmp.Fault(m.Type) {
			q, n, e := quote.Ports(m.Data)
			if e != api.OK {
				return m, true, src, dst, 0, api.DropForm
			}
			return m, true, api.Remote{Addr: q.Src, Port: n.Src}, api.Remote{Addr: q.Dst, Port: n.Dst}, n.Proto, api.DropNone
		}
	}
	n, e := ports.Of(p)
	switch e {
	case api.OK:
		m, _ = icmp.Parse(p.Data)
		return m, false, api.Remote{Addr: p.Src, Port: n.Src}, api.Remote{Addr: p.Dst, Port: n.Dst}, n.Proto, api.DropNone
	case api.ErrNone:
		return m, false, src, dst, 0, api.DropProto
	}
	return m, false, src, dst, 0, api.DropForm
}

func (x *plain) Out(softwire int, p api.V4) (api.V4, int) {
	if softwire < 0 || softwire >= len(x.c.Softwires) {
		return api.V4{}, api.DropForm
	}
	m, fault, src, dst, proto, why := look(p)
	if why != api.DropNone {
		return api.V4{}, why
	}
	if fault {
		i := x.byInner(api.Inner{Softwire: softwire, Proto: proto, Addr: dst.Addr, Port: dst.Port})
		if i < 0 {
			return api.V4{}, api.DropBinding
		}
		o := x.bindings[i].Outer
		m, _ = quote.Message(m, false, o.Addr, o.Port)
		p.Data, _ = icmp.Build(m)
		p.Src = o.Addr
		return p, api.DropNone
	}
	in := api.Inner{Softwire: softwire, Proto: proto, Addr: src.Addr, Port: src.Port}
	if proto == 1 {
		dst.Port = 0
	}
	b, t, was := x.byInner(in), -1, api.StateNone
	if b >= 0 {
		t = x.talk(b, dst)
	}
	if t >= 0 {
		was = x.sessions[t].State
	}
	next, ok := api.StateNone, true
	if proto == 6 {
		next, ok = state.Next(was, true, ports.Flags(p))
	}
	bindings, sessions := x.howMany()
	if !ok {
		return api.V4{}, api.DropState
	}
	if proto == 1 && m.Type == 0 && b < 0 {
		return api.V4{}, api.DropBinding
	}
	if t < 0 && sessions >= x.c.Sessions {
		return api.V4{}, api.DropFull
	}
	if b < 0 {
		if x.hasOf(softwire) >= x.c.Quota {
			return api.V4{}, api.DropQuota
		}
		if bindings >= x.c.Bindings {
			return api.V4{}, api.DropFull
		}
		o, ok := x.try(proto, src.Port, softwire)
		if !ok {
			return api.V4{}, api.DropPool
		}
		b = x.add(api.Binding{Inner: in, Outer: o})
	}
	x.put(b, proto, dst, next)
	return from(p, x.bindings[b].Outer.Addr, x.bindings[b].Outer.Port), api.DropNone
}

func (x *plain) In(p api.V4) (int, api.V4, int) {
	m, fault, src, dst, proto, why := look(p)
	if why != api.DropNone {
		return 0, api.V4{}, why
	}
	if fault {
		i := x.byOuter(api.Outer{Proto: proto, Addr: src.Addr, Port: src.Port})
		if i < 0 {
			return 0, api.V4{}, api.DropBinding
		}
		in := x.bindings[i].Inner
		m, _ = quote.Message(m, true, in.Addr, in.Port)
		p.Data, _ = icmp.Build(m)
		p.Dst = in.Addr
		return in.Softwire, p, api.DropNone
	}
	b := x.byOuter(api.Outer{Proto: proto, Addr: dst.Addr, Port: dst.Port})
	if b < 0 {
		return 0, api.V4{}, api.DropBinding
	}
	if proto == 1 {
		src.Port = 0
	}
	allowed := x.bindings[b].Static || x.c.Filter == api.FilterNone || find(x.sessions[:], func(s api.Session) bool {
		return s.Binding == b && s.Remote.Addr == src.Addr && (x.c.Filter == api.FilterAddress || s.Remote.Port == src.Port)
	}) >= 0
	if !allowed {
		return 0, api.V4{}, api.DropFilter
	}
	if proto == 6 {
		t, was := x.talk(b, src), api.StateNone
		if t >= 0 {
			was = x.sessions[t].State
		}
		next, ok := state.Next(was, false, ports.Flags(p))
		if _, sessions := x.howMany(); !ok {
			return 0, api.V4{}, api.DropState
		} else if t < 0 && sessions >= x.c.Sessions {
			return 0, api.V4{}, api.DropFull
		}
		x.put(b, proto, src, next)
	}
	in := x.bindings[b].Inner
	return in.Softwire, to(p, in.Addr, in.Port), api.DropNone
}

// remove takes a binding out, and its sessions.
func (x *plain) remove(b int, itself bool) {
	for i, s := range x.sessions {
		if s != nil && s.Binding == b {
			x.sessions[i] = nil
		}
	}
	if itself {
		x.bindings[b] = nil
	}
}

func (x *plain) Advance(now int) (gone int) {
	x.now = min(max(x.now, now), api.MaxTime)
	for i, s := range x.sessions {
		if s != nil && s.Until <= x.now {
			x.sessions[i] = nil
		}
	}
	for i, b := range x.bindings {
		if b != nil && !b.Static && find(x.sessions[:], func(s api.Session) bool { return s.Binding == i }) < 0 {
			x.bindings[i] = nil
			gone++
		}
	}
	return gone
}

func (x *plain) Flush(softwire int) (gone int) {
	for i, b := range x.bindings {
		if b != nil && b.Inner.Softwire == softwire {
			x.remove(i, !b.Static)
			if !b.Static {
				gone++
			}
		}
	}
	return gone
}

// Map is of what may be.
func (x *plain) Map(s api.Static) api.Errno {
	bindings, _ := x.howMany()
	switch {
	case x.byInner(s.Inner) >= 0, x.byOuter(s.Outer) >= 0:
		return api.ErrTwice
	case x.hasOf(s.Inner.Softwire) >= x.c.Quota:
		return api.ErrQuota
	case bindings >= x.c.Bindings:
		return api.ErrFull
	}
	x.add(api.Binding{Inner: s.Inner, Outer: s.Outer, Static: true})
	return api.OK
}

func (x *plain) Unmap(in api.Inner) api.Errno {
	i := x.byInner(in)
	if i < 0 || !x.bindings[i].Static {
		return api.ErrNone
	}
	x.remove(i, true)
	return api.OK
}

func (x *plain) View() api.View {
	v := api.View{Now: x.now}
	places := map[int]int{}
	for i, b := range x.bindings {
		if b != nil {
			places[i] = len(v.Bindings)
			v.Bindings = append(v.Bindings, *b)
		}
	}
	for _, s := range x.sessions {
		if s != nil {
			t := *s
			t.Binding = places[s.Binding]
			v.Sessions = append(v.Sessions, t)
			v.Timers++
		}
	}
	return v
}

// dice are what random packets are made by: so few addresses and ports that they meet.
type dice struct{ *rand.Rand }

func (d dice) of(l ...int) int {
	return l[d.IntN(len(l))]
}

func (d dice) within() api.Remote {
	return api.Remote{Addr: d.of(host, other), Port: d.of(1023, 2000, 2001, 2002)}
}

func (d dice) outside() api.Remote {
	return api.Remote{Addr: d.of(far, far2), Port: d.of(80, 53)}
}

func (d dice) pool() api.Remote {
	return api.Remote{Addr: d.of(outer, second), Port: d.of(1022, 1023, 1024, 1025, 1026)}
}

// between is a packet that has ports.
func (d dice) between(a, b api.Remote, id int) api.V4 {
	switch d.IntN(3) {
	case 0:
		return datagram(a.Addr, a.Port, b.Addr, b.Port)
	case 1:
		return segment(a.Addr, a.Port, b.Addr, b.Port, d.of(2, 2, 18, 18, 16, 17, 4, 1, 6))
	}
	return message(a.Addr, b.Addr, api.ICMP{Type: d.of(0, 8, 8), Rest: id<<16 | 7, Data: []byte("abc")})
}

// packet is any packet that goes from a to b, or of which a fault tells; id is the identifier at the side of who has one.
func (d dice) packet(a, b api.Remote, id int, back api.V4) api.V4 {
	switch d.IntN(12) {
	case 0, 1:
		return fault(a.Addr, b.Addr, d.of(3, 11), back)
	case 2:
		return whole(d.of(6, 17, 1, 99), a.Addr, b.Addr, []byte("no bytes of these"))
	case 3:
		return message(a.Addr, b.Addr, api.ICMP{Type: d.of(3, 13), Data: []byte("short")})
	}
	return d.between(a, b, id)
}

// P27.2 to P27.5: whatever comes, it is as of a translator that has lists alone, and its bindings are injective, and within the quota.
func TestRandom(t *testing.T) {
	reasons, gone, mapped := map[int]int{}, 0, map[api.Errno]int{}
	for seed := range uint64(60) {
		d := dice{rand.New(rand.NewPCG(seed, 27))}
		c := with(func(c *api.Config) {
			c.Pool, c.Lo, c.Hi = []int{outer, second}[:1+d.IntN(2)], 1023, 1024+d.IntN(3)
			c.Quota, c.Bindings, c.Sessions = 2+d.IntN(5), 3+d.IntN(6), 2+d.IntN(10)
			c.Filter = d.IntN(3)
			c.Static = []api.Static{static(1, 6, host, 2000, outer, 1025)}
		})
		e, x := made(t, c), newPlain(c)
		for range 1500 {
			in, out, at := d.within(), d.outside(), d.pool()
			switch k := d.IntN(100); {
			case k < 45:
				softwire := d.of(0, 1, 0, 1, 0, 1, 2, -1)
				p := d.packet(in, out, in.Port, d.between(out, in, in.Port))
				got, why := e.Out(softwire, p)
				want, because := x.Out(softwire, p)
				if !same(got, want) || why != because {
					t.Fatalf("Out(%d, %v) = %v, %d; want %v, %d", softwire, p, got, why, want, because)
				}
				reasons[why]++
			case k < 85:
				p := d.packet(out, at, at.Port, d.between(at, out, at.Port))
				i, got, why := e.In(p)
				j, want, because := x.In(p)
				if i != j || !same(got, want) || why != because {
					t.Fatalf("In(%v) = %d, %v, %d; want %d, %v, %d", p, i, got, why, j, want, because)
				}
				reasons[100+why]++
			case k < 92:
				now := x.now + d.of(-1, 0, 30, 60, 100, 240, 300)
				got, want := e.Advance(now), x.Advance(now)
				if got != want {
					t.Fatalf("Advance(%d) = %d; want %d", now, got, want)
				}
				gone += got
			case k < 94:
				softwire := d.of(0, 1, 2)
				if got, want := e.Flush(softwire), x.Flush(softwire); got != want {
					t.Fatalf("Flush(%d) = %d; want %d", softwire, got, want)
				}
			case k < 97:
				s := static(d.of(0, 1), d.of(1, 6, 17), in.Addr, in.Port, c.Pool[0], at.Port)
				s.Outer.Proto = s.Inner.Proto
				got, want := e.Map(s), x.Map(s)
				if got != want {
					t.Fatalf("Map(%v) = %d; want %d", s, got, want)
				}
				mapped[got]++
			default:
				i := inner(d.of(0, 1), d.of(1, 6, 17), in.Addr, in.Port)
				got, want := e.Unmap(i), x.Unmap(i)
				if got != want {
					t.Fatalf("Unmap(%v) = %d; want %d", i, got, want)
				}
			}
			v := e.View()
			if !alike(v, x.View()) {
				t.Fatalf("View = %+v; want %+v", v, x.View())
			}
			injective(t, c, v)
		}
	}
	for _, why := range []int{
		api.DropNone, api.DropForm, api.DropProto, api.DropQuota, api.DropFull, api.DropPool, api.DropState, api.DropBinding,
	} {
		if reasons[why] < 20 {
			t.Errorf("the reason %d was met %d times going out", why, reasons[why])
		}
	}
	for _, why := range []int{
		api.DropNone, api.DropForm, api.DropProto, api.DropFull, api.DropState, api.DropBinding, api.DropFilter,
	} {
		if reasons[100+why] < 20 {
			t.Errorf("the reason %d was met %d times coming in", why, reasons[100+why])
		}
	}
	for _, errno := range []api.Errno{api.OK, api.ErrTwice, api.ErrQuota, api.ErrFull} {
		if mapped[errno] < 20 {
			t.Errorf("Map answered %d only %d times", errno, mapped[errno])
		}
	}
	if gone < 100 {
		t.Errorf("only %d went by time", gone)
	}
}

// same tells whether a and b are the same packet, or both none.
func same(a, b api.V4) bool {
	return a.TOS == b.TOS && a.ID == b.ID && a.Off == b.Off && a.TTL == b.TTL && a.Proto == b.Proto && a.Src == b.Src && a.Dst == b.Dst &&
		a.DF == b.DF && a.MF == b.MF && slices.Equal(a.Options, b.Options) && slices.Equal(a.Data, b.Data)
}

// P27.5: injective from both sides, and within the quota; and no session without a binding.
func injective(t *testing.T, c api.Config, v api.View) {
	t.Helper()
	inners, outers, each := map[api.Inner]int{}, map[api.Outer]int{}, map[int]int{}
	for _, b := range v.Bindings {
		inners[b.Inner]++
		outers[b.Outer]++
		each[b.Inner.Softwire]++
		if inners[b.Inner] > 1 || outers[b.Outer] > 1 || each[b.Inner.Softwire] > c.Quota {
			t.Fatalf("bindings are %v", v.Bindings)
		}
	}
	talks := map[int]int{}
	for _, s := range v.Sessions {
		if s.Binding < 0 || s.Binding >= len(v.Bindings) || s.Until <= v.Now {
			t.Fatalf("sessions are %v", v.Sessions)
		}
		talks[s.Binding]++
	}
	for i, b := range v.Bindings {
		if !b.Static && talks[i] == 0 {
			t.Fatalf("%v has no session", b)
		}
	}
}

// P27.5: no binding that was not told goes ahead of the time of its sessions, however many there are.
func TestMany(t *testing.T) {
	c := with(func(c *api.Config) { c.Quota, c.Bindings, c.Sessions = 4096, 4096, 4096 })
	e := made(t, c)
	for i := range 4096 {
		e.Advance(i / 64)
		p := datagram(host, 2000+i, far, 53)
		goesOut(t, e, i%2, p, from(p, outer, 2000+i))
	}
	dropsOut(t, e, 0, datagram(host, 1, far, 53), api.DropFull)
	for now := range 64 {
		if n := e.Advance(300 + now); n != 64 {
			t.Fatalf("Advance(%d) = %d; want 64", 300+now, n)
		}
	}
	stays(t, e, view(363, nil))
	for i := range 4096 {
		p := datagram(host, 2000, far+i, 53)
		goesOut(t, e, 1, p, from(p, outer, 2000))
	}
	if n := len(e.View().Sessions); n != 4096 {
		t.Errorf("%d sessions", n)
	}
	if n := e.Advance(663); n != 1 {
		t.Errorf("Advance = %d; want 1", n)
	}
	stays(t, e, view(663, nil))
}
