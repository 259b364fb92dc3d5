package b4

import (
	"testing"

	"goosepond/api"
	"goosepond/cut6"
	"goosepond/v4"
	"goosepond/v6"
)

// made is an element whose next identifier is id.
func made(t *testing.T, id int) *B4 {
	t.Helper()
	x, e := New(Setup{Own: api.Six{1}, AFTR: api.Six{2}, MTU: 1280, Hop: 64, Frag: 1})
	if e != api.OK {
		t.Fatal(e)
	}
	x.id = id
	return x
}

// long is the bytes of a packet that goes in fragments.
func long(t *testing.T) []byte {
	t.Helper()
	b, e := v4.Build(api.V4{TTL: 9, Proto: 17, Src: 10 << 24, Dst: 11 << 24, Data: make([]byte, 2000)})
	if e != api.OK {
		t.Fatal(e)
	}
	return b
}

// P32.2: identifiers begin again behind the greatest one. (To come so far from outside takes too long.)
func TestIdentifiersBeginAgain(t *testing.T) {
	x := made(t, 1<<32-2)
	for _, want := range []int{1<<32 - 2, 1<<32 - 1, 0, 1} {
		parts, _, why := x.Host(long(t))
		if len(parts) != 2 || why != api.DropNone {
			t.Fatal(len(parts), why)
		}
		for _, part := range parts {
			p, e := v6.Parse(part)
			if e != api.OK {
				t.Fatal(e)
			}
			if f, _, ok := cut6.Part(p); !ok || f.ID != want {
				t.Errorf("the identifier is %d; want %d", f.ID, want)
			}
		}
	}
}

// P32.2: an error of Wrap, or of Cut. No setup that New takes has one, so this goes around New; no identifier is taken.
func TestTooLong(t *testing.T) {
	for _, change := range []func(*B4){
		func(x *B4) { x.Setup.Hop = 256 },
		func(x *B4) { x.MTU = 1279 },
		func(x *B4) { x.id = -1 },
	} {
		x := made(t, 5)
		change(x)
		id := x.id
		softwire, hosts, why := x.Host(long(t))
		if softwire != nil || hosts != nil || why != api.DropLong {
			t.Errorf("Host = %v, %v, %d", softwire, hosts, why)
		}
		if x.id != id || x.Counts()[api.DropLong] != 1 {
			t.Errorf("the next identifier is %d, counts %v", x.id, x.Counts())
		}
	}
}
