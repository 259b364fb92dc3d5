package aftr

import (
	"testing"

	"goosepond/api"
	"goosepond/config"
	"goosepond/cut6"
	"goosepond/udp"
	"goosepond/v4"
	"goosepond/v6"
)

// P33.1, P33.2: identifiers begin again behind the greatest one. (To come so far from outside takes too long.)
func TestIdentifiersBeginAgain(t *testing.T) {
	c := config.Base()
	c.Static = []api.Static{{Inner: api.Inner{Proto: 17, Addr: 10 << 24, Port: 1}, Outer: api.Outer{Proto: 17, Addr: c.Pool[0], Port: 1}}}
	x, e := New(c)
	if e != api.OK {
		t.Fatal(e)
	}
	d, _ := udp.Build(11<<24, c.Pool[0], api.UDP{Src: 1, Dst: 1, Data: make([]byte, 2000)})
	b, _ := v4.Build(api.V4{TTL: 9, Proto: 17, Src: 11 << 24, Dst: c.Pool[0], Data: d})
	x.id = 1<<32 - 2
	for _, want := range []int{1<<32 - 2, 1<<32 - 1, 0, 1} {
		ways, why := x.Net(b)
		if len(ways) != 2 || why != api.DropNone {
			t.Fatal(len(ways), why)
		}
		for _, w := range ways {
			p, e := v6.Parse(w.Bytes)
			if e != api.OK {
				t.Fatal(e)
			}
			if f, _, ok := cut6.Part(p); !ok || f.ID != want {
				t.Errorf("the identifier is %d; want %d", f.ID, want)
			}
		}
	}
}

// P33.2: the key of a buffer, byte by byte.
func TestKey(t *testing.T) {
	p := api.V4{Src: 0x01020304, Dst: 0x05060708, Proto: 9, ID: 0x0A0B, Off: 8, TTL: 7, Data: []byte("x")}
	for from, side := range map[int]string{0: "\x00", 63: "\x3F", internet: "\xFF"} {
		if got, want := key(from, p), "4"+side+"\x01\x02\x03\x04\x05\x06\x07\x08\x09\x0A\x0B"; got != want {
			t.Errorf("key(%d) = %q; want %q", from, got, want)
		}
	}
}
