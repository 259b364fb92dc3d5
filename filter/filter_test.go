package filter_test

import (
	"math"
	"math/rand/v2"
	"slices"
	"testing"

	"goosepond/api"
	"goosepond/filter"
)

// modes are all that there are.
var modes = []int{api.FilterNone, api.FilterAddress, api.FilterPort}

// noModes are numbers of none.
var noModes = []int{-1, 3, 4, 255, 1 << 32, math.MinInt, math.MaxInt}

// at is a remote endpoint.
func at(addr, port int) api.Remote {
	return api.Remote{Addr: addr, Port: port}
}

// allows fails unless Allow answers this.
func allows(t *testing.T, mode int, from api.Remote, sent []api.Remote, want bool) {
	t.Helper()
	if got := filter.Allow(mode, from, sent...); got != want {
		t.Errorf("Allow(%d, %v, %v) = %t; want %t", mode, from, sent, got, want)
	}
}

// P25.1: the chapter's example.
func TestExample(t *testing.T) {
	if filter.Allow(api.FilterPort, at(1, 2), at(1, 3)) {
		t.Error("FilterPort lets in what comes from another port than was sent to")
	}
}

// P25.1: Allow by each mode, whomever was sent to.
func TestAllow(t *testing.T) {
	for _, c := range []struct {
		name          string
		from          api.Remote
		sent          []api.Remote
		address, port bool
	}{
		{"nobody was sent to", at(1, 2), nil, false, false},
		{"an empty list", at(1, 2), []api.Remote{}, false, false},
		{"nobody, and zero asks", at(0, 0), nil, false, false},
		{"the one", at(1, 2), []api.Remote{at(1, 2)}, true, true},
		{"another port", at(1, 2), []api.Remote{at(1, 3)}, true, false},
		{"another address", at(1, 2), []api.Remote{at(3, 2)}, false, false},
		{"both others", at(1, 2), []api.Remote{at(3, 4)}, false, false},
		{"turned round", at(1, 2), []api.Remote{at(2, 1)}, false, false},
		{"the address of one, the port of another", at(1, 2), []api.Remote{at(1, 3), at(3, 2)}, true, false},
		{"the first of three", at(1, 2), []api.Remote{at(1, 2), at(5, 6), at(7, 8)}, true, true},
		{"one between", at(1, 2), []api.Remote{at(5, 6), at(1, 2), at(7, 8)}, true, true},
		{"the last of three", at(1, 2), []api.Remote{at(5, 6), at(7, 8), at(1, 2)}, true, true},
		{"the address last", at(1, 2), []api.Remote{at(5, 2), at(7, 2), at(1, 9)}, true, false},
		{"twice", at(1, 2), []api.Remote{at(1, 2), at(1, 2)}, true, true},
		{"zero", at(0, 0), []api.Remote{at(0, 0)}, true, true},
		{"a query's", at(0xC6336401, 0), []api.Remote{at(0xC6336401, 0)}, true, true},
		{"numbers of no endpoint", at(-1, math.MaxInt), []api.Remote{at(-1, math.MaxInt)}, true, true},
		{"an address that differs above its 32 bits", at(1, 2), []api.Remote{at(1+1<<32, 2)}, false, false},
		{"a port that differs above its 16 bits", at(1, 2), []api.Remote{at(1, 2+1<<16)}, true, false},
	} {
		t.Run(c.name, func(t *testing.T) {
			allows(t, api.FilterNone, c.from, c.sent, true)
			allows(t, api.FilterAddress, c.from, c.sent, c.address)
			allows(t, api.FilterPort, c.from, c.sent, c.port)
			for _, mode := range noModes {
				allows(t, mode, c.from, c.sent, false)
			}
		})
	}
}

// P25.1: what the modes are called.
func TestName(t *testing.T) {
	for mode, want := range []string{api.FilterNone: "none", api.FilterAddress: "address", api.FilterPort: "port"} {
		if got := filter.Name(mode); got != want {
			t.Errorf("Name(%d) = %q; want %q", mode, got, want)
		}
	}
	for _, mode := range noModes {
		if got := filter.Name(mode); got != "" {
			t.Errorf("Name(%d) = %q", mode, got)
		}
	}
}

// P25.2: each mode allows what the next one does; what was sent to is allowed by all.
func TestModesAreNested(t *testing.T) {
	r := rand.New(rand.NewPCG(25, 2))
	met := map[[2]bool]int{}
	for range 20000 {
		from := at(r.IntN(4), r.IntN(4))
		sent := make([]api.Remote, r.IntN(5))
		for i := range sent {
			sent[i] = at(r.IntN(4), r.IntN(4))
		}
		address, port := filter.Allow(api.FilterAddress, from, sent...), filter.Allow(api.FilterPort, from, sent...)
		met[[2]bool{address, port}]++
		if port && !address || !filter.Allow(api.FilterNone, from, sent...) {
			t.Fatalf("of %v, %v FilterAddress says %t, FilterPort %t", from, sent, address, port)
		}
		if port != slices.Contains(sent, from) {
			t.Fatalf("of %v, %v FilterPort says %t", from, sent, port)
		}
		for _, s := range sent {
			for _, mode := range modes {
				allows(t, mode, s, sent, true)
			}
		}
	}
	for _, k := range [][2]bool{{false, false}, {true, false}, {true, true}} {
		if met[k] < 1000 {
			t.Errorf("the test has met %v %d times", k, met[k])
		}
	}
}

// R3: what is handed in stays as it was, its spare room included.
func TestAllowChangesNothing(t *testing.T) {
	all := []api.Remote{at(5, 6), at(1, 2), at(3, 4), at(9, 9)}
	was := slices.Clone(all)
	for _, mode := range append(noModes, modes...) {
		filter.Allow(mode, at(1, 3), all[:3]...)
	}
	if !slices.Equal(all, was) {
		t.Errorf("the list is %v now", all)
	}
}
