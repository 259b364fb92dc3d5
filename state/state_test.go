package state_test

import (
	"math"
	"math/rand/v2"
	"testing"

	"goosepond/api"
	"goosepond/state"
)

const (
	none, out, in, open, finOut, finIn, done = api.StateNone, api.StateOut, api.StateIn, api.StateOpen, api.StateFinOut, api.StateFinIn, api.StateDone
	fin, syn, rst, ack                       = api.FlagFin, api.FlagSyn, api.FlagRst, api.FlagAck
)

// kinds are flags, each of another kind: by SYN, FIN and RST.
var kinds = [8]int{0, syn, fin, syn + fin, rst, rst + syn, rst + fin, rst + syn + fin}

// others are flags that count for nothing, alone and together, whatever bits there are in a number.
var others = []int{0, ack, 8, 32, 64, 128, ack + 8, ack + 32, 256, 1 << 40, math.MinInt, math.MaxInt &^ (fin + syn + rst), -8}

// outgoing and incoming are what the chapter says, written out: the state behind each, by the state and the kind of the flags.
var outgoing = [7][8]int{
	none:   {none, out, none, out, none, none, none, none},
	out:    {out, out, out, out, done, done, done, done},
	in:     {in, open, in, open, done, done, done, done},
	open:   {open, open, finOut, finOut, done, done, done, done},
	finOut: {finOut, finOut, finOut, finOut, done, done, done, done},
	finIn:  {finIn, finIn, done, done, done, done, done, done},
	done:   {done, out, done, out, done, done, done, done},
}

var incoming = [7][8]int{
	none:   {none, in, none, in, none, none, none, none},
	out:    {out, open, out, open, done, done, done, done},
	in:     {in, in, in, in, done, done, done, done},
	open:   {open, open, finIn, finIn, done, done, done, done},
	finOut: {finOut, finOut, done, done, done, done, done, done},
	finIn:  {finIn, finIn, finIn, finIn, done, done, done, done},
	done:   {done, in, done, in, done, done, done, done},
}

// next fails unless Next answers these.
func next(t *testing.T, from int, goes bool, flags, to int, ok bool) {
	t.Helper()
	if s, yes := state.Next(from, goes, flags); s != to || yes != ok {
		t.Errorf("Next(%d, %t, %#x) = %d, %t; want %d, %t", from, goes, flags, s, yes, to, ok)
	}
}

// through fails unless Through answers these.
func through(t *testing.T, from int, flags []int, to int, ok bool) {
	t.Helper()
	if s, yes := state.Through(from, flags...); s != to || yes != ok {
		t.Errorf("Through(%d, %v) = %d, %t; want %d, %t", from, flags, s, yes, to, ok)
	}
}

// P23.1: each state, both ways, with all flags.
func TestNext(t *testing.T) {
	for from := none; from <= done; from++ {
		for kind, flags := range kinds {
			for _, more := range others {
				to := outgoing[from][kind]
				next(t, from, true, flags|more, to, from != none || to != none)
				to = incoming[from][kind]
				next(t, from, false, flags|more, to, from != none || to != none)
			}
		}
	}
}

// P23.1: states that there are not.
func TestNoState(t *testing.T) {
	for _, from := range []int{-1, 7, 8, -7, 256, 1 << 32, math.MinInt, math.MaxInt} {
		for _, flags := range kinds {
			next(t, from, true, flags, none, false)
			next(t, from, false, flags, none, false)
		}
		next(t, from, true, math.MaxInt, none, false)
		next(t, from, false, -1, none, false)
	}
}

// P23.2: one state is open.
func TestOpen(t *testing.T) {
	for _, s := range []int{none, out, in, open, finOut, finIn, done, -1, 7, 1<<32 + open, math.MinInt, math.MaxInt} {
		if state.Open(s) != (s == 3) {
			t.Errorf("Open(%d) = %t", s, state.Open(s))
		}
	}
}

// P23.2: the chapter's example, and other courses that sessions take.
func TestThrough(t *testing.T) {
	for _, c := range []struct {
		from  int
		flags []int
		to    int
	}{
		{none, []int{syn, syn + ack}, open},
		{none, []int{syn}, out},
		{none, []int{syn, syn + ack, ack}, open},
		{none, []int{syn, ack}, out},
		{none, []int{syn, ack, syn}, out},
		{none, []int{syn, ack, syn, syn}, open},
		{none, []int{syn, syn + ack, fin + ack}, finOut},
		{none, []int{syn, syn + ack, ack, fin + ack}, finIn},
		{none, []int{syn, syn + ack, fin + ack, fin + ack}, done},
		{none, []int{syn, syn + ack, fin + ack, ack, fin}, finOut},
		{none, []int{syn, syn + ack, ack, fin + ack, fin + ack}, done},
		{none, []int{syn, syn + ack, ack, fin + ack, ack, fin}, finIn},
		{none, []int{syn, rst + ack}, done},
		{none, []int{syn, rst + ack, ack}, done},
		{none, []int{syn, rst + ack, syn}, out},
		{none, []int{syn, rst + ack, ack, syn}, in},
		{none, []int{syn, rst + ack, ack, syn, syn + ack}, open},
		{in, []int{syn + ack}, open},
		{open, []int{0, fin}, finIn},
		{open, []int{fin}, finOut},
		{done, []int{ack, ack, fin, rst}, done},
	} {
		through(t, c.from, c.flags, c.to, true)
	}
}

// P23.2: none at all leave the state as it is.
func TestThroughNothing(t *testing.T) {
	for _, s := range []int{none, out, in, open, finOut, finIn, done, -1, 7, math.MinInt, math.MaxInt} {
		through(t, s, nil, s, true)
		through(t, s, []int{}, s, true)
	}
}

// P23.2: it ends at the first that may not be, with the state ahead of it, whatever comes behind.
func TestThroughEnds(t *testing.T) {
	for _, flags := range [][]int{{ack}, {0}, {fin}, {rst}, {syn + rst}, {ack, syn}, {rst, syn, syn}, {0, 0, syn}} {
		through(t, none, flags, none, false)
		for _, s := range []int{-1, 7, math.MinInt, math.MaxInt} {
			through(t, s, flags, s, false)
			through(t, s, []int{syn, syn + ack}, s, false)
		}
	}
}

// P23.1, P23.2, R3, R4: of any flags, what the tables say, the first going out; and they stay what they are.
func TestThroughRandom(t *testing.T) {
	r := rand.New(rand.NewPCG(23, 1))
	for range 20000 {
		from := r.IntN(9) - 1
		to, ok := from, true
		flags := make([]int, r.IntN(9))
		for i := range flags {
			kind := r.IntN(len(kinds))
			flags[i] = kinds[kind] + others[r.IntN(8)]
			var behind int
			switch {
			case to < none || to > done:
			case i%2 == 0:
				behind = outgoing[to][kind]
			default:
				behind = incoming[to][kind]
			}
			if ok = ok && behind != none; ok {
				to = behind
			}
		}
		kept := append([]int(nil), flags...)
		through(t, from, flags, to, ok)
		through(t, from, flags, to, ok)
		for i := range flags {
			if flags[i] != kept[i] {
				t.Fatalf("the flags %v are %v", kept, flags)
			}
		}
	}
}

// P23.3: who leaves StateNone, and where RST leads, with whatever flags.
func TestFollows(t *testing.T) {
	for flags := range 512 {
		beginning := flags&syn != 0 && flags&rst == 0
		for _, goes := range []bool{true, false} {
			if s, ok := state.Next(none, goes, flags); (s != none) != beginning || ok != beginning {
				t.Errorf("Next(%d, %t, %#x) = %d, %t", none, goes, flags, s, ok)
			}
			for from := out; from <= done; from++ {
				s, ok := state.Next(from, goes, flags)
				if !ok || s == none || flags&rst != 0 && s != done {
					t.Errorf("Next(%d, %t, %#x) = %d, %t", from, goes, flags, s, ok)
				}
			}
		}
	}
}
