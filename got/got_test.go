package got

import (
	"fmt"
	"maps"
	"math"
	"math/rand"
	"slices"
	"testing"

	"muleteer/api"
)

const (
	round = 1 << 48
	half  = 1 << 47
)

// told is all that g tells but Has.
func told(g *Got) string {
	n, ok := g.Newest()
	return fmt.Sprint(n, ok, g.Cells())
}

// of has the numbers, unmarked, put one behind the other.
func of(t *testing.T, ns ...uint64) *Got {
	t.Helper()
	g := New()
	for _, n := range ns {
		if !g.Put(n, false) {
			t.Fatalf("P9.1: Put %d of %d", n, ns)
		}
	}
	return g
}

// want is what g has, newest first, by Has and Cells, and nothing else near it.
func want(t *testing.T, name string, g *Got, ns ...uint64) {
	t.Helper()
	newest, ok := g.Newest()
	if ok != (len(ns) > 0) || ok && newest != ns[0] || !ok && newest != 0 {
		t.Errorf("P9.1, %s: Newest %d, %v", name, newest, ok)
	}
	for d := range uint64(1200) {
		n := (newest + 600 - d) % round
		if g.Has(n) != slices.Contains(ns, n) {
			t.Errorf("P9.1, %s: Has %d is %v", name, n, g.Has(n))
		}
	}
	var states []int
	for _, n := range ns {
		for (newest+round-n)%round > uint64(len(states)) {
			states = append(states, api.CLost)
		}
		states = append(states, api.CGot)
	}
	if !slices.Equal(spread(g.Cells()), states) {
		t.Errorf("P9.1, %s: Cells %v", name, g.Cells())
	}
}

func spread(cs []api.Cell) []int {
	var states []int
	for _, c := range cs {
		states = append(states, slices.Repeat([]int{c.State}, c.Run)...)
	}
	return states
}

func TestNew(t *testing.T) {
	for name, g := range map[string]*Got{"New": New(), "the zero value": {}} {
		want(t, name, g)
		if g.Cells() != nil {
			t.Errorf("P9.1, %s: Cells %v", name, g.Cells())
		}
		for _, n := range []uint64{0, 1, 7, half, api.SeqMask, round, math.MaxUint64} {
			if g.Has(n) {
				t.Errorf("P9.1, %s: Has %d", name, n)
			}
		}
	}
}

func TestNil(t *testing.T) {
	var g *Got
	for _, n := range []uint64{0, 1, 7, half, api.SeqMask, math.MaxUint64} {
		g.Forget(n)
		if g.Put(n, false) || g.Put(n, true) || g.Has(n) || told(g) != "0 false []" || g.Cells() != nil {
			t.Errorf("P9.1: nil of %d", n)
		}
	}
}

func TestFirst(t *testing.T) {
	for _, n := range []uint64{0, 1, 249, 250, 251, half - 1, half, half + 1, round - 250, api.SeqMask} {
		for _, more := range []uint64{0, round, 5 * round, (math.MaxUint64 - round + 1) / round * round} {
			g := New()
			if !g.Put(n+more, false) {
				t.Errorf("P9.1: Put %d", n+more)
			}
			want(t, "one alone", g, n)
			if !g.Has(n+more) || !g.Has(n+round) {
				t.Errorf("P9.1: Has %d and rounds", n)
			}
		}
	}
}

func TestMark(t *testing.T) {
	g := New()
	for _, x := range []struct {
		s    uint64
		mark bool
		told string
	}{
		{50, true, "50 true [{1 1}]"},
		{51, true, "51 true [{1 2}]"},
		{53, false, "53 true [{0 1} {3 1} {1 2}]"},
		{52, false, "53 true [{0 2} {1 2}]"},
		{48, true, "53 true [{0 2} {1 2} {3 1} {1 1}]"},
		{49, false, "53 true [{0 2} {1 2} {0 1} {1 1}]"},
		{56, true, "56 true [{1 1} {3 2} {0 2} {1 2} {0 1} {1 1}]"},
	} {
		if !g.Put(x.s, x.mark) || told(g) != x.told {
			t.Errorf("P9.1: Put %d, %v: %s", x.s, x.mark, told(g))
		}
		if !g.Has(x.s) {
			t.Errorf("P9.1: Has %d, %v", x.s, x.mark)
		}
		for _, mark := range []bool{false, true} {
			for _, more := range []uint64{0, round, 9 * round} {
				if g.Put(x.s+more, mark) || told(g) != x.told {
					t.Errorf("P9.1: Put %d again, %v: %s", x.s+more, mark, told(g))
				}
			}
		}
	}
	if g.Has(54) || g.Has(55) || g.Has(47) || g.Has(57) {
		t.Error("P9.1: Has what was lost")
	}
}

// Each age from the newest on: what is put there, and what of it stays at each step of the newest.
func TestAges(t *testing.T) {
	for _, newest := range []uint64{0, 100, 249, 250, 1000, half + 100, api.SeqMask} {
		for age := uint64(1); age < 600; age++ {
			g, n := of(t, newest), (newest+round-age)%round
			if g.Put(n, false) != (age < 250) || g.Has(n) != (age < 250) {
				t.Fatalf("P9.1: %d put %d behind %d", n, age, newest)
			}
			if age < 250 {
				want(t, "behind the newest", g, newest, n)
			} else {
				want(t, "too far behind the newest", g, newest)
			}
		}
	}
}

func TestSteps(t *testing.T) {
	for _, low := range []uint64{0, 500, half - 100, round - 249, round - 100} {
		for step := uint64(1); step < 520; step++ {
			oldest, mid, newest := low, (low+60)%round, (low+200)%round
			next := (newest + step) % round
			g := of(t, newest, mid, oldest)
			if !g.Put(next, false) {
				t.Fatalf("P9.1: Put %d", next)
			}
			left := []uint64{next}
			for _, n := range []uint64{newest, mid, oldest} {
				if (next+round-n)%round < 250 {
					left = append(left, n)
				}
			}
			want(t, fmt.Sprint("a step of ", step), g, left...)
			for _, n := range []uint64{newest, mid, oldest} {
				if g.Put(n, true) {
					t.Fatalf("P9.1: %d could be put again", n)
				}
			}
		}
	}
}

// A step of up to half a round leads; what was there is gone, though some of it lies more than half a round behind.
func TestGreatSteps(t *testing.T) {
	for _, newest := range []uint64{0, 249, 7000, half, api.SeqMask} {
		for _, step := range []uint64{250, 499, 500, 1 << 24, 1 << 32, half - 300, half - 250, half - 249, half - 2, half - 1, half} {
			g := New()
			for age := range uint64(250) {
				g.Put((newest+round-age)%round, false)
			}
			next := (newest + step) % round
			if !g.Put(next, false) {
				t.Fatalf("P9.1: Put %d on from %d", step, newest)
			}
			want(t, fmt.Sprint("a step of ", step), g, next)
			for age := range uint64(250) {
				if g.Has((newest + round - age) % round) {
					t.Fatalf("P9.1: Has what lies %d and %d behind", step, age)
				}
			}
			if !g.Put((next+round-249)%round, false) || g.Put((next+round-250)%round, false) {
				t.Fatalf("P9.1: a step of %d: the ages of 249 and 250", step)
			}
		}
		for _, back := range []uint64{250, 251, 1 << 24, 1 << 32, half - 250, half - 2, half - 1} {
			g := of(t, newest)
			if g.Put((newest+round-back)%round, false) {
				t.Fatalf("P9.1: Put %d back from %d", back, newest)
			}
			want(t, fmt.Sprint("back by ", back), g, newest)
		}
	}
}

func TestCellsSpan(t *testing.T) {
	for age := uint64(1); age < 250; age++ {
		g := of(t, 1000, 1000-age)
		states := spread(g.Cells())
		if len(states) != int(age)+1 {
			t.Errorf("P9.1: %d apart: Cells %v", age, g.Cells())
		}
		for _, c := range g.Cells() {
			if c.Run > 64 {
				t.Errorf("P9.1: Cells %v", g.Cells())
			}
		}
	}
	g := New()
	for n := range uint64(1000) {
		g.Put(n, n%2 == 1)
	}
	states := spread(g.Cells())
	if len(states) != 250 || states[0] != api.CMark || states[249] != api.CGot || len(g.Cells()) != 250 {
		t.Errorf("P9.1: Cells of all %v", g.Cells())
	}
}

// The cells end at the oldest that is there, however the one below it went.
func TestCellsEnd(t *testing.T) {
	g := of(t, 300, 290, 60)
	g.Put(310, false)
	want(t, "the oldest fell out", g, 310, 300, 290)
	g = of(t, 300, 290, 60)
	g.Forget(60)
	want(t, "the oldest was forgotten", g, 300, 290)
	g.Forget(295)
	want(t, "two were forgotten", g, 300)
	if got := fmt.Sprint(g.Cells()); got != "[{0 1}]" {
		t.Errorf("P9.1: Cells %s", got)
	}
}

func TestForget(t *testing.T) {
	for _, base := range []uint64{0, 1000, half - 10, half, round - 20, round - 1} {
		at := func(d int) uint64 { return (base + uint64(d) + round) % round }
		for d := -300; d < 300; d++ {
			for _, more := range []uint64{0, round, 3 * round} {
				g := of(t, at(0), at(4), at(9), at(20))
				g.Forget(at(d) + more)
				left := []uint64{at(20)}
				for _, n := range []int{9, 4, 0} {
					if n > d {
						left = append(left, at(n))
					}
				}
				want(t, fmt.Sprint("forget ", d), g, left...)
				for e := -220; e < 20; e++ {
					if e != 0 && e != 4 && e != 9 && g.Put(at(e), false) != (e > d) {
						t.Fatalf("P9.1: Put %d behind Forget %d", e, d)
					}
				}
				if g.Put(at(20), false) || g.Put(at(4), false) || g.Put(at(320), false) != (d < 320) {
					t.Fatalf("P9.1: Put behind Forget %d", d)
				}
			}
		}
	}
}

func TestForgetIsForGood(t *testing.T) {
	g := of(t, 100, 90, 80)
	g.Forget(95)
	if g.Put(90, false) || g.Put(80, true) || g.Put(94, false) || g.Put(95, false) || !g.Put(96, false) {
		t.Error("P9.1: what was forgotten was put again")
	}
	want(t, "forgotten", g, 100, 96)
	g.Forget(50)
	if g.Put(60, false) || g.Put(95, false) || !g.Put(97, false) {
		t.Error("P9.1: a Forget of what lies ahead took one back")
	}
	want(t, "forgotten less", g, 100, 97, 96)
}

// The newest stays at a Forget; behind a newer one it goes as any other.
func TestNewestStays(t *testing.T) {
	g := of(t, 99)
	g.Put(100, true)
	g.Forget(100)
	if told(g) != "100 true [{1 1}]" || !g.Has(100) || g.Put(100, false) {
		t.Errorf("P9.1: the newest forgotten: %s", told(g))
	}
	g.Forget(120)
	if told(g) != "100 true [{1 1}]" || g.Put(101, false) || g.Put(120, false) {
		t.Errorf("P9.1: ahead of the newest forgotten: %s", told(g))
	}
	g.Put(123, false)
	if told(g) != "123 true [{0 1} {3 22} {1 1}]" || !g.Has(100) {
		t.Errorf("P9.1: a newer one: %s", told(g))
	}
	g.Forget(99)
	if !g.Has(100) {
		t.Error("P9.1: Forget 99 took 100 that is further on")
	}
	g.Forget(100)
	if told(g) != "123 true [{0 1}]" || g.Has(100) || g.Put(100, false) {
		t.Errorf("P9.1: forgotten when it was not the newest any more: %s", told(g))
	}
}

func TestForgetAheadOfAll(t *testing.T) {
	for _, s := range []uint64{0, 20, half, api.SeqMask, round + 20} {
		g := New()
		g.Forget(s)
		want(t, "Forget alone", g)
		for _, back := range []uint64{0, 1, 249, 250, 1000, 1 << 40, half - 1} {
			if g.Put(s+round-back, false) {
				t.Errorf("P9.1: Put %d behind the forgotten %d", back, s)
			}
		}
		want(t, "nothing was put", g)
		if !g.Put(s+1, true) || !g.Has(s+1) {
			t.Errorf("P9.1: Put the one behind %d", s)
		}
	}
	for _, on := range []uint64{1, 2, 250, 1 << 40, half - 1, half} {
		g := New()
		g.Forget(77)
		if !g.Put(77+on, false) {
			t.Errorf("P9.1: Put %d on from the forgotten", on)
		}
	}
}

// The furthest goes round step by step: seq.Max from Forget to Forget.
func TestFurthestGoesRound(t *testing.T) {
	g := New()
	for _, s := range []uint64{5, 1 << 46, 1 << 47, 3 << 46, 4} {
		g.Forget(s)
	}
	if g.Put(4, false) || g.Put(api.SeqMask, false) || g.Put(3<<46, false) || !g.Put(5, false) {
		t.Error("P9.1: the furthest went a whole round")
	}
	g = New()
	g.Forget(0)
	g.Forget(half)
	if g.Put(1, false) || g.Put(half, false) || !g.Put(half+1, false) {
		t.Error("P9.1: of two that lie half a round apart the later Forget's is the furthest")
	}
	g = New()
	g.Forget(100)
	g.Forget(half + 101)
	if g.Put(100, false) || !g.Put(101, false) {
		t.Error("P9.1: what lies more than half a round on is not further on")
	}
}

func TestNumbersThatLieHalfARound(t *testing.T) {
	g := of(t, 100, 97, 95, 93)
	g.Forget((100 + half - 4) % round)
	want(t, "each is held against what is forgotten", g, 100, 95, 93)
	g = of(t, 100, 50)
	g.Forget(100 + half)
	want(t, "all are further on", g, 100, 50)
	if !g.Put(99, false) {
		t.Error("P9.1: 99 is further on than what lies half a round and 1 behind it")
	}
}

func TestAnswersAreTheirOwn(t *testing.T) {
	g := New()
	for n := range uint64(300) {
		if n%3 > 0 {
			g.Put(n, n%2 == 1)
		}
	}
	was := told(g)
	first, second := g.Cells(), g.Cells()
	for i := range first[:cap(first)] {
		first[:cap(first)][i] = api.Cell{State: -1, Run: -1}
	}
	if told(g) != was || fmt.Sprint("299 true", second) != fmt.Sprint("299 true", g.Cells()) {
		t.Errorf("P0.3: Cells changed: %s", told(g))
	}
	g.Put(310, false)
	g.Forget(305)
	if fmt.Sprint(299, true, second) != was {
		t.Error("P0.3: what was told changed when more was put")
	}
}

func TestAskingChangesNothing(t *testing.T) {
	g := of(t, 100, 90, 80)
	was := told(g)
	for _, n := range []uint64{0, 70, 80, 85, 100, 101, 500, half, api.SeqMask, math.MaxUint64} {
		g.Has(n)
		g.Newest()
		g.Cells()
	}
	if told(g) != was || !g.Put(85, false) {
		t.Errorf("P0.5: %s, not %s", told(g), was)
	}
}

func TestTwoAreApart(t *testing.T) {
	a, b := New(), New()
	a.Put(5, true)
	a.Forget(7)
	want(t, "the other one", b)
	if !b.Put(6, false) || told(a) != "5 true [{1 1}]" || told(b) != "6 true [{0 1}]" {
		t.Errorf("P0.5: %s and %s", told(a), told(b))
	}
}

// ledger is a Got told by the words alone: numbers by a walk along the round.
type ledger struct {
	there     map[uint64]int
	newest    uint64
	furthest  uint64
	forgotten bool
}

// on tells whether b is further on than a: a walk up from a meets it within half a round.
func on(a, b uint64) bool {
	way := (b%round + round - a%round) % round
	return way > 0 && way <= half
}

func (l *ledger) put(s uint64, mark bool) bool {
	s %= round
	if _, ok := l.there[s]; ok || l.forgotten && !on(l.furthest, s) {
		return false
	}
	state := 0
	if mark {
		state = 1
	}
	switch {
	case len(l.there) == 0:
		l.newest = s
	case on(l.newest, s):
		step := (s + round - l.newest) % round
		maps.DeleteFunc(l.there, func(n uint64, _ int) bool {
			return (l.newest+round-n)%round+step >= 250
		})
		l.newest = s
	case (l.newest+round-s)%round >= 250:
		return false
	}
	l.there[s] = state
	return true
}

func (l *ledger) forget(s uint64) {
	if !l.forgotten || on(l.furthest, s) {
		l.furthest, l.forgotten = s%round, true
	}
	maps.DeleteFunc(l.there, func(n uint64, _ int) bool {
		return n != l.newest && !on(s, n)
	})
}

func (l *ledger) states() []int {
	var states []int
	for age := range uint64(250) {
		state, ok := l.there[(l.newest+round-age)%round]
		if !ok {
			continue
		}
		for len(states) < int(age) {
			states = append(states, 3)
		}
		states = append(states, state)
	}
	return states
}

// same holds what g tells against l.
func same(t *testing.T, g *Got, l *ledger) {
	t.Helper()
	n, ok := g.Newest()
	if ok != (len(l.there) > 0) || n != l.newest {
		t.Fatalf("P9.1: Newest %d, %v, not %d", n, ok, l.newest)
	}
	if states := l.states(); !slices.Equal(spread(g.Cells()), states) {
		t.Fatalf("P9.1: Cells %v, not %v", g.Cells(), states)
	}
}

func TestThrown(t *testing.T) {
	for seed := range int64(400) {
		r := rand.New(rand.NewSource(seed))
		g, l := New(), &ledger{there: map[uint64]int{}}
		near := []uint64{0, 1000, half, round - 5, r.Uint64()}[seed%5]
		spans := []uint64{4, 30, 300, 600}
		span := spans[r.Intn(len(spans))]
		for range 300 {
			s := near + r.Uint64()%(2*span) - span
			switch r.Intn(60) {
			case 0:
				s += half
			case 1:
				s = r.Uint64()
			case 2:
				near += 250
			case 3:
				near = l.newest
			}
			switch {
			case r.Intn(12) == 0:
				g.Forget(s)
				l.forget(s)
			case r.Intn(4) == 0:
				if _, ok := l.there[s%round]; g.Has(s) != ok {
					t.Fatalf("P9.1: Has %d is not %v", s, ok)
				}
			default:
				mark := r.Intn(3) == 0
				if ok := l.put(s, mark); g.Put(s, mark) != ok {
					t.Fatalf("P9.1: Put %d, %v is not %v", s, mark, ok)
				}
			}
			same(t, g, l)
		}
	}
}

// What is kept does not grow with what was put.
func TestKeepsNoMore(t *testing.T) {
	g := New()
	for n := range uint64(200000) {
		g.Put(7*n%1000+n, n%5 == 0)
	}
	if len(g.states) > 250 || cap(g.states) > 4000 {
		t.Errorf("P9.1: %d states are kept, with room for %d", len(g.states), cap(g.states))
	}
}
