package rset

import (
	"math"
	"math/big"
	"math/rand"
	"slices"
	"testing"
)

// step is one call, and what Max and Len are behind it.
type step struct {
	call   string
	x      uint64
	now, r int64
	max    uint64
	len    int
}

func do(s *Set, c step) {
	switch c.call {
	case "update":
		s.Update(c.x, c.now, c.r)
	case "maximize":
		s.Maximize(c.x, c.now)
	case "only":
		s.Only(c.x, c.now)
	case "halve":
		s.Halve()
	default:
		panic("no such call: " + c.call)
	}
}

// play goes through the steps of a scene.
func play(t *testing.T, steps ...step) *Set {
	t.Helper()
	s := New()
	for k, c := range steps {
		do(s, c)
		if s.Max() != c.max || s.Len() != c.len {
			t.Fatalf("P15.1: step %d, %s(%d, %d, %d): Max %d and Len %d, not %d and %d", k, c.call, c.x, c.now, c.r, s.Max(), s.Len(), c.max, c.len)
		}
	}
	return s
}

func TestNew(t *testing.T) {
	s := New()
	if s.Max() != top || s.Len() != 1 {
		t.Errorf("P15.1: at first Max is %d and Len %d, not top and 1", s.Max(), s.Len())
	}
	// The pair is of time 0: it stays while 0 is not below now less 2 r, and no longer.
	play(t, step{"update", 5, 20, 10, top, 2})
	play(t, step{"update", 5, 21, 10, 5, 1})
}

func TestUpdateDropsWhatIsBelow(t *testing.T) {
	play(t,
		step{"only", 90, 100, 0, 90, 1},
		step{"update", 80, 110, 50, 90, 2},
		step{"update", 70, 120, 50, 90, 3},
		step{"update", 60, 200, 50, 90, 4},
		step{"update", 50, 201, 50, 80, 4},
		step{"update", 40, 230, 54, 60, 3},
		step{"update", 30, 230, 15, 60, 4},
		step{"update", 20, 230, 14, 40, 3},
		step{"update", 15, 231, 0, 15, 1},
	)
}

func TestUpdateKeepsItsOwn(t *testing.T) {
	for _, now := range []int64{math.MinInt64, -1, 0, 1, 1 << 40, latest, math.MaxInt64} {
		for _, r := range []int64{math.MinInt64, -1, 0, 1, longest, math.MaxInt64} {
			s := New()
			s.Update(7, now, r)
			s.Maximize(0, now)
			if s.Max() != 7 {
				t.Errorf("P15.1: Update(7, %d, %d) is not there: %d", now, r, s.Max())
			}
		}
	}
}

func TestUpdateTakesOneTwice(t *testing.T) {
	play(t,
		step{"only", 5, 10, 0, 5, 1},
		step{"update", 5, 10, 3, 5, 2},
		step{"update", 5, 10, 3, 5, 3},
	)
}

func TestUpdateKeepsEight(t *testing.T) {
	s := New()
	for n := range uint64(7) {
		s.Update(100-n, int64(n), 100)
	}
	if s.Max() != top || s.Len() != 8 {
		t.Errorf("P15.1: eight pairs: Max %d, Len %d, not top and 8", s.Max(), s.Len())
	}
	for n := uint64(7); n < 30; n++ {
		s.Update(100-n, int64(n), 100)
		if want := 100 - (n - 7); s.Max() != want || s.Len() != 8 {
			t.Errorf("P15.1: behind %d of them: Max %d, Len %d, not %d and 8", n+1, s.Max(), s.Len(), want)
		}
	}
}

func TestEldestIsByTime(t *testing.T) {
	s := New()
	s.Only(100, 50)
	for n := range int64(7) {
		s.Update(uint64(n), 49-n, 100)
	}
	// The eight are of the times 50 to 43, told from the latest on: the one that was told last is the eldest.
	s.Update(50, 60, 100)
	if s.Max() != 100 || s.Len() != 8 || holds(s, 6) || !holds(s, 5) {
		t.Errorf("P15.1: the eldest one did not go: %v", s.pairs)
	}
	s.Update(200, 43, 100)
	if s.Max() != 100 || s.Len() != 8 {
		t.Errorf("P15.1: one elder than eight others stays: %v", s.pairs)
	}
	s.Update(200, 44, 100)
	if s.Max() != 200 || s.Len() != 8 || holds(s, 5) {
		t.Errorf("P15.1: of one time the one that was told first did not go: %v", s.pairs)
	}
}

// holds tells whether there is a pair of rate x.
func holds(s *Set, x uint64) bool {
	return slices.ContainsFunc(s.pairs, func(p pair) bool { return p.rate == x })
}

func TestDroppedAheadOfTheEight(t *testing.T) {
	s := New()
	for n := range uint64(12) {
		s.Update(100-n, 10, 5)
	}
	s.Update(3, 1000, 1)
	if s.Max() != 3 || s.Len() != 1 {
		t.Errorf("P15.1: eight old ones: Max %d, Len %d, not 3 and 1", s.Max(), s.Len())
	}
}

func TestMaximize(t *testing.T) {
	play(t, step{"maximize", 3, 10, 0, 3, 1})
	play(t, step{"maximize", 0, 10, 0, 0, 1})
	play(t, step{"maximize", top, 10, 0, top, 1}, step{"maximize", 2, 11, 0, 2, 1})
	play(t, step{"maximize", top - 1, 10, 0, top - 1, 1}, step{"maximize", 2, 11, 0, top - 1, 1})
	play(t,
		step{"update", 7, 0, 5, top, 2},
		step{"update", 9, 1, 5, top, 3},
		step{"update", 8, 2, 5, top, 4},
		step{"maximize", 3, 30, 0, 9, 1},
		step{"maximize", 12, 40, 0, 12, 1},
		step{"maximize", 12, 41, 0, 12, 1},
		step{"update", 4, 61, 10, 12, 2},
		step{"update", 3, 62, 10, 4, 2},
	)
}

func TestOnly(t *testing.T) {
	play(t,
		step{"only", 6, 10, 0, 6, 1},
		step{"update", 9, 11, 10, 9, 2},
		step{"only", 4, 20, 0, 4, 1},
		step{"only", 0, 30, 0, 0, 1},
		step{"only", top, 40, 0, top, 1},
		step{"update", 1, 50, 5, top, 2},
		step{"update", 2, 51, 5, 2, 2},
	)
}

func TestHalve(t *testing.T) {
	play(t, step{"halve", 0, 0, 0, top, 1}, step{"update", 9, 0, 1, top, 2}, step{"halve", 0, 0, 0, top, 2}, step{"maximize", 0, 1, 0, 4, 1})
	play(t,
		step{"only", top - 1, 0, 0, top - 1, 1},
		step{"halve", 0, 0, 0, top >> 1, 1},
		step{"halve", 0, 0, 0, top >> 2, 1},
	)
	s := New()
	s.Only(11, 5)
	for n := range uint64(4) {
		s.Update(n, 5, 5)
	}
	s.Halve()
	if got := rates(s); !slices.Equal(got, []uint64{0, 0, 1, 1, 5}) {
		t.Errorf("P15.1: the halves are %v", got)
	}
	// Their times stay.
	s.Update(0, 5, 0)
	if s.Len() != 6 {
		t.Errorf("P15.1: Halve moved times: %v", s.pairs)
	}
	s.Update(0, 6, 0)
	if s.Len() != 1 {
		t.Errorf("P15.1: Halve moved times: %v", s.pairs)
	}
}

// rates are the rates alone, the least one first.
func rates(s *Set) []uint64 {
	var xs []uint64
	for _, p := range s.pairs {
		xs = append(xs, p.rate)
	}
	slices.Sort(xs)
	return xs
}

func TestNearerEnds(t *testing.T) {
	play(t,
		step{"only", 9, 0, 0, 9, 1},
		step{"update", 8, 1 << 41, math.MaxInt64, 9, 2},
		step{"update", 7, 1<<41 + 1, math.MaxInt64, 8, 2},
		step{"update", 6, 1<<42 + 1, longest + 1, 7, 2},
		step{"update", 5, 1<<42 + 2, longest, 6, 2},
	)
	play(t,
		step{"only", 9, 1 << 41, 0, 9, 1},
		step{"update", 8, 1 << 42, longest, 9, 2},
		step{"update", 7, 1 << 42, longest - 1, 8, 2},
	)
	play(t,
		step{"only", 9, 100, 0, 9, 1},
		step{"update", 8, 100, -1, 9, 2},
		step{"update", 7, 100, math.MinInt64, 9, 3},
		step{"update", 6, 101, math.MinInt64, 6, 1},
	)
	play(t,
		step{"update", 9, math.MaxInt64, 0, 9, 1},
		step{"update", 8, latest, 0, 9, 2},
		step{"update", 7, latest + 1, 0, 9, 3},
		step{"update", 6, latest - 1, 0, 9, 4},
		step{"update", 5, latest, 0, 9, 4},
	)
	play(t,
		step{"update", 9, math.MinInt64, 0, top, 2},
		step{"update", 8, 0, 0, top, 3},
		step{"update", 7, -1, 5, top, 4},
		step{"update", 6, 1, 0, 6, 1},
	)
	for _, call := range []string{"only", "maximize"} {
		play(t, step{call, 9, math.MaxInt64, 0, 9, 1}, step{"update", 8, latest, 0, 9, 2})
		play(t, step{call, 9, latest - 1, 0, 9, 1}, step{"update", 8, latest, 0, 8, 1})
		play(t, step{call, 9, math.MinInt64, 0, 9, 1}, step{"update", 8, 0, 0, 9, 2})
		play(t, step{call, 9, 0, 0, 9, 1}, step{"update", 8, 1, 0, 8, 1})
		s := play(t, step{call, 9, math.MaxInt64, 0, 9, 1})
		for range 8 {
			s.Update(1, latest, 0)
		}
		if s.Max() != 1 || s.Len() != 8 {
			t.Errorf("P15.1: %s later than 2^62: Max %d, Len %d, not 1 and 8", call, s.Max(), s.Len())
		}
	}
}

// told is a pair of the second reckoning: its list is by what was told first.
type told struct {
	at   *big.Int
	rate uint64
}

// model is the chapter's words, with times that have no end.
type model []told

func nearest(n int64, k uint) *big.Int {
	x, end := big.NewInt(n), new(big.Int).Lsh(big.NewInt(1), k)
	if x.Sign() < 0 {
		return new(big.Int)
	}
	if x.Cmp(end) > 0 {
		return end
	}
	return x
}

// eldest is the place of the first one of the least time.
func (m model) eldest() int {
	at := 0
	for k := range m {
		if m[k].at.Cmp(m[at].at) < 0 {
			at = k
		}
	}
	return at
}

func (m model) update(x uint64, now, r int64) model {
	at := nearest(now, 62)
	twice := nearest(r, 40)
	twice.Add(twice, twice)
	least := new(big.Int).Sub(at, twice)
	var stay model
	for _, p := range append(m, told{at, x}) {
		if p.at.Cmp(least) >= 0 {
			stay = append(stay, p)
		}
	}
	for len(stay) > 8 {
		gone := stay.eldest()
		stay = append(stay[:gone:gone], stay[gone+1:]...)
	}
	return stay
}

func (m model) maximize(x uint64, now int64) model {
	xs := []uint64{x}
	for _, p := range m {
		if p.rate != math.MaxUint64 {
			xs = append(xs, p.rate)
		}
	}
	return model{{nearest(now, 62), slices.Max(xs)}}
}

func (m model) halve() model {
	var halves model
	for _, p := range m {
		if p.rate < math.MaxUint64 {
			p.rate = (p.rate - p.rate%2) / 2
		}
		halves = append(halves, p)
	}
	return halves
}

func (m model) do(c step) model {
	switch c.call {
	case "update":
		return m.update(c.x, c.now, c.r)
	case "maximize":
		return m.maximize(c.x, c.now)
	case "only":
		return model{{nearest(c.now, 62), c.x}}
	}
	return m.halve()
}

func (m model) rates() []uint64 {
	var xs []uint64
	for _, p := range m {
		xs = append(xs, p.rate)
	}
	slices.Sort(xs)
	return xs
}

// thrown is a call; its time lies near to at, or anywhere.
func thrown(rnd *rand.Rand, at int64) step {
	c := step{call: "update", x: uint64(rnd.Intn(1000)), now: at, r: rnd.Int63n(30)}
	switch rnd.Intn(20) {
	case 0:
		c.call = "maximize"
	case 1:
		c.call = "only"
	case 2:
		c.call = "halve"
	}
	switch rnd.Intn(16) {
	case 0:
		c.x = top
	case 1:
		c.x = top - 1
	case 2:
		c.x = rnd.Uint64()
	}
	edges := []int64{math.MinInt64, -1, 0, 1, longest - 1, longest, longest + 1, 1 << 41, latest - 1, latest, latest + 1, math.MaxInt64}
	if rnd.Intn(40) == 0 {
		c.now = edges[rnd.Intn(len(edges))]
	}
	if rnd.Intn(10) == 0 {
		c.r = edges[rnd.Intn(len(edges))]
	}
	return c
}

func TestThrown(t *testing.T) {
	rnd := rand.New(rand.NewSource(15))
	for script := range 600 {
		s, m := New(), model{{new(big.Int), math.MaxUint64}}
		at := int64(0)
		back := script % 3 // how often the time goes back, and how far it runs at once
		for k := range 200 {
			at += rnd.Int63n(int64(2 + 8*back))
			if back > 0 && rnd.Intn(3) < back {
				at -= rnd.Int63n(15)
			}
			c := thrown(rnd, at)
			do(s, c)
			m = m.do(c)
			want := m.rates()
			if got := rates(s); !slices.Equal(got, want) || s.Max() != slices.Max(want) || s.Len() != len(want) {
				t.Fatalf("P15.1: script %d, call %d, %v: %v, Max %d, Len %d, not %v", script, k, c, got, s.Max(), s.Len(), want)
			}
		}
	}
}

func TestNil(t *testing.T) {
	var none *Set
	for _, call := range []string{"update", "maximize", "only", "halve"} {
		do(none, step{call: call, x: 5, now: 5, r: 5})
		if none.Max() != 0 || none.Len() != 0 {
			t.Errorf("P15.1: nil, behind %s: Max %d, Len %d", call, none.Max(), none.Len())
		}
	}
}

func TestNotMadeByNew(t *testing.T) {
	for _, call := range []string{"update", "maximize", "only", "halve"} {
		var s Set
		if s.Max() != 0 || s.Len() != 0 {
			t.Errorf("P0.1: a Set of its own: Max %d, Len %d", s.Max(), s.Len())
		}
		do(&s, step{call: call, x: 5, now: 5, r: 5})
	}
}

func TestApart(t *testing.T) {
	a, b := New(), New()
	for n := range uint64(30) {
		a.Update(n, int64(n), 3)
		b.Update(100+n, int64(n), 100)
		if n%10 == 9 {
			a.Maximize(n, int64(n))
		}
		if a.Max() > n && a.Max() != top {
			t.Fatalf("P0.5: one set tells of another: %v", a.pairs)
		}
	}
	if b.Max() != 129 || b.Len() != 8 {
		t.Errorf("P0.5: Max %d, Len %d, not 129 and 8", b.Max(), b.Len())
	}
}

func TestAskingChangesNothing(t *testing.T) {
	asked, other := New(), New()
	rnd := rand.New(rand.NewSource(51))
	for k := range 500 {
		c := thrown(rnd, int64(k))
		do(asked, c)
		do(other, c)
		for range 3 {
			if asked.Max() != other.Max() || asked.Len() != other.Len() {
				t.Fatal("P0.5: asked again, another answer")
			}
		}
	}
	if !slices.Equal(asked.pairs, other.pairs) {
		t.Errorf("P0.5: asking changed it: %v, not %v", asked.pairs, other.pairs)
	}
}

// What is kept stays small however much was told.
func TestKeepsNoMore(t *testing.T) {
	s := New()
	for n := range 100000 {
		s.Update(uint64(n), int64(n), longest)
	}
	if cap(s.pairs) > 32 {
		t.Errorf("room for %d pairs is kept", cap(s.pairs))
	}
}
