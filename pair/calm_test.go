package pair

import (
	"fmt"
	"math"
	"math/rand"
	"strings"
	"testing"

	"muleteer/api"
)

func TestCalmTurns(t *testing.T) {
	// to end 0 first, then to end 1, with what end 0 told to that
	turns := []string{" | 0:100", "1:5000 | ", "3:5001 | ", " | "}
	for most, want := range turns {
		p := asked(t)
		if p.Calm(0, most) != (most == 3) || ways(p) != want || p.Now() != 0 {
			t.Errorf("P25.1: Calm of %d turns: %s, not %s", most, ways(p), want)
		}
	}
	p := asked(t)
	for most := range 3 {
		if p.Calm(0, 1) != (most == 2) || ways(p) != turns[most+1] {
			t.Errorf("P25.1: turn %d: %s", most, ways(p))
		}
	}
	// both ways at once: what end 0 tells to what comes to it comes to end 1 in the same turn
	p = laden(t)
	do(t, p, submit(1, 4), submit(1, 5))
	if p.Calm(0, 1) || ways(p) != "3:5004 3:5005 3:5006 | " || fmt.Sprint(p.End(0).Taken(), p.End(1).Taken()) != "[aaaa bbbbb] [a bb ccc]" {
		t.Errorf("P25.1: a turn: %s", ways(p))
	}
	if !p.Calm(0, 1) || ways(p) != " | " {
		t.Errorf("P25.1: the last turn: %s", ways(p))
	}
	// the other way about
	p = New(setup(true, 2), setup(false, 2))
	do(t, p, pick(api.KOpen, 0), pick(api.KOpen, 1))
	if p.Calm(0, 1) || ways(p) != "3:101 | " || !p.Calm(0, 1) || p.End(0).State() != api.SOpen || p.End(1).State() != api.SOpen {
		t.Errorf("P25.1: the client is end 1: %s", ways(p))
	}
}

func TestCalmMost(t *testing.T) {
	for _, most := range []int{0, -1, -7, math.MinInt} {
		p := asked(t)
		before := snap(p)
		if p.Calm(70000000, most) || snap(p) != before {
			t.Errorf("P25.1: Calm of %d turns", most)
		}
		for _, p := range []*Pair{pairOf(), opened(t)} {
			before := snap(p)
			if !p.Calm(70000000, most) || snap(p) != before {
				t.Errorf("P25.1: Calm of %d turns where there is nothing to do", most)
			}
		}
	}
	for _, most := range []int{3, 4, 3000, math.MaxInt} {
		if p := asked(t); !p.Calm(0, most) {
			t.Errorf("P25.1: Calm of %d turns", most)
		}
	}
}

func TestCalmDue(t *testing.T) {
	// what goes again is due at 1000000, then 2000000 later; end 1 doesn't listen
	alone := func() *Pair {
		p := pairOf()
		do(t, p, clock(3), pick(api.KOpen, 0), pick(api.KLose, 1))
		return p
	}
	for _, d := range []int64{999999, 0, -1, -1000000, math.MinInt64} {
		p := alone()
		before := snap(p)
		if !p.Calm(d, 9) || snap(p) != before {
			t.Errorf("P25.1: Calm(%d): %d, %s", d, p.Now(), ways(p))
		}
	}
	for _, x := range []struct {
		d    int64
		most int
		want bool
		now  int64
		ways string
	}{
		{1000000, 1, false, 1000003, " | 0:101"},
		{1000000, 2, true, 1000003, " | "},
		{1999999, 9, true, 1000003, " | "},
		{2000000, 3, false, 3000003, " | 0:102"},
		{2000000, 4, true, 3000003, " | "},
		{3999999, 9, true, 3000003, " | "},
		{math.MaxInt64, 7, false, 15000003, " | 0:104"},
		{1 << 62, 8, false, 15000003, " | "},
		{64000000, 16, false, 191000003, " | "},
		{63999999, 99, true, 63000003, " | "},
	} {
		p := alone()
		if got := p.Calm(x.d, x.most); got != x.want || p.Now() != x.now || ways(p) != x.ways {
			t.Errorf("P25.1: Calm(%d, %d): %v, %d, %s; not %v", x.d, x.most, got, p.Now(), ways(p), x)
		}
	}
}

func TestCalmLeastDue(t *testing.T) {
	for first := range 2 {
		a, b := setup(false, 2), setup(false, 2)
		b.Iss = 200
		p := New(a, b)
		do(t, p, pick(api.KOpen, first), clock(300000), pick(api.KOpen, 1-first), pick(api.KLose, 0), pick(api.KLose, 1))
		if p.Calm(1000000, 1) || p.Now() != 1000000 || len(p.Way(1-first)) != 1 || len(p.Way(first)) != 0 {
			t.Errorf("P25.1: the least Due: %d, %s", p.Now(), ways(p))
		}
		// it goes to one that waits for an answer, and goes nowhere there; then the other one's is due
		if p.Calm(1000000, 2) || p.Now() != 1300000 || len(p.Way(first)) != 1 || p.End(1-first).Dropped() != 1 {
			t.Errorf("P25.1: the next Due: %d, %s", p.Now(), ways(p))
		}
		if !p.Calm(1000000, 1) || p.Now() != 1300000 || p.End(first).Dropped() != 1 {
			t.Errorf("P25.1: then none: %d, %s", p.Now(), ways(p))
		}
	}
	// both are due at once: both Clocks are called
	a, b := setup(false, 2), setup(false, 2)
	b.Iss = 200
	p := New(a, b)
	do(t, p, pick(api.KOpen, 0), pick(api.KOpen, 1), pick(api.KLose, 0), pick(api.KLose, 1))
	if p.Calm(1000000, 1) || ways(p) != "0:201 | 0:101" {
		t.Errorf("P25.1: both Dues: %s", ways(p))
	}
	// the time stays where what is due lies behind it
	p = pairOf()
	p.End(0).Open(-5000000)
	if p.Calm(-4000000, 1) || p.Now() != 0 || ways(p) != " | 0:101" {
		t.Errorf("P25.1: the time goes back: %d, %s", p.Now(), ways(p))
	}
	p = pairOf()
	p.End(0).Open(-5000000)
	if !p.Calm(-4000001, 1) || ways(p) != " | " {
		t.Errorf("P25.1: a Due that lies behind: %s", ways(p))
	}
	// far behind, too
	p = pairOf()
	p.End(0).Open(math.MinInt64)
	if !p.Calm(math.MinInt64, 1) || p.Calm(0, 1) || p.Now() != 0 {
		t.Errorf("P25.1: a Due far behind: %d", p.Now())
	}
}

// What closes comes to an end, too.
func TestCalmClosing(t *testing.T) {
	for i := range 2 {
		p := opened(t)
		do(t, p, pick(api.KClose, i))
		if !p.Calm(70000000, 99) || p.End(0).State() != api.STimeWait || p.End(1).State() != api.SClosed {
			t.Errorf("P25.1: end %d closes: %d, %d", i, p.End(0).State(), p.End(1).State())
		}
		if !p.Calm(240000000, 99) || p.Now() != 240000000 || p.End(0).State() != api.SClosed {
			t.Errorf("P25.1: end %d closes: %d at %d", i, p.End(0).State(), p.Now())
		}
	}
}

// play is a pair that picks are thrown at, but none by which T7 would not hold.
type play struct {
	*Pair
	r      *rand.Rand
	setups [2]api.Setup
	// How many on each way were lost in a row, and how many may be.
	row, most [2]int
	// What each end was handed, and how many of each.
	handed [2]map[string]int
	count  [2]int
}

func newPlay(seed int64) *play {
	r := rand.New(rand.NewSource(seed))
	a, b := thrown(r, seed%2 == 0), thrown(r, seed%2 == 1)
	x := &play{Pair: New(a, b), r: r, setups: [2]api.Setup{a, b}, handed: [2]map[string]int{{}, {}}}
	most := min(a.Window, b.Window, 100)*3/4 - 1
	x.most = [2]int{most, most}
	return x
}

// submit hands end i a datagram that is not too long for it.
func (x *play) submit(i int) {
	n := x.r.Intn(x.setups[i].Size + 1)
	x.handed[i][strings.Repeat(string(rune('a'+x.count[i]%26)), n)]++
	x.count[i]++
	x.Do(submit(i, n))
}

// befall does something to what is on its way to end i; too many are not lost.
func (x *play) befall(i int) {
	k := api.Pick{Kind: []int{api.KLose, api.KSpoil, api.KAgain, api.KLater}[x.r.Intn(4)], I: i, N: x.r.Intn(1 << 20)}
	loses := k.Kind == api.KLose || k.Kind == api.KSpoil
	if loses && x.row[i] >= x.most[i] {
		k.Kind, loses = api.KPass, false
	}
	switch done := x.Do(k); {
	case done && loses:
		x.row[i]++
	case done && k.Kind != api.KLater:
		x.row[i] = 0
	}
}

// trouble is some turns of all that may befall.
func (x *play) trouble(turns, loss int) {
	for range turns {
		i := x.r.Intn(2)
		switch k := x.r.Intn(100); {
		case k < 15:
			x.submit(i)
		case k < 30:
			x.Do(clock(x.r.Intn(100000)))
		case k < 32:
			x.Do(clock(1 << x.r.Intn(41)))
		case x.r.Intn(100) < loss:
			x.befall(i)
		default:
			if x.Do(pick(api.KPass, i)) {
				x.row[i] = 0
			}
		}
	}
}

// holdTaken holds T6: each is taken once at most, and was handed to the other end.
func (x *play) holdTaken(t *testing.T, name string) {
	t.Helper()
	for i := range 2 {
		n := map[string]int{}
		for _, d := range x.End(i).Taken() {
			if n[d]++; n[d] > x.handed[1-i][d] {
				t.Errorf("T6, %s: end %d has taken %q %d times", name, i, d, n[d])
			}
		}
	}
}

// holdOpen holds T7's first part.
func (x *play) holdOpen(t *testing.T, name string) {
	t.Helper()
	if !x.Calm(70000000, 3000) {
		t.Fatalf("T7, %s: it comes to no end", name)
	}
	for i := range 2 {
		e, other := x.End(i), x.End(1-i)
		if e.State() != api.SOpen || e.Waiting() != 0 {
			t.Fatalf("T7, %s: end %d: state %d, Waiting %d", name, i, e.State(), e.Waiting())
		}
		for _, f := range []int{api.FCcid, api.FWindow, api.FVector, api.FCover} {
			if e.Mine(f) != other.Theirs(f) {
				t.Errorf("T7, %s: end %d: Mine of %d is %x, and Theirs %x", name, i, f, e.Mine(f), other.Theirs(f))
			}
		}
	}
}

// T7: it comes to an end.
func TestComesToAnEnd(t *testing.T) {
	kinds := map[string]int{}
	taken := 0
	for seed := range int64(400) {
		name := fmt.Sprint("play ", seed)
		x := newPlay(seed)
		opens := x.r.Intn(2)
		x.Do(pick(api.KOpen, opens))
		if x.r.Intn(4) == 0 {
			// one opens late
			x.trouble(x.r.Intn(60), 20)
		}
		x.Do(pick(api.KOpen, 1-opens))
		x.trouble(x.r.Intn(600), x.r.Intn(80))
		x.holdTaken(t, name)
		x.holdOpen(t, name)
		before := [2]int{len(x.End(0).Taken()), len(x.End(1).Taken())}
		taken += before[0] + before[1]
		// So few that the Acks of what comes meanwhile keep within the least window.
		more := x.r.Intn(7)
		for range more {
			x.submit(0)
			x.submit(1)
		}
		x.holdOpen(t, name)
		x.holdTaken(t, name)
		for i := range 2 {
			if got := len(x.End(i).Taken()) - before[i]; got != more {
				t.Errorf("T7, %s: end %d has taken %d of %d", name, i, got, more)
			}
			kinds[x.End(i).Mine(api.FCcid)]++
		}
	}
	if kinds["\x02"] < 100 || kinds["\x03"] < 100 || taken < 4000 {
		t.Errorf("the draws are poor: %v, %d", kinds, taken)
	}
}
