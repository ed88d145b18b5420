package pace

import (
	"fmt"
	"math"
	"math/big"
	"math/rand"
	"slices"
	"testing"
)

const (
	top  = math.MaxUint64
	unit = 64000000 // of them a byte has
	end  = 1 << 62
)

// step is one call on a bucket; it tells what that answers.
type step func(*Pace) string

func rate(now int64, x uint64) step {
	return func(p *Pace) string { p.Rate(now, x); return "" }
}

func may(now int64, n int) step {
	return func(p *Pace) string { return fmt.Sprint(p.May(now, n)) }
}

func take(now int64, n int) step {
	return func(p *Pace) string { return fmt.Sprint(p.Take(now, n)) }
}

func when(n int) step {
	return func(p *Pace) string { return fmt.Sprint(p.When(n)) }
}

func room() step {
	return func(p *Pace) string { return fmt.Sprint(p.Cap()) }
}

// then is a call and what it answers.
type then struct {
	do   step
	want any
}

// play goes through a scene with a bucket of s and tick.
func play(t *testing.T, name string, s int, tick int64, thens ...then) {
	t.Helper()
	p := New(s, tick)
	for k, c := range thens {
		if got, want := c.do(p), fmt.Sprint(c.want); got != want {
			t.Errorf("P20.1: %s, step %d: %s, not %s", name, k, got, want)
			return
		}
	}
}

func TestNew(t *testing.T) {
	sizes := []int{math.MinInt, -1400, -1, 0, 1, 2, 1399, 1400, 1401, 1 << 32, 1<<32 + 1, math.MaxInt}
	ticks := []int64{math.MinInt64, -1000000, -1, 0, 1, 10000, 999999, 1000000, 1000001, 1 << 32, math.MaxInt64}
	for _, s := range sizes {
		for _, tick := range ticks {
			want := s >= 1 && s <= 1400 && tick >= 0 && tick <= 1000000
			if p := New(s, tick); (p != nil) != want {
				t.Errorf("P20.1: New(%d, %d) is %v", s, tick, p)
			}
		}
	}
}

func TestNewIsEmpty(t *testing.T) {
	play(t, "empty, ahead of any call", 100, 10000,
		then{when(0), 0},
		then{when(1), end},
		then{when(65535), end},
		then{room(), 100 * unit},
		then{may(0, 0), true},
		then{may(0, 1), false},
		then{take(0, 1), false},
		then{take(0, 0), true},
	)
	play(t, "without a rate nothing comes", 1, 1000000,
		then{may(1<<50, 1), false},
		then{when(0), 1 << 50},
		then{when(1), end},
		then{may(end, 1), false},
		then{may(end, 0), true},
	)
	play(t, "time starts at 0", 1, 0,
		then{may(-5, 0), true},
		then{when(0), 0},
		then{rate(math.MinInt64, 640000), ""},
		then{when(0), 0},
		then{when(1), 100},
	)
	play(t, "what came ahead of the first rate", 1, 0,
		then{rate(1000000, unit), ""},
		then{may(1000000, 1), false},
		then{when(1), 1000001},
	)
}

func TestCap(t *testing.T) {
	for _, c := range []struct {
		s    int
		tick int64
		rate uint64
		want uint64
	}{
		{1, 0, 0, unit},
		{1400, 0, 0, 1400 * unit},
		{1400, 0, top, 1400 * unit},
		{1, 1, 0, unit},
		{1, 1, unit - 1, unit},
		{1, 1, unit, unit},
		{1, 1, unit + 1, unit + 1},
		{1, 1, top, top},
		{1400, 10000, 8960000, 1400 * unit},
		{1400, 10000, 8960001, 89600010000},
		{1400, 1000000, 89599, 1400 * unit},
		{1400, 1000000, 89601, 89601000000},
		{7, 2, 1<<63 - 1, top - 1},
		{7, 2, 1 << 63, top},
		{7, 3, top / 3, top},
		{7, 3, top/3 - 1, top - 3},
		{7, 3, top/3 + 1, top},
		{7, 1000000, 18446744073709, 18446744073709000000},
		{7, 1000000, 18446744073710, top},
		{7, 1000000, top, top},
	} {
		p := New(c.s, c.tick)
		if p.Cap() != uint64(c.s)*unit {
			t.Errorf("P20.1: New(%d, %d): Cap is %d", c.s, c.tick, p.Cap())
		}
		if p.Rate(5, c.rate); p.Cap() != c.want {
			t.Errorf("P20.1: New(%d, %d), Rate %d: Cap is %d, not %d", c.s, c.tick, c.rate, p.Cap(), c.want)
		}
		if p.Rate(6, 0); p.Cap() != uint64(c.s)*unit {
			t.Errorf("P20.1: New(%d, %d), Rate 0 again: Cap is %d", c.s, c.tick, p.Cap())
		}
	}
}

// 640,000 is 10,000 bytes a second: a byte in 100 microseconds.
func TestFill(t *testing.T) {
	play(t, "bytes come one by one", 10, 0,
		then{rate(50, 640000), ""},
		then{may(149, 1), false},
		then{may(150, 1), true},
		then{may(150, 2), false},
		then{may(249, 2), false},
		then{may(250, 2), true},
		then{take(250, 2), true},
		then{take(250, 1), false},
		then{take(349, 1), false},
		then{take(350, 1), true},
	)
	play(t, "no part of a byte gets lost", 10, 0,
		then{rate(0, 640000), ""},
		then{take(150, 1), true},
		then{may(199, 1), false},
		then{may(200, 1), true},
		then{rate(200, 64), ""},
		then{rate(1000190, 0), ""},
		then{may(1<<40, 2), false},
		then{rate(1<<40, 64), ""},
		then{may(1<<40+9, 2), false},
		then{may(1<<40+10, 2), true},
	)
	play(t, "no more than Cap comes", 10, 0,
		then{rate(0, 640000), ""},
		then{may(999, 10), false},
		then{may(1000, 10), true},
		then{may(1100, 11), false},
		then{may(1<<40, 11), false},
		then{take(1<<40, 10), true},
		then{may(1<<40, 1), false},
		then{may(1<<40+100, 1), true},
		then{may(1<<40+100, 2), false},
	)
	play(t, "Cap lies inside a byte", 3, 7,
		then{rate(0, 30000000), ""},
		then{room(), 210000000},
		then{may(1<<40, 3), true},
		then{take(1<<40, 3), true},
		then{when(1), 1<<40 + 2},
		then{may(1<<40+1, 1), false},
		then{may(1<<40+2, 1), true},
	)
	play(t, "more bytes than 65,535 come", 1, 1000000,
		then{rate(0, 6400000000), ""},
		then{take(1000, 65535), true},
		then{take(1000, 34465), true},
		then{take(1000, 1), false},
		then{take(1000000, 65535), true},
		then{room(), 6400000000000000},
	)
}

func TestMayTakesNothing(t *testing.T) {
	play(t, "asked again and again", 5, 0,
		then{rate(0, 640000), ""},
		then{may(500, 5), true},
		then{may(500, 5), true},
		then{may(500, 6), false},
		then{take(500, 6), false},
		then{may(500, 5), true},
		then{take(500, 3), true},
		then{may(500, 3), false},
		then{may(500, 2), true},
		then{take(500, 3), false},
		then{take(500, 2), true},
		then{may(500, 1), false},
		then{may(500, 0), true},
		then{take(500, 0), true},
	)
}

func TestWrongCounts(t *testing.T) {
	for _, n := range []int{math.MinInt, math.MinInt + 1, -1 << 32, -65535, -1, 65536, 65537, 1 << 32, 1<<32 + 1, 1 << 58, 1 << 61, math.MaxInt} {
		name := fmt.Sprint(n, " bytes")
		play(t, name, 1000, 1000000,
			then{rate(0, 1<<40), ""},
			then{may(1000000, n), false},
			then{take(1000000, n), false},
			then{when(n), end},
			then{take(1000000, 65535), true},
		)
		// An empty one lacks nothing of no byte, but of n that may not be there is no answer.
		play(t, name+" of an empty one", 1, 0, then{may(0, n), false}, then{take(0, n), false}, then{when(n), end})
		play(t, name+": the time counts", 10, 0,
			then{rate(0, 640000), ""},
			then{may(100, n), false},
			then{when(0), 100},
			then{take(300, n), false},
			then{when(0), 300},
			then{may(0, 3), true},
			then{may(0, 4), false},
		)
	}
}

func TestLargestCount(t *testing.T) {
	play(t, "65,535 bytes", 1, 1,
		then{rate(0, 65535*unit), ""},
		then{may(0, 65535), false},
		then{when(65535), 1},
		then{take(1, 65534), true},
		then{may(1, 1), true},
		then{when(65535), 2},
		then{take(2, 65535), true},
		then{may(2, 1), false},
	)
	play(t, "a part less", 1, 1,
		then{rate(0, 65535*unit-1), ""},
		then{may(9, 65535), false},
		then{may(9, 65534), true},
		then{when(65534), 9},
		then{when(65535), end},
	)
}

func TestTimeGoesNotBack(t *testing.T) {
	play(t, "each call counts as the last one's", 10, 0,
		then{rate(1000, 640000), ""},
		then{may(500, 0), true},
		then{when(0), 1000},
		then{may(-1, 1), false},
		then{take(math.MinInt64, 1), false},
		then{take(0, 0), true},
		then{when(0), 1000},
		then{may(1100, 1), true},
		then{take(1000, 1), true},
		then{when(1), 1200},
		then{may(1199, 1), false},
		then{rate(3, 6400), ""},
		then{when(0), 1199},
		then{when(1), 1299},
	)
	play(t, "a Take that is false tells a time", 10, 0,
		then{rate(0, 640000), ""},
		then{take(90, 1), false},
		then{when(0), 90},
		then{take(80, 1), false},
		then{when(0), 90},
		then{when(1), 100},
	)
}

func TestLateTimes(t *testing.T) {
	play(t, "later than 2^62", 10, 0,
		then{rate(end-100, 640000), ""},
		then{when(1), end},
		then{when(2), end},
		then{may(end-1, 1), false},
		then{when(1), end},
		then{may(math.MaxInt64, 1), true},
		then{when(0), end},
		then{when(1), end},
		then{take(end+1, 2), false},
		then{take(end+1000, 1), true},
		then{take(math.MaxInt64, 1), false},
		then{when(1), end},
		then{when(0), end},
		then{may(5, 1), false},
	)
	play(t, "the last microseconds", 10, 0,
		then{rate(end-200, 640000), ""},
		then{when(1), end - 100},
		then{when(2), end},
		then{take(end-101, 0), true},
		then{when(1), end - 100},
		then{when(2), end},
		then{when(3), end},
	)
	play(t, "Rate later than 2^62", 1, 0,
		then{rate(math.MaxInt64, unit), ""},
		then{when(0), end},
		then{may(math.MaxInt64, 1), false},
	)
	play(t, "the longest time of all", 1400, 1000000,
		then{rate(0, top), ""},
		then{may(math.MaxInt64, 65535), true},
		then{when(65535), end},
		then{room(), uint64(top)},
	)
	play(t, "a slow rate's longest time", 1400, 0,
		then{rate(0, 1), ""},
		then{may(1400*unit-1, 1400), false},
		then{may(1400*unit-1, 1399), true},
		then{when(1400), 1400 * unit},
		then{take(math.MaxInt64, 1400), true},
		then{take(math.MaxInt64, 1), false},
	)
}

func TestWhen(t *testing.T) {
	play(t, "the whole microsecond", 2, 0,
		then{rate(0, 30000000), ""},
		then{when(0), 0},
		then{when(1), 3},
		then{when(2), 5},
		then{may(1, 0), true},
		then{when(0), 1},
		then{when(1), 3},
		then{may(2, 1), false},
		then{when(1), 3},
		then{may(3, 1), true},
		then{when(1), 3},
		then{when(2), 5},
		then{may(4, 1), true},
		then{when(1), 4},
	)
	play(t, "just met, just missed", 2, 0,
		then{rate(0, unit/2), ""},
		then{when(1), 2},
		then{rate(0, unit/2+1), ""},
		then{when(1), 2},
		then{rate(0, unit/2-1), ""},
		then{when(1), 3},
		then{rate(0, unit), ""},
		then{when(1), 1},
		then{rate(0, unit-1), ""},
		then{when(1), 2},
		then{rate(0, unit+1), ""},
		then{when(1), 1},
	)
	play(t, "more than Cap", 5, 100,
		then{rate(0, 640000), ""},
		then{when(5), 500},
		then{when(6), end},
		then{may(1000, 5), true},
		then{when(5), 1000},
		then{when(6), end},
		then{rate(1000, 640000*6), ""},
		then{room(), 6 * unit},
		then{when(6), 1017},
		then{when(7), end},
		then{rate(1000, 640000*6-1), ""},
		then{when(6), end},
		then{when(5), 1000},
	)
	play(t, "a rate of 0", 5, 100,
		then{rate(0, 640000), ""},
		then{rate(250, 0), ""},
		then{when(0), 250},
		then{when(2), 250},
		then{when(3), end},
		then{when(5), end},
		then{may(1<<50, 2), true},
		then{may(1<<50, 3), false},
		then{when(2), 1 << 50},
	)
	play(t, "asking tells no time", 5, 0,
		then{rate(0, 640000), ""},
		then{when(3), 300},
		then{when(0), 0},
		then{may(100, 1), true},
		then{when(3), 300},
	)
	for _, x := range []uint64{top, top - 1, top - unit, top - 65535*unit, top - 65535*unit + 1, 1 << 63, 1<<63 - 1} {
		play(t, fmt.Sprint("the rate ", x), 1, 1000000,
			then{rate(0, x), ""},
			then{when(1), 1},
			then{when(65535), 1},
			then{may(0, 1), false},
			then{take(1, 65535), true},
			then{when(65535), 1},
		)
	}
}

func TestRate(t *testing.T) {
	play(t, "the old one first", 10, 0,
		then{rate(0, 640000), ""},
		then{rate(300, 64), ""},
		then{may(300, 3), true},
		then{may(300, 4), false},
		then{when(4), 1000300},
		then{rate(500300, 640000), ""},
		then{when(4), 500350},
	)
	play(t, "the old one up to the old Cap", 1, 100,
		then{rate(0, 640000*5), ""},
		then{rate(1<<40, 640000*9), ""},
		then{room(), 9 * unit},
		then{may(1<<40, 5), true},
		then{may(1<<40, 6), false},
	)
	play(t, "what is above the new Cap goes", 2, 100,
		then{rate(0, 640000*9), ""},
		then{take(1000, 1), true},
		then{rate(1000, 640000*3), ""},
		then{room(), 3 * unit},
		then{may(1000, 3), true},
		then{may(1000, 4), false},
		then{rate(1000, 0), ""},
		then{room(), 2 * unit},
		then{rate(1000, 640000*9), ""},
		then{may(1000, 2), true},
		then{may(1000, 3), false},
		then{when(3), 1012},
	)
	play(t, "what is just the new Cap stays", 2, 100,
		then{rate(0, 640000*9), ""},
		then{take(1000, 6), true},
		then{rate(1000, 640000*3), ""},
		then{take(1000, 3), true},
		then{may(1000, 1), false},
	)
	play(t, "the same one again", 10, 0,
		then{rate(0, 640000), ""},
		then{rate(150, 640000), ""},
		then{rate(160, 640000), ""},
		then{when(2), 200},
		then{may(199, 2), false},
		then{may(200, 2), true},
	)
	play(t, "the greatest one", 1400, 1000000,
		then{rate(0, top), ""},
		then{rate(1, top), ""},
		then{rate(1<<40, top), ""},
		then{take(1<<40, 65535), true},
		then{take(1<<40, 65535), true},
		then{rate(1<<40, 0), ""},
		then{take(1<<40, 1400), true},
		then{take(1<<40, 1), false},
	)
}

// check holds what p tells against the model, and what it has.
func check(t *testing.T, script, call int, p *Pace, m *model) {
	t.Helper()
	if want := m.cap(); new(big.Int).SetUint64(p.Cap()).Cmp(want) != 0 {
		t.Fatalf("P20.1: script %d, call %d: Cap %d, not %d", script, call, p.Cap(), want)
	}
	if new(big.Int).SetUint64(p.have).Cmp(m.have) != 0 {
		t.Fatalf("P20.1: script %d, call %d: it has %d, not %d", script, call, p.have, m.have)
	}
	for _, n := range telling(m) {
		if got, want := p.When(n), m.when(n); got != want {
			t.Fatalf("P20.1: script %d, call %d: When(%d) %d, not %d", script, call, n, got, want)
		}
	}
}

// telling are numbers of bytes about what tells: none, what there is, what there can be, the most that one may ask for.
func telling(m *model) []int {
	ns := []int{-1, 0, 1, 65535, 65536}
	for _, x := range []*big.Int{m.have, m.cap()} {
		whole := new(big.Int).Quo(x, big.NewInt(unit))
		if whole.Cmp(big.NewInt(65536)) <= 0 {
			n := int(whole.Int64())
			ns = append(ns, n-1, n, n+1)
		}
	}
	return ns
}

// pick is one of the given.
func pick[T any](rnd *rand.Rand, of ...T) T {
	return of[rnd.Intn(len(of))]
}

func thrownRate(rnd *rand.Rand) uint64 {
	switch rnd.Intn(8) {
	case 0:
		return pick(rnd, 0, 1, 64, unit-1, unit, unit+1, 1<<63, top-1, uint64(top))
	case 1, 2:
		return rnd.Uint64() >> rnd.Intn(64)
	}
	return uint64(rnd.Intn(100)) * 640000
}

// thrownTime is mostly a little later than at.
func thrownTime(rnd *rand.Rand, at int64) int64 {
	switch rnd.Intn(40) {
	case 0:
		return pick(rnd, math.MinInt64, -1, 0, at-1)
	case 1:
		return at - rnd.Int63n(1000)
	case 2:
		return at + rnd.Int63n(1<<uint(1+rnd.Intn(48)))
	case 3:
		return at
	}
	return at + rnd.Int63n(2000)
}

func TestThrown(t *testing.T) {
	rnd := rand.New(rand.NewSource(20))
	for script := range 400 {
		s, tick := pick(rnd, 1, 2, 10, 100, 1000, 1400, 1+rnd.Intn(1400)), pick(rnd, 0, 1, 2, 100, 10000, 1000000, rnd.Int63n(1000001))
		p, m := New(s, tick), newModel(s, tick)
		at := int64(0)
		if script%10 == 9 {
			// A script that comes to the latest time.
			at = end - 100000
		}
		for call := range 80 {
			now := thrownTime(rnd, at)
			at = max(at, min(now, end))
			n := pick(rnd, telling(m)...)
			if rnd.Intn(3) == 0 {
				n = rnd.Intn(2000)
			}
			var got, want bool
			switch rnd.Intn(5) {
			case 0:
				x := thrownRate(rnd)
				p.Rate(now, x)
				m.setRate(now, x)
			case 1:
				got, want = p.May(now, n), m.may(now, n)
			default:
				got, want = p.Take(now, n), m.take(now, n)
			}
			if got != want {
				t.Fatalf("P20.1: script %d, call %d, at %d, of %d bytes: %v, not %v", script, call, now, n, got, want)
			}
			check(t, script, call, p, m)
		}
	}
}

// All short ways of a small bucket, in which each turn comes about soon.
func TestShortWays(t *testing.T) {
	type call struct {
		name string
		now  int64 // added to the last one's
		n    int
	}
	var calls []call
	for _, now := range []int64{0, 1, 3} {
		calls = append(calls, call{"take", now, 1}, call{"take", now, 2}, call{"may", now, 3}, call{"rate", now, 0}, call{"rate", now, 25000000}, call{"rate", now, unit})
	}
	const long = 4
	script := make([]int, long)
	var walk func(k int)
	walk = func(k int) {
		if k < long {
			for c := range calls {
				script[k] = c
				walk(k + 1)
			}
			return
		}
		p, m := New(2, 2), newModel(2, 2)
		p.Rate(0, unit)
		m.setRate(0, unit)
		at := int64(0)
		for _, c := range script {
			at += calls[c].now
			var got, want bool
			switch c := calls[c]; c.name {
			case "take":
				got, want = p.Take(at, c.n), m.take(at, c.n)
			case "may":
				got, want = p.May(at, c.n), m.may(at, c.n)
			default:
				p.Rate(at, uint64(c.n))
				m.setRate(at, uint64(c.n))
			}
			if got != want || new(big.Int).SetUint64(p.have).Cmp(m.have) != 0 {
				t.Fatalf("P20.1: %v: %v, it has %d, not %v and %d", script, got, p.have, want, m.have)
			}
		}
	}
	walk(0)
}

// What When tells is kept: a microsecond ahead of it they may not go, and at it they may.
func TestWhenIsKept(t *testing.T) {
	rnd := rand.New(rand.NewSource(21))
	for range 20000 {
		s, tick := 1+rnd.Intn(1400), rnd.Int63n(20000)
		x, now, n := max(1, thrownRate(rnd)), rnd.Int63n(1000000), rnd.Intn(3000)
		filled := func() *Pace {
			p := New(s, tick)
			p.Rate(0, x)
			p.May(now, 0)
			return p
		}
		at := filled().When(n)
		switch {
		case at == end:
			if p := filled(); uint64(n)*unit <= p.Cap() || p.Take(math.MaxInt64, n) {
				t.Fatalf("P20.1: New(%d, %d), Rate %d at %d: When(%d) is never", s, tick, x, now, n)
			}
		case at < now || !filled().Take(at, n):
			t.Fatalf("P20.1: New(%d, %d), Rate %d at %d: When(%d) is %d, too early", s, tick, x, now, n, at)
		case at > now && filled().Take(at-1, n):
			t.Fatalf("P20.1: New(%d, %d), Rate %d at %d: When(%d) is %d, too late", s, tick, x, now, n, at)
		}
	}
}

// moment is what the rates gave and what was taken up to a time, and Cap then.
type moment struct {
	given, taken, cap *big.Int
}

// T4, of any two times, with Cap as it is at the earlier one.
func TestBound(t *testing.T) {
	rnd := rand.New(rand.NewSource(22))
	took := 0
	for script := range 400 {
		p := New(1+rnd.Intn(1400), pick(rnd, 0, 1, 10000, rnd.Int63n(1000001)))
		given, taken := new(big.Int), new(big.Int)
		x, at := uint64(0), int64(0)
		var moments []moment
		for range 80 {
			now := thrownTime(rnd, at)
			if now > at {
				came := new(big.Int).Mul(new(big.Int).SetUint64(x), big.NewInt(now-at))
				given, at = came.Add(came, given), now
			}
			if n := rnd.Intn(1500); rnd.Intn(4) == 0 {
				x = thrownRate(rnd)
				p.Rate(now, x)
			} else if p.Take(now, n) {
				more, _ := bytes(n)
				taken = more.Add(more, taken)
				took++
			}
			moments = append(moments, moment{given, taken, new(big.Int).SetUint64(p.Cap())})
		}
		for k, to := range moments {
			for _, from := range moments[:k] {
				bound := new(big.Int).Sub(to.given, from.given)
				bound.Add(bound, from.cap)
				if went := new(big.Int).Sub(to.taken, from.taken); went.Cmp(bound) > 0 {
					t.Fatalf("T4: script %d: %d was taken, more than %d", script, went, bound)
				}
			}
		}
	}
	if took < 1000 {
		t.Errorf("T4: only %d Takes were true", took)
	}
}

// T4 is no more than it must be: one Cap may go at once, and then what the rate gives.
func TestBoundIsMet(t *testing.T) {
	p := New(100, 1000)
	p.Rate(0, 6400000)
	p.May(1000000, 0)
	for n := range 100 {
		if !p.Take(1000000, 1) {
			t.Fatalf("T4: a full one lets only %d bytes go", n)
		}
	}
	for now := int64(1000010); now < 1001000; now += 10 {
		if p.Take(now-1, 1) || !p.Take(now, 1) || p.Take(now, 1) {
			t.Fatalf("T4: at %d not just one byte goes", now)
		}
	}
}

func TestNil(t *testing.T) {
	var none *Pace
	for _, now := range []int64{math.MinInt64, -1, 0, 1, end, math.MaxInt64} {
		for _, n := range []int{math.MinInt, -1, 0, 1, 65535, 65536, math.MaxInt} {
			none.Rate(now, uint64(n))
			if none.May(now, n) || none.Take(now, n) || none.When(n) != end || none.Cap() != 0 {
				t.Errorf("P20.1: nil, at %d, of %d bytes: %v, %v, %d, %d", now, n, none.May(now, n), none.Take(now, n), none.When(n), none.Cap())
			}
		}
	}
}

func TestNotMadeByNew(t *testing.T) {
	edges := []int64{math.MinInt64, -1, 0, 1, 65535, 65536, end, math.MaxInt64}
	for _, now := range edges {
		for _, n := range edges {
			var p Pace
			p.May(now, int(n))
			p.Take(now, int(n))
			p.When(int(n))
			p.Cap()
			p.Rate(now, uint64(n))
			p.Take(now, int(n))
			p.When(int(n))
		}
	}
}

func TestAskingChangesNothing(t *testing.T) {
	rnd := rand.New(rand.NewSource(23))
	asked, other := New(100, 10000), New(100, 10000)
	at := int64(0)
	for k := range 5000 {
		at = thrownTime(rnd, at)
		n, x := rnd.Intn(300), thrownRate(rnd)
		for range k % 4 {
			asked.When(n)
			asked.Cap()
			asked.May(asked.When(0), n)
		}
		if k%9 == 0 {
			asked.Rate(at, x)
			other.Rate(at, x)
		}
		if asked.Take(at, n) != other.Take(at, n) || *asked != *other {
			t.Fatalf("P0.5: call %d: %v, not %v", k, *asked, *other)
		}
	}
}

func TestApart(t *testing.T) {
	alone, one, other := New(50, 100), New(50, 100), New(1400, 1000000)
	rnd := rand.New(rand.NewSource(24))
	at := int64(0)
	for k := range 2000 {
		at += rnd.Int63n(2000)
		n, x := rnd.Intn(60), thrownRate(rnd)
		if k%7 == 0 {
			alone.Rate(at, x)
			one.Rate(at, x)
			other.Rate(2*at, x/2)
		}
		other.Take(at+5, n/2)
		if alone.Take(at, n) != one.Take(at, n) || alone.When(n) != one.When(n) || alone.Cap() != one.Cap() {
			t.Fatalf("P0.5: call %d: one bucket hears of another", k)
		}
	}
}

// However often one asks between, as much comes: no part is lost or won.
func TestOftenAsked(t *testing.T) {
	rnd := rand.New(rand.NewSource(25))
	for range 300 {
		x := 1 + uint64(rnd.Int63n(1<<uint(10+rnd.Intn(20))))
		often, once := New(1400, 0), New(1400, 0)
		often.Rate(0, x)
		once.Rate(0, x)
		var times []int64
		for range 50 {
			times = append(times, rnd.Int63n(100000))
		}
		slices.Sort(times)
		for k, now := range times {
			switch k % 3 {
			case 0:
				often.May(now, 1)
			case 1:
				often.Take(now, 65535)
			default:
				often.Rate(now, x)
			}
		}
		for n := range 1400 {
			if got, want := often.May(100000, n), once.May(100000, n); got != want {
				t.Fatalf("P20.1: rate %d, of %d bytes: %v, asked once %v", x, n, got, want)
			}
		}
	}
}
