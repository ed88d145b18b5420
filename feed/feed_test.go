package feed

import (
	"fmt"
	"math"
	"math/big"
	"math/rand"
	"slices"
	"testing"

	"muleteer/ival"
)

const (
	round = 1 << 48
	half  = 1 << 47
)

// told is what f found out, but for what Tell tells: Lost, then the Intervals.
func told(f *Feed) string {
	open, closed := f.Intervals()
	return fmt.Sprint(f.Lost(), open, closed)
}

func rate(f *Feed, now int64) string {
	return fmt.Sprint(f.Tell(now))
}

// put is a Put and what is told behind it; told "": what was told ahead of it.
type put struct {
	now  int64
	n    uint64
	want bool
	told string
}

// play goes through a scene, at each place of the round where the numbers may wrap.
func play(t *testing.T, name string, r int64, puts ...put) {
	t.Helper()
	for _, base := range []uint64{0, 1000, half - 105, half - 1, half, round - 300, round - 104, round - 101, round - 1, 5 * round, math.MaxUint64 - 103} {
		f, was := New(r), "0 0 []"
		for k, p := range puts {
			if p.told != "" {
				was = p.told
			}
			if got := f.Put(p.now, base+p.n, 1); got != p.want || told(f) != was {
				t.Errorf("P17.1: %s, from %d, step %d: %v, %s, not %v, %s", name, base, k, got, told(f), p.want, was)
				return
			}
			open, closed := f.Intervals()
			if f.Loss() != ival.Rate(open, closed...) {
				t.Errorf("P17.1: %s, from %d, step %d: Loss %d", name, base, k, f.Loss())
			}
		}
	}
}

// of is a Feed that got the numbers, all at 0.
func of(t *testing.T, ns ...uint64) *Feed {
	t.Helper()
	f := New(1000)
	for _, n := range ns {
		if !f.Put(0, n, 1) {
			t.Fatalf("P17.1: Put %d of %d", n, ns)
		}
	}
	return f
}

var ends = []int64{math.MinInt64, -1 << 40, -1, 0, 1, 1<<16 - 1, 1 << 16, 1 << 32, 1<<62 - 1, 1 << 62, 1<<62 + 1, math.MaxInt64}

func TestNil(t *testing.T) {
	var none *Feed
	for _, e := range ends {
		if none.Put(e, uint64(e), int(e)) || rate(none, e) != "0 0" || none.Loss() != 0 || told(none) != "0 0 []" {
			t.Errorf("P17.1: nil, of %d", e)
		}
	}
}

func TestNew(t *testing.T) {
	for _, r := range ends {
		f := New(r)
		if f == nil || f.Loss() != 0 || told(f) != "0 0 []" || rate(f, 5) != "0 0" || rate(f, 5) != "0 0" {
			t.Errorf("P17.1: New(%d)", r)
		}
	}
	// The chapter leaves open what a Feed does that New did not make; it ends its calls.
	for _, e := range ends {
		f := new(Feed)
		for range 5 {
			f.Put(e, uint64(e), int(e))
			f.Put(-e, uint64(e)+300, int(e))
			f.Tell(e)
			f.Loss()
			f.Intervals()
			f.Lost()
		}
	}
}

// Two losses are one event as long as they lie no more than a round's time apart.
func TestRound(t *testing.T) {
	for _, c := range []struct{ r, lasts int64 }{
		{math.MinInt64, 1}, {-1 << 40, 1}, {-1, 1}, {0, 1}, {1, 1}, {2, 2}, {3, 3}, {1000, 1000}, {100000, 100000},
		{1<<32 - 1, 1<<32 - 1}, {1 << 32, 1 << 32}, {1<<32 + 1, 1 << 32}, {1<<33 + 5, 1 << 32}, {1 << 62, 1 << 32}, {math.MaxInt64, 1 << 32},
	} {
		for _, begin := range []int64{math.MinInt64, -1 << 33, -1, 0, 1, 1 << 40, 1<<62 - 1<<33} {
			for more, want := range []string{"2 7 [1]", "2 7 [1]", "2 3 [4 1]"} {
				f := New(c.r)
				later := begin + c.lasts + int64(more) - 1
				for n := range uint64(9) {
					switch {
					case n == 1 || n == 5:
					case n < 5:
						f.Put(begin, n, 1)
					default:
						f.Put(later, n, 1)
					}
				}
				if told(f) != want {
					t.Errorf("P17.1: New(%d), losses %d apart from %d on: %s, not %s", c.r, later-begin, begin, told(f), want)
				}
			}
		}
	}
}

func TestFirst(t *testing.T) {
	for _, n := range []uint64{0, 1, 249, 250, half - 1, half, half + 1, round - 1, round, round + 7, math.MaxUint64} {
		f := New(1000)
		if !f.Put(0, n, 1) || told(f) != "0 0 []" {
			t.Errorf("P17.1: Put %d", n)
		}
		for _, more := range []uint64{0, round, 7 * round} {
			if f.Put(0, n+more, 1) || told(f) != "0 0 []" {
				t.Errorf("P17.1: Put %d behind %d", n+more, n)
			}
		}
	}
}

func TestPlainRow(t *testing.T) {
	f := New(1)
	for n := range uint64(2000) {
		if !f.Put(int64(n)*1000, round-1000+n, 1) || told(f) != "0 0 []" || f.Loss() != 0 {
			t.Fatalf("P17.1: step %d: %s", n, told(f))
		}
	}
}

func TestLost(t *testing.T) {
	play(t, "three are further on", 1000,
		put{0, 100, true, ""},
		put{10, 102, true, ""},
		put{20, 103, true, ""},
		put{30, 104, true, "1 3 [1]"},
		put{40, 101, false, ""},
		put{50, 105, true, "1 4 [1]"},
	)
	play(t, "two are not enough", 1000,
		put{0, 100, true, ""},
		put{10, 102, true, ""},
		put{20, 103, true, ""},
		put{30, 103, false, ""},
		put{30, 102, false, ""},
		put{40, 101, true, ""},
		put{50, 104, true, ""},
		put{60, 105, true, ""},
	)
	play(t, "what is not next to it counts, too", 1000,
		put{0, 100, true, ""},
		put{10, 110, true, ""},
		put{20, 120, true, ""},
		put{30, 107, true, "6 19 [1]"},
		put{40, 115, true, "8 19 [1]"},
		put{50, 119, true, "12 19 [1]"},
		put{60, 118, true, "14 19 [1]"},
		put{70, 117, false, ""},
		put{80, 114, false, ""},
		put{90, 121, true, "14 20 [1]"},
	)
	play(t, "one that fills a gap makes others lost", 1000,
		put{0, 1, true, ""},
		put{1, 9, true, ""},
		put{2, 10, true, ""},
		put{3, 3, true, "1 8 [1]"},
		put{4, 2, false, ""},
		put{5, 5, true, "2 8 [1]"},
		put{6, 8, true, "4 8 [1]"},
		put{7, 4, false, ""},
		put{7, 6, false, ""},
		put{7, 7, false, ""},
		put{8, 11, true, "4 9 [1]"},
	)
	play(t, "each order", 1000,
		put{0, 0, true, ""},
		put{0, 7, true, ""},
		put{0, 5, true, ""},
		put{0, 6, true, "4 6 [1]"},
		put{0, 1, false, ""},
		put{0, 2, false, ""},
		put{0, 3, false, ""},
		put{0, 4, false, ""},
	)
}

// Below the first that was Put nothing is lost, though some are got there.
func TestBelowFirst(t *testing.T) {
	play(t, "got below it", 1000,
		put{0, 300, true, ""},
		put{0, 290, true, ""},
		put{0, 280, true, ""},
		put{0, 285, true, ""},
		put{0, 290, false, ""},
		put{0, 301, true, ""},
		put{0, 302, true, ""},
		put{0, 303, true, ""},
		put{0, 284, true, ""},
		put{0, 299, true, ""},
		put{0, 305, true, ""},
		put{0, 306, true, ""},
		put{0, 307, true, "1 3 [4]"},
		put{0, 298, true, ""},
		put{0, 298, false, ""},
		put{0, 58, true, ""},
		put{0, 57, false, ""},
	)
	play(t, "the next one below it", 1000,
		put{0, 300, true, ""},
		put{0, 298, true, ""},
		put{0, 302, true, ""},
		put{0, 303, true, ""},
		put{0, 304, true, "1 3 [1]"},
		put{0, 299, true, ""},
	)
}

func TestAges(t *testing.T) {
	for _, newest := range []uint64{0, 100, 249, 250, half + 100, round - 1} {
		for age := uint64(1); age < 600; age++ {
			f := of(t, newest)
			n := newest + round - age
			if f.Put(0, n, 1) != (age < 250) || f.Put(0, n, 1) {
				t.Fatalf("P17.1: %d put %d behind %d", n, age, newest)
			}
			if told(f) != "0 0 []" {
				t.Fatalf("P17.1: %d put %d behind %d: %s", n, age, newest, told(f))
			}
		}
		for _, back := range []uint64{250, 251, 1 << 24, 1 << 40, half - 250, half - 2, half - 1} {
			if of(t, newest).Put(0, newest+round-back, 1) {
				t.Fatalf("P17.1: Put %d back from %d", back, newest)
			}
		}
	}
}

// A gap of each length: what of it lies 250 or more behind the newest is not looked at.
func TestGaps(t *testing.T) {
	for _, first := range []uint64{0, 7, half - 300, round - 400, round - 1} {
		for gap := uint64(0); gap < 700; gap++ {
			f := of(t, first, first+gap+1, first+gap+2)
			if told(f) != "0 0 []" {
				t.Fatalf("P17.1: a gap of %d, two further on: %s", gap, told(f))
			}
			f.Put(0, first+gap+3, 1)
			lost := min(gap, 247)
			want := "0 0 []"
			if gap > 0 {
				want = fmt.Sprint(lost, lost+2, []uint64{gap - lost + 1})
			}
			if told(f) != want {
				t.Fatalf("P17.1: a gap of %d: %s, not %s", gap, told(f), want)
			}
			for n := first + 1; n < first+gap+1; n++ {
				if f.Put(0, n, 1) || told(f) != want {
					t.Fatalf("P17.1: a gap of %d: %d could be put", gap, n)
				}
			}
		}
	}
}

// What three are further on than only when it lies too far behind is lost no more, and got no more.
func TestOutOfSight(t *testing.T) {
	for step := uint64(1); step < 300; step++ {
		f := of(t, 99, 101, 102, 102+step)
		if want := step+2 < 250; (f.Lost() == 1) != want || f.Lost() > 1 {
			t.Fatalf("P17.1: a step of %d: %s", step, told(f))
		}
		if f.Put(0, 100, 1) {
			t.Fatalf("P17.1: a step of %d: 100 could be put", step)
		}
		// What lies in sight and is neither got nor lost can be put still.
		if step > 1 && !f.Put(0, 101+step, 1) {
			t.Fatalf("P17.1: a step of %d: what lies behind the newest", step)
		}
	}
}

func TestKeptBehindSteps(t *testing.T) {
	for step := uint64(1); step < 520; step++ {
		for _, low := range []uint64{0, 1000, half - 100, round - 60} {
			f := of(t, low, low+1, low+2)
			next := low + 2 + step
			if !f.Put(0, next, 1) {
				t.Fatalf("P17.1: Put %d on", step)
			}
			for d := range uint64(3) {
				if f.Put(0, low+d, 1) {
					t.Fatalf("P17.1: a step of %d: what was got could be put again", step)
				}
			}
			for _, d := range []uint64{1, 2, 3, step / 2, 248, 249, 250, 251, step - 1} {
				if d == 0 || d >= step {
					continue
				}
				g := of(t, low, low+1, low+2, next)
				if g.Put(0, next-d, 1) != (d < 250) {
					t.Fatalf("P17.1: a step of %d: %d behind the newest", step, d)
				}
			}
		}
	}
}

// Both are got or lost still when they lie 249 behind, and no number takes the place of another.
func TestMarksStay(t *testing.T) {
	for step := uint64(1); step < 260; step++ {
		f := of(t, 0, 1, 3, 4, 5)
		for n := uint64(6); n <= 5+step; n++ {
			f.Put(0, n, 1)
		}
		for n := range uint64(6) + step {
			if f.Put(0, n, 1) {
				t.Fatalf("P17.1: %d could be put again behind %d", n, 5+step)
			}
		}
		if want := fmt.Sprint("1 ", 3+step, " [2]"); told(f) != want {
			t.Fatalf("P17.1: a row behind a loss: %s, not %s", told(f), want)
		}
	}
}

// Its time is when the least got number further on than it was got; the next loss shows it.
func TestTimeOfLoss(t *testing.T) {
	for _, order := range [][3]uint64{{2, 3, 4}, {2, 4, 3}, {3, 2, 4}, {3, 4, 2}, {4, 2, 3}, {4, 3, 2}} {
		for more := range int64(2) {
			f := New(1000)
			f.Put(0, 0, 1)
			var at int64
			for k, n := range order {
				f.Put(int64(100*k), n, 1)
				if n == 2 {
					at = int64(100 * k)
				}
			}
			if told(f) != "1 3 [1]" {
				t.Fatalf("P17.1: %v: %s", order, told(f))
			}
			for n := uint64(6); n < 9; n++ {
				f.Put(at+1000+more, n, 1)
			}
			if want := []string{"2 7 [1]", "2 3 [4 1]"}[more]; told(f) != want {
				t.Errorf("P17.1: %v, then %d later: %s, not %s", order, 1000+more, told(f), want)
			}
		}
	}
	play(t, "not when it was taken for lost", 1000,
		put{0, 0, true, ""},
		put{0, 2, true, ""},
		put{900, 3, true, ""},
		put{900, 4, true, "1 3 [1]"},
		put{1001, 6, true, "1 5 [1]"},
		put{5000, 7, true, "1 6 [1]"},
		put{5000, 8, true, "2 3 [4 1]"},
	)
	play(t, "nor when the first of the three came", 1000,
		put{0, 0, true, ""},
		put{0, 4, true, ""},
		put{0, 3, true, ""},
		put{500, 2, true, "1 3 [1]"},
		put{1500, 6, true, "1 5 [1]"},
		put{1500, 7, true, "1 6 [1]"},
		put{1500, 8, true, "2 7 [1]"},
		put{1501, 10, true, "2 9 [1]"},
		put{1501, 11, true, "2 10 [1]"},
		put{1501, 12, true, "3 3 [8 1]"},
	)
	play(t, "of a whole gap it is the same", 1000,
		put{0, 0, true, ""},
		put{0, 5, true, ""},
		put{9000, 6, true, ""},
		put{9000, 7, true, "4 6 [1]"},
		put{9000, 13, true, "4 12 [1]"},
		put{9000, 14, true, "4 13 [1]"},
		put{9000, 15, true, "9 7 [7 1]"},
	)
}

func TestEvents(t *testing.T) {
	play(t, "rising, whichever was got first", 1000,
		put{0, 10, true, ""},
		put{100, 12, true, ""},
		put{5000, 14, true, ""},
		put{5000, 15, true, "1 4 [1]"},
		put{5000, 16, true, "2 3 [2 1]"},
	)
	play(t, "the lower one sooner, the rest of it one event", 1000,
		put{0, 10, true, ""},
		put{100, 12, true, ""},
		put{5000, 20, true, ""},
		put{5000, 21, true, "1 10 [1]"},
		put{5000, 22, true, "8 9 [2 1]"},
	)
	play(t, "a gap that is cut in two by a late one", 1000,
		put{0, 10, true, ""},
		put{100, 15, true, ""},
		put{5000, 12, true, ""},
		put{9000, 17, true, "1 6 [1]"},
		put{9000, 18, true, "3 7 [1]"},
		put{9000, 19, true, "4 3 [5 1]"},
	)
	play(t, "an earlier time begins none", 1000,
		put{0, 10, true, ""},
		put{0, 14, true, ""},
		put{5000, 12, true, ""},
		put{5000, 15, true, "1 4 [1]"},
		put{9000, 16, true, "2 5 [1]"},
		put{9000, 18, true, "2 7 [1]"},
		put{9000, 19, true, "2 8 [1]"},
		put{9000, 20, true, "3 3 [6 1]"},
	)
	play(t, "from the last event on, not from the last loss", 1000,
		put{0, 0, true, ""},
		put{0, 2, true, ""},
		put{0, 3, true, ""},
		put{0, 4, true, "1 3 [1]"},
		put{700, 6, true, "1 5 [1]"},
		put{700, 7, true, "1 6 [1]"},
		put{700, 8, true, "2 7 [1]"},
		put{1001, 10, true, "2 9 [1]"},
		put{1001, 11, true, "2 10 [1]"},
		put{1001, 12, true, "3 3 [8 1]"},
		put{2001, 14, true, "3 5 [8 1]"},
		put{2001, 15, true, "3 6 [8 1]"},
		put{2001, 16, true, "4 7 [8 1]"},
		put{2002, 18, true, "4 9 [8 1]"},
		put{2002, 19, true, "4 10 [8 1]"},
		put{2002, 20, true, "5 3 [8 8 1]"},
	)
	play(t, "the losses of one event count, each", 1000,
		put{0, 0, true, ""},
		put{0, 4, true, ""},
		put{0, 5, true, ""},
		put{0, 6, true, "3 5 [1]"},
		put{500, 8, true, "3 7 [1]"},
		put{500, 9, true, "3 8 [1]"},
		put{500, 10, true, "4 9 [1]"},
	)
}

// Twelve events, at distances of their own: the newest first, eight at most.
func TestIntervals(t *testing.T) {
	f := New(10)
	n, now := uint64(round-30), int64(0)
	var events []uint64
	first := n
	f.Put(now, n, 1)
	for k := range uint64(12) {
		for range 5 + k {
			n++
			f.Put(now, n, 1)
		}
		n, now = n+1, now+11
		events = append(events, n)
		for range 3 {
			n++
			f.Put(now, n, 1)
		}
		var want []uint64
		for i := range events {
			from := first
			if i > 0 {
				from = events[i-1]
			}
			want = append([]uint64{events[i] - from}, want...)
		}
		if want := fmt.Sprint(k+1, 3, want[:min(len(want), 8)]); told(f) != want {
			t.Errorf("P17.1: %d events: %s, not %s", k+1, told(f), want)
		}
	}
	if told(f) != "12 3 [20 19 18 17 16 15 14 13]" || f.Loss() != ival.Rate(3, 20, 19, 18, 17, 16, 15, 14, 13) {
		t.Errorf("P17.1: %s, Loss %d", told(f), f.Loss())
	}
}

func TestLoss(t *testing.T) {
	f := of(t, 100)
	for _, c := range []struct {
		n    uint64
		loss uint64
	}{
		{102, 0}, {103, 0}, {104, 5 << 32 / 15}, {105, 1 << 30}, {106, 5 << 32 / 25}, {108, 5 << 32 / 35}, {110, 5 << 32 / 45}, {111, 5 << 32 / 50}, {200, 5 << 32 / 495},
	} {
		f.Put(0, c.n, 1)
		if f.Loss() != c.loss {
			t.Errorf("P17.1: behind Put %d: %s, Loss %d, not %d", c.n, told(f), f.Loss(), c.loss)
		}
		if _, p := f.Tell(0); p != c.loss {
			t.Errorf("P17.1: behind Put %d: Tell's %d, not %d", c.n, p, c.loss)
		}
	}
}

func TestTell(t *testing.T) {
	f := New(1000)
	for _, now := range []int64{-7, 0, 1000} {
		if rate(f, now) != "0 0" {
			t.Error("P17.1: Tell ahead of any Put")
		}
	}
	// At first since the first Put, whatever was asked ahead of it.
	f.Put(2000000, 50, 100)
	f.Put(2500000, 51, 50)
	if got := rate(f, 3000000); got != "9600 0" {
		t.Errorf("P17.1: the first Tell: %s", got)
	}
	// Since then: a second Tell, and one of nothing, which counts as the last one, too.
	f.Put(3400000, 52, 7)
	if got := rate(f, 3700000); got != "640 0" {
		t.Errorf("P17.1: the second Tell: %s, not 448,000,000 by 700,000", got)
	}
	if rate(f, 4700000) != "0 0" || rate(f, 5000000) != "0 0" {
		t.Error("P17.1: Tell of none")
	}
	f.Put(5000000, 53, 5)
	if got := rate(f, 5500000); got != "640 0" {
		t.Errorf("P17.1: since a Tell of none: %s", got)
	}
	// The whole part.
	f.Put(5500001, 54, 1)
	if got := rate(f, 5500003); got != "21333333 0" {
		t.Errorf("P17.1: 64,000,000 by 3: %s", got)
	}
	f.Put(5500003, 55, 1)
	if got := rate(f, 5500003+64000001); got != "0 0" {
		t.Errorf("P17.1: 64,000,000 by one more: %s", got)
	}
	f.Put(0, 56, 1)
	if got := rate(f, 5500003+2*64000001-1); got != "1 0" {
		t.Errorf("P17.1: 64,000,000 by as much: %s", got)
	}
}

func TestTellAtOnce(t *testing.T) {
	f := New(1000)
	f.Put(500, 1, 3)
	if got := rate(f, 500); got != "192000000 0" {
		t.Errorf("P17.1: no time since the first Put: %s", got)
	}
	f.Put(500, 2, 3)
	if got := rate(f, 500); got != "192000000 0" {
		t.Errorf("P17.1: no time since the last Tell: %s", got)
	}
	f.Put(500, 3, 3)
	if got := rate(f, 501); got != "192000000 0" {
		t.Errorf("P17.1: a microsecond: %s", got)
	}
	f.Put(501, 4, 3)
	if got := rate(f, 503); got != "96000000 0" {
		t.Errorf("P17.1: two of them: %s", got)
	}
}

// So many bytes that 1,000,000 times 64 times them is more than 64 bits hold.
func TestTellOfMany(t *testing.T) {
	const puts = 4500000
	for took, want := range map[int64]uint64{0: math.MaxUint64, 2: puts * 65535 * 32 * 1000000} {
		f := New(1000)
		for n := range uint64(puts) {
			f.Put(0, n, 65535)
		}
		if x, p := f.Tell(took); x != want || p != 0 {
			t.Errorf("P17.1: Tell of %d Puts, %d behind: %d, %d, not %d", puts, took, x, p, want)
		}
	}
}

func TestSize(t *testing.T) {
	for _, c := range []struct {
		size int
		want uint64
	}{
		{math.MinInt, 0}, {-1 << 40, 0}, {-1, 0}, {0, 0}, {1, 64}, {1400, 89600}, {65534, 4194176}, {65535, 4194240},
		{65536, 4194240}, {65537, 4194240}, {1 << 32, 4194240}, {1<<32 + 1, 4194240}, {math.MaxInt, 4194240},
	} {
		f := New(1000)
		f.Put(0, 1, c.size)
		f.Put(0, 2, 10)
		if x, p := f.Tell(1000000); x != c.want+640 || p != 0 {
			t.Errorf("P17.1: a size of %d: Tell %d, %d", c.size, x, p)
		}
	}
}

// Only what is got counts: not what is there, what was lost or what lies too far behind; but below the first it does.
func TestBytesThatCount(t *testing.T) {
	f := New(1000)
	for _, c := range []struct {
		n    uint64
		size int
		want uint64
	}{
		{1000, 1, 64}, {1000, 2, 0}, {1002, 3, 192}, {1003, 4, 256}, {1004, 5, 320}, {1001, 6, 0}, {999, 7, 448}, {755, 8, 512}, {754, 9, 0}, {1004 + round, 10, 0}, {0, 11, 0}, {1005, 12, 768},
	} {
		f.Put(0, c.n, c.size)
		if x, _ := f.Tell(0); x != c.want*1000000 {
			t.Errorf("P17.1: Put %d of %d bytes: Tell %d, not %d", c.n, c.size, x, c.want*1000000)
		}
	}
	for n := range uint64(100) {
		f.Put(0, 1006+n, 1000)
		f.Put(0, 1006+n, 1000)
	}
	if got := rate(f, 1000000); got != fmt.Sprint(100*64000, 5<<32/520) {
		t.Errorf("P17.1: a hundred, each twice: Tell %s", got)
	}
}

// The time goes on with each call, one that is false and a Tell, too, and never back.
func TestTimes(t *testing.T) {
	f := New(1000)
	f.Tell(5000000)
	f.Put(1000000, 1, 100)
	if got := rate(f, 6000000); got != "6400 0" {
		t.Errorf("P17.1: a Put earlier than a Tell: %s", got)
	}
	f.Put(8000000, 1, 100)
	f.Put(0, 2, 100)
	if got := rate(f, 7000000); got != "3200 0" {
		t.Errorf("P17.1: a Tell earlier than a Put that was false: %s", got)
	}
	f.Put(0, 3, 100)
	if got := rate(f, 10000000); got != "3200 0" {
		t.Errorf("P17.1: a Tell that was early: %s", got)
	}
	// What lies too far behind lets time go by, and so does what was lost.
	g := of(t, 1000, 1002, 1003, 1004)
	for k, n := range []uint64{1000, 1001, 750, 0} {
		g.Tell(0)
		g.Put(int64(k+1)*1000000, n, 9)
		g.Put(0, 1005+uint64(k), 100)
		if x, _ := g.Tell(0); x != 6400 {
			t.Errorf("P17.1: Put %d was false: Tell %d", n, x)
		}
	}
	play(t, "what is got early is got at the last time", 1000,
		put{3000, 0, true, ""},
		put{0, 2, true, ""},
		put{-5, 3, true, ""},
		put{0, 4, true, "1 3 [1]"},
		put{4000, 6, true, "1 5 [1]"},
		put{4000, 7, true, "1 6 [1]"},
		put{4000, 8, true, "2 7 [1]"},
		put{4001, 8, false, ""},
		put{0, 10, true, "2 9 [1]"},
		put{0, 11, true, "2 10 [1]"},
		put{0, 12, true, "3 3 [8 1]"},
	)
	play(t, "below 0", 1000,
		put{-9000, 0, true, ""},
		put{-9000, 2, true, ""},
		put{-9000, 3, true, ""},
		put{-9000, 4, true, "1 3 [1]"},
		put{-7999, 6, true, "1 5 [1]"},
		put{-7999, 7, true, "1 6 [1]"},
		put{-7999, 8, true, "2 3 [4 1]"},
	)
}

func TestFarTimes(t *testing.T) {
	const end = int64(1 << 62)
	for _, c := range []struct {
		put, tell int64
		want      string
	}{
		{-1000000, 0, "640000 0"},
		{-500000, 1500000, "320000 0"},
		{-3000000, -1000000, "320000 0"},
		{math.MinInt64, math.MinInt64, "640000000000 0"},
		{math.MinInt64, math.MinInt64 + 1000000, "640000 0"},
		{math.MinInt64, -1, "0 0"},
		{math.MinInt64, 0, "0 0"},
		{math.MinInt64, end, "0 0"},
		{math.MinInt64, math.MaxInt64, "0 0"},
		{-end, end, "0 0"},
		{-end - 1, end, "0 0"},
		{0, math.MaxInt64, "0 0"},
		{end - 1000000, end - 500000, "1280000 0"},
		{end - 1000000, end, "640000 0"},
		{end - 1000000, end + 1, "640000 0"},
		{end - 1000000, math.MaxInt64, "640000 0"},
		{end - 1, math.MaxInt64, "640000000000 0"},
		{end, math.MaxInt64, "640000000000 0"},
		{end + 5, math.MaxInt64, "640000000000 0"},
		{math.MaxInt64, end, "640000000000 0"},
		{math.MaxInt64, 0, "640000000000 0"},
	} {
		f := New(1000)
		f.Put(c.put, 1, 10000)
		if got := rate(f, c.tell); got != c.want {
			t.Errorf("P17.1: Put at %d, Tell at %d: %s, not %s", c.put, c.tell, got, c.want)
		}
	}
	// Nothing is later than 2^62, so nothing is a round later than what lies a round ahead of it.
	for _, r := range []int64{1, 1000, 1 << 32} {
		for more := range int64(2) {
			f := New(r)
			for n := range uint64(9) {
				switch {
				case n == 1 || n == 5:
				case n < 5:
					f.Put(end-r-more, n, 1)
				default:
					f.Put(math.MaxInt64, n, 1)
				}
			}
			if want := []string{"2 7 [1]", "2 3 [4 1]"}[more]; told(f) != want {
				t.Errorf("P17.1: a round of %d about 2^62: %s, not %s", r, told(f), want)
			}
		}
	}
}

// A step of up to half a round leads; what was there is looked at no more, though some of it lies more than half a round behind.
func TestGreatSteps(t *testing.T) {
	for _, first := range []uint64{0, 249, 7000, half, round - 1} {
		for _, step := range []uint64{250, 499, 500, 1 << 24, 1 << 32, half - 300, half - 250, half - 249, half - 2, half - 1, half} {
			f := of(t, first)
			for age := range uint64(249) {
				f.Put(0, first+round-age-1, 1)
			}
			next := first + step
			if !f.Put(0, next, 1) || told(f) != "0 0 []" {
				t.Fatalf("P17.1: Put %d on from %d: %s", step, first, told(f))
			}
			if !f.Put(0, next+round-249, 1) || f.Put(0, next+round-250, 1) || f.Put(0, next, 1) {
				t.Fatalf("P17.1: a step of %d: the ages of 249 and 250", step)
			}
			f.Put(0, next+1, 1)
			if told(f) != "0 0 []" {
				t.Fatalf("P17.1: a step of %d: %s", step, told(f))
			}
			f.Put(0, next+2, 1)
			// The one that lies 249 behind was got; it lies 251 behind by now.
			if want := fmt.Sprint(247, 249, []uint64{step - 247}); told(f) != want {
				t.Fatalf("P17.1: a step of %d: %s, not %s", step, told(f), want)
			}
			if f.Put(0, next+3-250, 1) || told(f) != fmt.Sprint(247, 249, []uint64{step - 247}) {
				t.Fatalf("P17.1: a step of %d: what lies in between", step)
			}
		}
	}
}

// Numbers go round: lengths are how far one goes up.
func TestRounds(t *testing.T) {
	for _, base := range []uint64{0, 77, half, round - 1} {
		at := func(n uint64) uint64 { return base + n }
		f := New(1000)
		for _, n := range []uint64{0, 1 << 46, 2 << 46, 3 << 46} {
			if !f.Put(0, at(n), 1) {
				t.Fatalf("P17.1: Put %d on from %d", n, base)
			}
		}
		f.Put(0, at(3<<46+1), 1)
		f.Put(0, at(3<<46+2), 1)
		if want := fmt.Sprint(247, 249, []uint64{3<<46 - 247}); told(f) != want {
			t.Errorf("P17.1: more than half a round from the first one: %s, not %s", told(f), want)
		}
		// Another time, three quarters of a round further on than the event.
		for _, n := range []uint64{4 << 46, 5 << 46, 6 << 46} {
			if !f.Put(5000, at(n), 1) {
				t.Fatalf("P17.1: Put %d on from %d", n, base)
			}
		}
		if want := fmt.Sprint(247, 3<<46+247, []uint64{3<<46 - 247}); told(f) != want {
			t.Errorf("P17.1: the newest more than half a round behind the event: %s, not %s", told(f), want)
		}
		f.Put(5000, at(6<<46+1), 1)
		f.Put(5000, at(6<<46+2), 1)
		if want := fmt.Sprint(494, 249, []uint64{3 << 46, 3<<46 - 247}); told(f) != want {
			t.Errorf("P17.1: two events more than half a round apart: %s, not %s", told(f), want)
		}
	}
	// A whole round from the first one to the first event: 1 at least.
	for d, want := range []uint64{round - 1, 1, 1, 2} {
		f := of(t, 1000)
		for _, n := range []uint64{1000 + half, 1000 + 3<<46, 1246 + uint64(d), 1247 + uint64(d), 1248 + uint64(d)} {
			f.Put(0, n, 1)
		}
		if want := fmt.Sprint(247, 249, []uint64{want}); told(f) != want {
			t.Errorf("P17.1: a round and %d: %s, not %s", d-1, told(f), want)
		}
	}
	// What was got a round ago is looked at no more.
	f := of(t, 5, half+5, 5, half+5, 5)
	if f.Put(0, 5, 1) || told(f) != "0 0 []" {
		t.Errorf("P17.1: round and round: %s", told(f))
	}
}

func TestAnswersAreTheirOwn(t *testing.T) {
	f := New(1)
	for n := range uint64(100) {
		if n%10 != 5 {
			f.Put(int64(n)*10, n, 1)
		}
		was, loss := told(f), f.Loss()
		_, first := f.Intervals()
		kept := slices.Clone(first)
		_, second := f.Intervals()
		for i := range second[:cap(second)] {
			second[:cap(second)][i] = 1 << 40
		}
		if told(f) != was || f.Loss() != loss || !slices.Equal(first, kept) {
			t.Fatalf("P0.3: %s, not %s", told(f), was)
		}
	}
	_, early := f.Intervals()
	kept := slices.Clone(early)
	for n := uint64(100); n < 300; n++ {
		if n%10 != 5 {
			f.Put(int64(n)*10, n, 1)
		}
	}
	if !slices.Equal(early, kept) {
		t.Errorf("P0.3: what was told changed when more was put: %d, not %d", early, kept)
	}
}

func TestAskingChangesNothing(t *testing.T) {
	a, b := New(1000), New(1000)
	r := rand.New(rand.NewSource(1))
	for k := range int64(2000) {
		n := uint64(k) + uint64(r.Intn(8))
		if a.Put(k*100, n, 10) != b.Put(k*100, n, 10) {
			t.Fatalf("P0.5: Put %d", n)
		}
		for range r.Intn(3) {
			a.Loss()
			a.Intervals()
			a.Lost()
		}
		if told(a) != told(b) {
			t.Fatalf("P0.5: %s, not %s", told(a), told(b))
		}
	}
	if x, y := rate(a, 1<<40), rate(b, 1<<40); x != y || a.Lost() == 0 {
		t.Errorf("P0.5: %s, not %s", x, y)
	}
}

// The rate is of its own: what a Tell takes changes no loss.
func TestTellChangesNoLoss(t *testing.T) {
	a, b := New(1000), New(1000)
	r := rand.New(rand.NewSource(2))
	for k := range int64(2000) {
		n := uint64(k) + uint64(r.Intn(8))
		a.Put(k*100, n, 10)
		b.Put(k*100, n, 10)
		if r.Intn(3) == 0 {
			a.Tell(k * 100)
		}
		if told(a) != told(b) || a.Loss() != b.Loss() {
			t.Fatalf("P17.1: behind a Tell: %s, not %s", told(a), told(b))
		}
	}
}

func TestTwoAreApart(t *testing.T) {
	a, b := New(1000), New(1000)
	for _, n := range []uint64{1, 3, 4, 5} {
		a.Put(7000000, n, 100)
	}
	if told(b) != "0 0 []" || rate(b, 1000) != "0 0" || !b.Put(2000, 3, 1) || rate(b, 3000) != "64000 0" || told(a) != "1 3 [1]" {
		t.Errorf("P0.5: %s and %s", told(a), told(b))
	}
}

// ledger is a Feed told by the words alone. Its numbers don't go round: places on a line, on which a number has one each round.
type ledger struct {
	r           int64
	now         *big.Int // nil: there was no call
	got         map[int64]*big.Int
	lost        map[int64]bool
	first, last int64
	lostCount   int
	events      []int64
	eventTime   *big.Int
	lengths     []uint64
	bytes       int64
	since       *big.Int
}

func newLedger(r int64) *ledger {
	return &ledger{r: min(max(r, 1), 1<<32), got: map[int64]*big.Int{}, lost: map[int64]bool{}}
}

func (l *ledger) pass(now int64) {
	at := big.NewInt(now)
	if at.Cmp(big.NewInt(1<<62)) > 0 {
		at = big.NewInt(1 << 62)
	}
	if l.now == nil || at.Cmp(l.now) > 0 {
		l.now = at
	}
}

// place is where n lies, seen from the newest: at most half a round on, or less than that behind.
func (l *ledger) place(n uint64) int64 {
	here := l.last % round
	way := (int64(n%round) + round - here) % round
	if way > half {
		way -= round
	}
	return l.last + way
}

func (l *ledger) put(now int64, n uint64, size int) bool {
	l.pass(now)
	if len(l.got) == 0 {
		l.first = int64(n % round)
		l.last, l.since = l.first, l.now
	}
	place := l.place(n)
	if l.got[place] != nil || l.lost[place] || l.last-place >= 250 {
		return false
	}
	l.got[place] = l.now
	l.last = max(l.last, place)
	l.bytes += int64(min(max(size, 0), 65535))
	for p := max(l.first, l.last-249); p < l.last; p++ {
		if l.got[p] == nil && !l.lost[p] {
			l.look(p)
		}
	}
	return true
}

func (l *ledger) look(p int64) {
	var further []*big.Int
	for q := p + 1; q <= l.last && len(further) < 3; q++ {
		if l.got[q] != nil {
			further = append(further, l.got[q])
		}
	}
	if len(further) < 3 {
		return
	}
	l.lost[p] = true
	l.lostCount++
	at := further[0]
	if len(l.events) == 0 {
		l.lengths = append(l.lengths, uint64(max((p-l.first)%round, 1)))
	} else if at.Cmp(new(big.Int).Add(l.eventTime, big.NewInt(l.r))) > 0 {
		l.lengths = append(l.lengths, uint64((p-l.events[len(l.events)-1])%round))
	} else {
		return
	}
	l.events, l.eventTime = append(l.events, p), at
}

func (l *ledger) intervals() (uint64, []uint64) {
	if len(l.events) == 0 {
		return 0, nil
	}
	closed := slices.Clone(l.lengths)
	slices.Reverse(closed)
	return uint64((l.last - l.events[len(l.events)-1]) % round), closed[:min(len(closed), 8)]
}

func (l *ledger) told() string {
	open, closed := l.intervals()
	return fmt.Sprint(l.lostCount, open, closed)
}

func (l *ledger) tell(now int64) string {
	l.pass(now)
	open, closed := l.intervals()
	x := new(big.Int)
	if l.since != nil {
		took := new(big.Int).Sub(l.now, l.since)
		if took.Sign() == 0 {
			took.SetInt64(1)
		}
		x.Mul(big.NewInt(64*l.bytes), big.NewInt(1000000)).Quo(x, took)
		l.bytes, l.since = 0, l.now
	}
	return fmt.Sprint(x, ival.Rate(open, closed...))
}

// thrower throws times and numbers that lie about those that were thrown last.
type thrower struct {
	*rand.Rand
	now, wait int64
	near      uint64
	span      int
}

func (r *thrower) time() int64 {
	switch r.Intn(60) {
	case 0:
		return ends[r.Intn(6)]
	case 1, 2, 3, 4:
		return r.now - r.Int63n(3*r.wait+1)
	case 5, 6:
		r.now += r.wait
	case 7, 8:
		r.now += r.wait + 1
	case 9, 10, 11, 12, 13, 14, 15, 16:
		r.now += r.Int63n(2*r.wait + 2)
	case 17, 18, 19, 20:
		r.now++
	}
	return r.now
}

func (r *thrower) number() uint64 {
	switch r.Intn(150) {
	case 0:
		r.near += uint64(r.Intn(600))
	case 1:
		r.near += half - uint64(r.Intn(3))
	case 2:
		r.near = r.Uint64()
	case 3:
		return r.near + 1<<46 - uint64(r.Intn(500))
	case 4, 5, 6:
		return r.near - uint64(r.Intn(260))
	}
	if r.Intn(3) > 0 {
		r.near++
	}
	return r.near + uint64(r.Intn(2*r.span)) - uint64(r.span)
}

func (r *thrower) size() int {
	if r.Intn(8) == 0 {
		return int(ends[r.Intn(len(ends))])
	}
	return r.Intn(1500)
}

func TestThrown(t *testing.T) {
	for seed := range int64(600) {
		r := &thrower{Rand: rand.New(rand.NewSource(seed)), wait: []int64{1, 2, 40, 1000, 1 << 32}[seed%5]}
		r.now = []int64{0, math.MinInt64, -5000, 1 << 61, 1<<62 - 20000}[r.Intn(5)]
		r.near = []uint64{0, 1000, half, round - 200, r.Uint64()}[r.Intn(5)]
		r.span = []int{1, 3, 8, 30, 130}[r.Intn(5)]
		f, l := New(r.wait), newLedger(r.wait)
		for k := range 400 {
			if now := r.time(); r.Intn(10) == 0 {
				if got, want := rate(f, now), l.tell(now); got != want {
					t.Fatalf("P17.1: seed %d, step %d: Tell at %d is %s, not %s", seed, k, now, got, want)
				}
			} else {
				n, size := r.number(), r.size()
				if got, want := f.Put(now, n, size), l.put(now, n, size); got != want {
					t.Fatalf("P17.1: seed %d, step %d: Put %d at %d is %v, not %v", seed, k, n, now, got, want)
				}
			}
			if told(f) != l.told() {
				t.Fatalf("P17.1: seed %d, step %d: %s, not %s", seed, k, told(f), l.told())
			}
			open, closed := l.intervals()
			if f.Loss() != ival.Rate(open, closed...) {
				t.Fatalf("P17.1: seed %d, step %d: Loss %d", seed, k, f.Loss())
			}
		}
	}
}

// What is kept does not grow with what was put.
func TestKeepsNoMore(t *testing.T) {
	f := New(1)
	for n := range uint64(200000) {
		if n%10 != 5 {
			f.Put(int64(n)*10, n, 1)
		}
	}
	if f.Lost() != 20000 || len(f.closed) > 8 || cap(f.closed) > 100 {
		t.Errorf("P17.1: %d lost, %d intervals are kept, with room for %d", f.Lost(), len(f.closed), cap(f.closed))
	}
}
