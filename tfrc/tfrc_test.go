package tfrc

import (
	"fmt"
	"math"
	"math/big"
	"math/rand"
	"testing"

	"muleteer/eqn"
	"muleteer/rset"
)

const top = math.MaxUint64

// told is all that t tells, in this order: Rate, Rtt, Loss, Due, Top.
func told(t *Tfrc) string {
	due, runs := t.Due()
	greatest := fmt.Sprint(t.Top())
	if t.Top() == top {
		greatest = "top"
	}
	return fmt.Sprint(t.Rate(), " ", t.Rtt(), " ", t.Loss(), " ", due, " ", runs, " ", greatest)
}

// step is one call on a Tfrc; what it answers is told with what the Tfrc tells behind it.
type step func(*Tfrc) string

func start(now int64) step {
	return func(t *Tfrc) string { t.Start(now); return told(t) }
}

func fire(now int64) step {
	return func(t *Tfrc) string { return fmt.Sprint(t.Fire(now), " ", told(t)) }
}

func hear(now, sample int64, x, p uint64) step {
	return func(t *Tfrc) string { t.Hear(now, sample, x, p, false); return told(t) }
}

func limited(now, sample int64, x, p uint64) step {
	return func(t *Tfrc) string { t.Hear(now, sample, x, p, true); return told(t) }
}

// then is a step and what is told behind it.
type then struct {
	do   step
	want string
}

// play goes through a scene with a Tfrc of s bytes.
func play(t *testing.T, name string, s int, thens ...then) {
	t.Helper()
	x := New(s)
	for k, c := range thens {
		if got := c.do(x); got != c.want {
			t.Errorf("P16.1: %s, step %d: %s, not %s", name, k, got, c.want)
			return
		}
	}
}

func TestNew(t *testing.T) {
	for _, s := range []int{math.MinInt, -1400, -1, 0, 1401, 1402, 65535, 1<<32 + 1, math.MaxInt} {
		if New(s) != nil {
			t.Errorf("P16.1: New(%d) is one", s)
		}
	}
	for s := 1; s <= 1400; s++ {
		x := New(s)
		if x == nil {
			t.Fatalf("P16.1: New(%d) is nil", s)
		}
		if want := fmt.Sprint(64*s, " 0 0 0 false top"); told(x) != want {
			t.Errorf("P16.1: New(%d): %s, not %s", s, told(x), want)
		}
		if x.Fire(0) || x.Fire(math.MaxInt64) || x.Fire(math.MinInt64) {
			t.Errorf("P16.1: New(%d): its clock runs", s)
		}
	}
}

func TestStart(t *testing.T) {
	play(t, "the first one counts", 1000,
		then{start(5), "64000 0 0 2000005 true top"},
		then{start(9000000), "64000 0 0 2000005 true top"},
		then{start(0), "64000 0 0 2000005 true top"},
		then{hear(100000, 100000, 0, 0), "2560000 100000 0 500000 true top"},
		then{start(200000), "2560000 100000 0 500000 true top"},
		then{fire(500000), "true 1280000 100000 0 900000 true 640000"},
		then{start(600000), "1280000 100000 0 900000 true 640000"},
	)
	play(t, "behind a Hear", 10,
		then{hear(1000, 500000, 0, 0), "5120 500000 0 2001000 true top"},
		then{start(7000), "5120 500000 0 2007000 true top"},
		then{start(8000), "5120 500000 0 2007000 true top"},
		then{hear(1000, 500000, 0, 0), "5120 500000 0 2001000 true top"},
	)
	play(t, "sooner than a Hear's", 10,
		then{hear(1000, 1<<32, 0, 1<<32), "10 4294967296 4294967296 17179870184 true top"},
		then{start(0), "10 4294967296 4294967296 2000000 true top"},
	)
	play(t, "the first one, where the clock stands", 10,
		then{hear(0, 100000000, 0, 1<<32), "10 100000000 4294967296 400000000 true top"},
		then{fire(400000000), "true 10 100000000 4294967296 0 false 5"},
		then{start(7), "10 100000000 4294967296 2000007 true 5"},
		then{fire(2000007), "true 10 100000000 4294967296 0 false 5"},
		then{start(9), "10 100000000 4294967296 0 false 5"},
	)
}

func TestTimesOfStart(t *testing.T) {
	for _, c := range []struct{ now, due int64 }{
		{0, 2000000}, {1, 2000001}, {1 << 61, 1<<61 + 2000000}, {-1, 1999999}, {math.MinInt64, math.MinInt64 + 2000000},
		{1<<62 - 2000001, 1<<62 - 1}, {1<<62 - 2000000, 1 << 62}, {1<<62 - 1999999, 1 << 62},
		{1<<62 - 1, 1 << 62}, {1 << 62, 1 << 62}, {1<<62 + 1, 1 << 62}, {math.MaxInt64, 1 << 62},
	} {
		x := New(1)
		x.Start(c.now)
		if due, runs := x.Due(); due != c.due || !runs {
			t.Errorf("P16.1: Start(%d): the clock runs to %d, %v, not to %d", c.now, due, runs, c.due)
		}
		if x.Fire(c.due-1) || !x.Fire(c.due) {
			t.Errorf("P16.1: Start(%d): no Fire at %d alone", c.now, c.due)
		}
	}
}

func TestFirstHear(t *testing.T) {
	for _, c := range []struct {
		s      int
		sample int64
		want   uint64
	}{
		{1000, 1000000, 64 * 4000},
		{1094, 1000000, 64 * 4376},
		{1095, 1000000, 64 * 4380},
		{1096, 1000000, 64 * 4380},
		{1400, 1000000, 64 * 4380},
		{1, 1000000, 64 * 4},
		{1000, 3, 85333333333},
		{1400, 1, 280320000000},
		{1, 1, 256000000},
		{1, 256000000, 1},
		{1, 256000001, 1}, // the word gives 0
		{1, 1 << 32, 1},
		{7, 1 << 32, 7},
		{1095, 1 << 32, 1095},
		{1400, 200000000, 1401},
		{1400, 200300000, 1400}, // the word gives 1399
		{1400, 1 << 32, 1400},   // the word gives 65
	} {
		// No rate that was told bounds it.
		for _, x := range []uint64{0, 1, 1 << 50} {
			for _, lim := range []bool{false, true} {
				a := New(c.s)
				a.Hear(1<<50, c.sample, x, 0, lim)
				if a.Rate() != c.want || a.Rtt() != c.sample || a.Loss() != 0 || a.Top() != x {
					t.Errorf("P16.1: New(%d), Hear of %d, %d, 0, %v: %s, not %d", c.s, c.sample, x, lim, told(a), c.want)
				}
			}
		}
	}
	play(t, "behind Start and Fire", 1000,
		then{start(0), "64000 0 0 2000000 true top"},
		then{fire(2000000), "true 32000 0 0 6000000 true top"},
		then{hear(3000000, 100000, 7, 0), "2560000 100000 0 3400000 true 7"},
	)
}

func TestRtt(t *testing.T) {
	x := New(100)
	for k, c := range []struct{ sample, want int64 }{
		{100000, 100000}, {200000, 110000}, {110000, 110000}, {1, 99000}, {9, 89100}, {5, 80190}, {8, 72171}, {0, 64954},
		{1 << 32, 429555188}, {1 << 62, 816096398}, {math.MinInt64, 734486758},
	} {
		if x.Hear(int64(k), c.sample, 1, uint64(k%2), k%3 == 0); x.Rtt() != c.want {
			t.Fatalf("P16.1: %d: behind a sample of %d Rtt is %d, not %d", k, c.sample, x.Rtt(), c.want)
		}
	}
	for range 1000 {
		if x.Hear(0, 1, 1, 1, false); x.Rtt() < 1 {
			t.Fatalf("P16.1: samples of 1: Rtt is %d", x.Rtt())
		}
	}
	if x.Rtt() != 1 {
		t.Errorf("P16.1: samples of 1: Rtt is %d", x.Rtt())
	}
	for range 1000 {
		x.Hear(0, 1<<32, 1, 1, false)
	}
	if x.Rtt() != 1<<32-9 {
		t.Errorf("P16.1: samples of 2^32: Rtt is %d", x.Rtt())
	}
}

// At a loss of 1 to 3 parts and an Rtt of 1,000 the equation gives more than 2,900,000,000,000, so X is the limit.
func TestLimited(t *testing.T) {
	play(t, "p above Loss, and not", 1000,
		then{limited(10, 1000, 2000000, 1), "1700000 1000 1 75304 true 1700000"},
		then{limited(20, 1000, 2000000, 1), "4000000 1000 1 32020 true 2000000"},
		then{limited(30, 1000, 1000000, 2), "1000000 1000 2 128030 true 1000000"},
		then{limited(40, 1000, 19, 3), "500000 1000 3 256040 true 500000"},
		then{limited(50, 1000, 0, 2), "1000000 1000 2 128050 true 500000"},
		then{limited(60, 1000, 0, 3), "250000 1000 3 512060 true 250000"},
	)
	play(t, "whole halves, whole 17 twentieths", 100,
		then{limited(10, 1000, 3001, 0), "25600000 1000 0 4010 true 3001"},
		then{limited(20, 1000, 1999, 1), "1699 1000 1 7533863 true 1699"},
		then{limited(30, 1000, 1998, 2), "1698 1000 2 7538310 true 1698"},
		then{limited(40, 1000, 999, 3), "849 1000 3 15076600 true 849"},
		then{limited(50, 1000, 849, 3), "1698 1000 3 7538330 true 849"},
		then{limited(60, 1000, 0, 4), "424 1000 4 30188739 true 424"},
	)
	play(t, "the halves of all that were told, top not among them", 1000,
		then{hear(0, 1000, 8000, 0), "256000000 1000 0 4000 true top"},
		then{hear(0, 1000, 50000, 0), "256000000 1000 0 4000 true top"},
		then{limited(0, 1000, 7000, 1), "25000 1000 1 5120000 true 25000"},
	)
	play(t, "top goes where p is not above Loss, too", 1000,
		then{hear(0, 1000, 8000, 2), "3632395630520 1000 2 4000 true top"},
		then{limited(0, 1000, 7000, 2), "16000 1000 2 8000000 true 8000"},
	)
	play(t, "its time is now", 1000,
		then{limited(5000, 1000, 9000, 1), "7650 1000 1 16737026 true 7650"},
		then{limited(10000, 1000, 1, 1), "15300 1000 1 8376013 true 7650"},
		then{hear(12000, 1000, 3, 1), "15300 1000 1 8378013 true 7650"},
		then{hear(12001, 1000, 3, 1), "1000 1000 1 128012001 true 3"},
		then{limited(20000, 1000, 9000, 2), "7650 1000 2 16752026 true 7650"},
		then{hear(22000, 1000, 3, 2), "15300 1000 2 8388013 true 7650"},
		then{hear(22001, 1000, 3, 2), "1000 1000 2 128022001 true 3"},
	)
}

func TestNotLimited(t *testing.T) {
	play(t, "of late: two of Rtt", 1000,
		then{hear(2000, 1000, 5000, 1), "5137040627632 1000 1 6000 true top"},
		then{hear(2001, 1000, 400000, 1), "800000 1000 1 162001 true 400000"},
		then{hear(4001, 1000, 100, 1), "800000 1000 1 164001 true 400000"},
		then{hear(4002, 1000, 600, 1), "1200 1000 1 106670668 true 600"},
		then{hear(4003, 1000, 499, 9), "1200 1000 9 106670669 true 600"},
		then{hear(6003, 1000, 499, 9), "1000 1000 9 128006003 true 499"},
	)
	play(t, "of this Rtt", 1000,
		then{hear(1<<20, 1000, 5000, 1), "10000 1000 1 13848576 true 5000"},
		then{hear(1<<20+4000, 11000, 3000, 1), "10000 2000 1 13852576 true 5000"},
		then{hear(1<<20+4001, 2000, 3000, 1), "6000 2000 1 22385910 true 3000"},
	)
	play(t, "eight at most", 1000,
		then{hear(1<<20, 1000, 9000, 1), "18000 1000 1 8159687 true 9000"},
		then{hear(1<<20+1, 1000, 8000, 1), "18000 1000 1 8159688 true 9000"},
		then{hear(1<<20+2, 1000, 1, 1), "18000 1000 1 8159689 true 9000"},
		then{hear(1<<20+3, 1000, 1, 1), "18000 1000 1 8159690 true 9000"},
		then{hear(1<<20+4, 1000, 1, 1), "18000 1000 1 8159691 true 9000"},
		then{hear(1<<20+5, 1000, 1, 1), "18000 1000 1 8159692 true 9000"},
		then{hear(1<<20+6, 1000, 1, 1), "18000 1000 1 8159693 true 9000"},
		then{hear(1<<20+7, 1000, 1, 1), "18000 1000 1 8159694 true 9000"},
		then{hear(1<<20+8, 1000, 1, 1), "16000 1000 1 9048584 true 8000"},
	)
	play(t, "more loss halves nothing", 1000,
		then{hear(1<<20, 1000, 5000, 1), "10000 1000 1 13848576 true 5000"},
		then{hear(1<<20+1, 1000, 20, 2), "10000 1000 2 13848577 true 5000"},
	)
	// What was told is no more than 2^50; twice the greatest number is the greatest number.
	play(t, "top is no bound", 1,
		then{hear(0, 1, 1<<50, 1), "5137040627632 1 1 4 true top"},
		then{hear(3, 1, 1<<50, 1), "5137040627632 1 1 7 true 1125899906842624"},
	)
}

func TestEquation(t *testing.T) {
	play(t, "less than the limit", 1000,
		then{hear(1000000, 100000, 10000000, 1<<28), "1920212 100000 268435456 1400000 true 10000000"},
		then{hear(1000001, 100000, 10000000, 1<<32), "2630 100000 4294967296 49669202 true 10000000"},
		then{limited(1000002, 100000, 10000000, 1<<20), "20000000 100000 1048576 1400002 true 10000000"},
		then{limited(1000003, 100000, 10000000, 1<<24), "8500000 100000 16777216 1400003 true 8500000"},
		then{limited(1000004, 100000, 10000000, 1<<24), "12115253 100000 16777216 1400004 true 10000000"},
		then{limited(1000005, 200000, 10000000, 1<<28), "1745647 110000 268435456 1440005 true 8500000"},
	)
	play(t, "s at least", 1400,
		then{hear(1<<40, 1000000, 1<<50, 1<<31), "3739 1000000 2147483648 1099559555029 true 1125899906842624"},
		then{hear(1<<40, 1000000, 1<<50, 1<<32), "1400 1000000 4294967296 1099639627776 true 1125899906842624"},
		then{hear(1<<40, 1000000, 0, 1), "7191856878 1000000 1 1099515627776 true 1125899906842624"},
		then{limited(1<<41, 1000000, 0, 2), "5085353882 1000000 2 2199027255552 true 562949953421312"},
	)
}

func TestDoubling(t *testing.T) {
	play(t, "each Rtt, by the limit, by the first word of X", 1000,
		then{hear(1000000, 100000, 10000000, 0), "2560000 100000 0 1400000 true 10000000"},
		then{hear(1099999, 100000, 10000000, 0), "2560000 100000 0 1499999 true 10000000"},
		then{hear(1100000, 100000, 10000000, 0), "5120000 100000 0 1500000 true 10000000"},
		then{hear(1199999, 100000, 10000000, 0), "5120000 100000 0 1599999 true 10000000"},
		then{hear(1250000, 100000, 10000000, 0), "10240000 100000 0 1650000 true 10000000"},
		then{hear(1349999, 100000, 10000000, 0), "10240000 100000 0 1749999 true 10000000"},
		then{hear(1350000, 100000, 10000000, 0), "20000000 100000 0 1750000 true 10000000"},
		then{hear(1450000, 100000, 1, 0), "20000000 100000 0 1850000 true 10000000"},
		then{hear(1549999, 100000, 7, 0), "20000000 100000 0 1949999 true 10000000"},
		then{hear(1550000, 100000, 4, 0), "20000000 100000 0 1950000 true 10000000"},
		then{hear(1649999, 100000, 4, 0), "20000000 100000 0 2049999 true 7"},
		then{hear(1650000, 100000, 4, 0), "2560000 100000 0 2050000 true 7"},
		then{hear(1749999, 100000, 4, 0), "2560000 100000 0 2149999 true 7"},
	)
	play(t, "by this Rtt", 1000,
		then{hear(1000000, 100000, 1, 0), "2560000 100000 0 1400000 true 1"},
		then{hear(1109999, 200000, 1, 0), "2560000 110000 0 1549999 true 1"},
		then{hear(1110000, 110000, 1, 0), "2327272 110000 0 1550000 true 1"},
		then{hear(1209999, 10000, 1, 0), "2327272 100000 0 1609999 true 1"},
		then{hear(1210000, 100000, 1300000, 0), "2600000 100000 0 1610000 true 1300000"},
	)
	play(t, "limited", 1000,
		then{limited(1000000, 100000, 1300000, 0), "2560000 100000 0 1400000 true 1300000"},
		then{limited(1100000, 100000, 1000, 0), "2600000 100000 0 1500000 true 1300000"},
		then{limited(1200000, 100000, 9000000, 0), "5200000 100000 0 1600000 true 9000000"},
	)
	play(t, "a loss is none", 1000,
		then{hear(1000000, 100000, 10000000, 1<<28), "1920212 100000 268435456 1400000 true 10000000"},
		then{hear(1099999, 100000, 10000000, 0), "1920212 100000 0 1499999 true 10000000"},
		then{hear(1100000, 100000, 10000000, 0), "3840424 100000 0 1500000 true 10000000"},
		then{hear(1190000, 100000, 10000000, 1<<32), "2630 100000 4294967296 49859201 true 10000000"},
		then{hear(1199999, 100000, 10000000, 0), "2630 100000 0 49869200 true 10000000"},
		then{hear(1200000, 100000, 10000000, 0), "2560000 100000 0 1600000 true 10000000"},
		then{hear(1300000, 100000, 10000000, 1<<32), "2630 100000 4294967296 49969201 true 10000000"},
		then{hear(1300001, 100000, 10000000, 0), "2560000 100000 0 1700001 true 10000000"},
	)
	play(t, "the time goes back", 1000,
		then{hear(1000000, 100000, 10000000, 0), "2560000 100000 0 1400000 true 10000000"},
		then{hear(500000, 100000, 10000000, 0), "2560000 100000 0 900000 true 10000000"},
		then{hear(0, 100000, 10000000, 0), "2560000 100000 0 400000 true 10000000"},
		then{hear(1099999, 100000, 10000000, 0), "2560000 100000 0 1499999 true 10000000"},
		then{hear(1100000, 100000, 10000000, 0), "5120000 100000 0 1500000 true 10000000"},
	)
	play(t, "a Fire is no doubling and stops none", 1000,
		then{hear(1000000, 100000, 10000000, 0), "2560000 100000 0 1400000 true 10000000"},
		then{fire(1400000), "true 1280000 100000 0 1800000 true 640000"},
		then{hear(1400001, 100000, 900000, 0), "2560000 100000 0 1800001 true 900000"},
	)
	play(t, "s at least", 1400,
		then{hear(1<<40, 1<<32, 0, 0), "1400 4294967296 0 1116691496960 true 0"},
		then{hear(1<<40+1<<32, 1<<32, 0, 0), "1400 4294967296 0 1120986464256 true 0"},
		then{hear(1<<40+2<<32, 1<<32, 1000, 0), "2000 4294967296 0 1125281431552 true 1000"},
		then{hear(1<<40+3<<32, 1<<32, 1000, 0), "2000 4294967296 0 1129576398848 true 1000"},
	)
}

func TestFire(t *testing.T) {
	play(t, "ahead of any Hear", 1000,
		then{fire(1 << 40), "false 64000 0 0 0 false top"},
		then{start(5), "64000 0 0 2000005 true top"},
		then{fire(2000004), "false 64000 0 0 2000005 true top"},
		then{fire(-1), "false 64000 0 0 2000005 true top"},
		then{fire(2000005), "true 32000 0 0 6000005 true top"},
		then{fire(6000004), "false 32000 0 0 6000005 true top"},
		then{fire(7000000), "true 16000 0 0 15000000 true top"},
		then{fire(15000000), "true 8000 0 0 31000000 true top"},
		then{fire(31000000), "true 4000 0 0 63000000 true top"},
		then{fire(63000000), "true 2000 0 0 127000000 true top"},
		then{fire(127000000), "true 1000 0 0 0 false top"},
		then{fire(1 << 61), "false 1000 0 0 0 false top"},
		then{start(1 << 61), "1000 0 0 0 false top"},
		then{hear(1<<50, 256000, 3, 0), "1000000 256000 0 1125899907866624 true 3"},
	)
	play(t, "odd ones, by the longer clock", 1,
		then{hear(0, 11000000, 0, 0), "23 11000000 0 44000000 true top"},
		then{fire(44000000), "true 11 11000000 0 88000000 true 6"},
		then{fire(90000000), "true 5 11000000 0 134000000 true 3"},
		then{fire(134000000), "true 2 11000000 0 198000000 true 1"},
		then{fire(math.MaxInt64), "true 1 11000000 0 0 false 1"},
		then{fire(math.MaxInt64), "false 1 11000000 0 0 false 1"},
		then{hear(200000000, 11000000, 0, 1<<32), "1 11000000 4294967296 328000000 true 1"},
		then{fire(327999999), "false 1 11000000 4294967296 328000000 true 1"},
		then{fire(328000000), "true 1 11000000 4294967296 0 false 1"},
	)
	play(t, "to s, not below it", 1000,
		then{hear(1000000, 128100, 10000000, 0), "1998438 128100 0 1512400 true 10000000"},
		then{limited(1000000, 128100, 3002, 1), "5000000 128100 1 1512400 true 5000000"},
		then{hear(2000000, 128100, 1001, 1), "2002 128100 1 65936063 true 1001"},
		then{fire(65936063), "true 1001 128100 1 193808190 true 501"},
		then{fire(193808190), "true 1000 128100 1 0 false 500"},
	)
	play(t, "from just above s to s", 1000,
		then{hear(1<<30, 100, 999, 9), "1998 100 9 1137805888 true 999"},
		then{fire(1137805888), "true 1000 100 9 0 false 500"},
	)
	// What it tells the rates is of its own time: the word of it goes 2 Rtt later.
	play(t, "its time is now", 1000,
		then{hear(1000000, 1000, 90000, 1), "180000 1000 1 1711111 true 90000"},
		then{fire(1800000), "true 90000 1000 1 3222222 true 45000"},
		then{hear(1802000, 1000, 40000, 1), "90000 1000 1 3224222 true 45000"},
		then{hear(1802001, 1000, 40000, 1), "80000 1000 1 3402001 true 40000"},
	)
}

func TestLateTimes(t *testing.T) {
	const end = "4611686018427387904"
	play(t, "nothing is later than 2^62", 1000,
		then{hear(1<<62-400000, 100000, 10, 0), "2560000 100000 0 " + end + " true 10"},
		then{hear(1<<62-400001, 100000, 10, 0), "2560000 100000 0 4611686018427387903 true 10"},
		then{hear(1<<62-1, 100000, 10, 0), "2560000 100000 0 " + end + " true 10"},
		then{hear(math.MaxInt64, 100000, 10, 0), "2560000 100000 0 " + end + " true 10"},
		then{fire(1<<62 - 1), "false 2560000 100000 0 " + end + " true 10"},
		then{fire(math.MaxInt64), "true 1280000 100000 0 " + end + " true 640000"},
		then{fire(1 << 62), "true 640000 100000 0 " + end + " true 320000"},
		then{fire(1<<62 + 1), "true 320000 100000 0 " + end + " true 160000"},
		then{fire(math.MinInt64), "false 320000 100000 0 " + end + " true 160000"},
	)
	play(t, "what is later is no further behind", 1000,
		then{hear(1<<62-99999, 100000, 10000000, 0), "2560000 100000 0 " + end + " true 10000000"},
		then{hear(1<<62+1, 100000, 10000000, 0), "2560000 100000 0 " + end + " true 10000000"},
		then{hear(math.MaxInt64, 100000, 10000000, 0), "2560000 100000 0 " + end + " true 10000000"},
	)
	play(t, "but 2^62 itself is", 1000,
		then{hear(1<<62-100000, 100000, 10000000, 0), "2560000 100000 0 " + end + " true 10000000"},
		then{hear(1<<62, 100000, 10000000, 0), "5120000 100000 0 " + end + " true 10000000"},
	)
	play(t, "a Start ahead of all times", 1000,
		then{start(math.MinInt64), "64000 0 0 -9223372036852775808 true top"},
		then{hear(math.MinInt64, 100000, 10, 0), "2560000 100000 0 400000 true top"},
		then{hear(-1, 100000, 10, 0), "2560000 100000 0 400000 true top"},
		then{hear(99999, 100000, 10, 0), "2560000 100000 0 499999 true top"},
		then{hear(100000, 100000, 10, 0), "5120000 100000 0 500000 true top"},
	)
	play(t, "a Fire below 0", 1000,
		then{start(-90000000), "64000 0 0 -88000000 true top"},
		then{fire(-88000001), "false 64000 0 0 -88000000 true top"},
		then{fire(-87000000), "true 32000 0 0 -83000000 true top"},
	)
}

func TestNearerEnds(t *testing.T) {
	type heard struct {
		now, sample int64
		x, p        uint64
	}
	for _, c := range []struct{ far, near heard }{
		{heard{-1, 50, 60, 70}, heard{0, 50, 60, 70}},
		{heard{math.MinInt64, 50, 60, 70}, heard{0, 50, 60, 70}},
		{heard{1<<62 + 1, 50, 60, 70}, heard{1 << 62, 50, 60, 70}},
		{heard{math.MaxInt64, 50, 60, 70}, heard{1 << 62, 50, 60, 70}},
		{heard{40, 0, 60, 70}, heard{40, 1, 60, 70}},
		{heard{40, -1, 60, 70}, heard{40, 1, 60, 70}},
		{heard{40, math.MinInt64, 60, 70}, heard{40, 1, 60, 70}},
		{heard{40, 1<<32 + 1, 60, 70}, heard{40, 1 << 32, 60, 70}},
		{heard{40, 1<<33 + 5, 60, 70}, heard{40, 1 << 32, 60, 70}},
		{heard{40, math.MaxInt64, 60, 70}, heard{40, 1 << 32, 60, 70}},
		{heard{40, 50, 1<<50 + 1, 70}, heard{40, 50, 1 << 50, 70}},
		{heard{40, 50, 1<<63 + 5, 70}, heard{40, 50, 1 << 50, 70}},
		{heard{40, 50, top, 70}, heard{40, 50, 1 << 50, 70}},
		{heard{40, 50, 60, 1<<32 + 1}, heard{40, 50, 60, 1 << 32}},
		{heard{40, 50, 60, 1<<33 + 5}, heard{40, 50, 60, 1 << 32}},
		{heard{40, 50, 60, top}, heard{40, 50, 60, 1 << 32}},
	} {
		for k := range 16 {
			a, b := New(1000), New(1000)
			if k&1 != 0 {
				a.Hear(30, 40, 50, 60, true)
				b.Hear(30, 40, 50, 60, true)
			}
			c.far.p, c.near.p = c.far.p*uint64(1-k&8/8), c.near.p*uint64(1-k&8/8)
			for range 2 {
				a.Hear(c.far.now, c.far.sample, c.far.x, c.far.p, k&2 != 0)
				b.Hear(c.near.now, c.near.sample, c.near.x, c.near.p, k&2 != 0)
				if told(a) != told(b) {
					t.Errorf("P16.1: Hear of %v (%d): %s, not %s as of %v", c.far, k, told(a), told(b), c.near)
				}
			}
			// What the rates keep of now shows by what goes later on.
			for n := range int64(200) {
				a.Hear(n*3, 5, 0, 1, false)
				b.Hear(n*3, 5, 0, 1, false)
				if told(a) != told(b) {
					t.Fatalf("P16.1: %d behind Hear of %v (%d): %s, not %s", n, c.far, k, told(a), told(b))
				}
			}
		}
	}
	for _, p := range []uint64{0, 1, 1<<32 - 1, 1 << 32} {
		for _, x := range []uint64{0, 1, 1<<50 - 1, 1 << 50} {
			a := New(1000)
			a.Hear(1<<61, 1<<32, x, p, false)
			if a.Loss() != p || a.Top() != x || a.Rtt() != 1<<32 {
				t.Errorf("P16.1: Hear of %d, %d: %s", x, p, told(a))
			}
		}
	}
}

func TestNothing(t *testing.T) {
	var none *Tfrc
	for _, x := range []*Tfrc{none, {}} {
		for _, p := range []uint64{0, 1, top} {
			x.Start(1)
			x.Hear(1, 1, 1, p, true)
			x.Hear(1<<40, 1, 1, p, false)
			if x.Fire(math.MaxInt64) || x.Fire(math.MinInt64) || told(x) != "0 0 0 0 false 0" {
				t.Errorf("P16.1: %v tells %s", x, told(x))
			}
		}
	}
}

// model reckons the chapter's words with numbers that have no end.
type model struct {
	s, x, rtt, loss *big.Int
	told            *rset.Set
	heard, started  bool
	doubled         *big.Int
	due             *big.Int // nil: the clock does not run
}

func whole(n int64) *big.Int { return big.NewInt(n) }

func number(n uint64) *big.Int { return new(big.Int).SetUint64(n) }

func plus(a, b *big.Int) *big.Int { return new(big.Int).Add(a, b) }

func times(a, b *big.Int) *big.Int { return new(big.Int).Mul(a, b) }

func by(a, b *big.Int) *big.Int { return new(big.Int).Quo(a, b) }

func lesser(a, b *big.Int) *big.Int {
	if a.Cmp(b) < 0 {
		return a
	}
	return b
}

func greater(a, b *big.Int) *big.Int {
	if a.Cmp(b) < 0 {
		return b
	}
	return a
}

func pow(k uint) *big.Int { return new(big.Int).Lsh(whole(1), k) }

// nearest is n, or the nearer end of least to 2^k.
func nearest(n *big.Int, least int64, k uint) *big.Int {
	return greater(whole(least), lesser(n, pow(k)))
}

func newModel(s int) *model {
	return &model{s: whole(int64(s)), x: whole(int64(64 * s)), rtt: whole(0), loss: whole(0), told: rset.New()}
}

func (m *model) runs(now, wait *big.Int) {
	m.due = lesser(plus(lesser(now, pow(62)), wait), pow(62))
}

func (m *model) start(now int64) {
	if !m.started {
		m.started = true
		m.runs(whole(now), whole(2000000))
	}
}

// word is the first Hear's word of X, with this Rtt.
func (m *model) word() *big.Int {
	w := lesser(times(whole(4), m.s), greater(times(whole(2), m.s), whole(4380)))
	return by(times(times(whole(64), w), whole(1000000)), m.rtt)
}

func (m *model) wait() *big.Int {
	two := by(times(times(whole(128), m.s), whole(1000000)), m.x)
	return greater(times(whole(4), m.rtt), two)
}

// twice is twice Max, but no greater than the greatest number.
func (m *model) twice() *big.Int {
	return lesser(times(whole(2), number(m.told.Max())), number(top))
}

func (m *model) limit(now, x, p *big.Int, limited bool) *big.Int {
	if !limited {
		m.told.Update(x.Uint64(), now.Int64(), m.rtt.Int64())
		return m.twice()
	}
	if p.Cmp(m.loss) > 0 {
		m.told.Halve()
		x = by(times(x, whole(17)), whole(20))
		m.told.Maximize(x.Uint64(), now.Int64())
		return number(m.told.Max())
	}
	m.told.Maximize(x.Uint64(), now.Int64())
	return m.twice()
}

func (m *model) hear(now, sample int64, x, p uint64, limited bool) {
	n, d := nearest(whole(now), 0, 62), nearest(whole(sample), 1, 32)
	got, loss := nearest(number(x), 0, 50), nearest(number(p), 0, 32)
	first := !m.heard
	m.heard = true
	if first {
		m.rtt = d
		m.x = m.word()
		m.doubled = n
	} else {
		m.rtt = by(plus(times(whole(9), m.rtt), d), whole(10))
	}
	limit := m.limit(n, got, loss, limited)
	m.loss = loss
	if loss.Sign() > 0 {
		m.x = lesser(number(eqn.Rate(m.s.Uint64(), m.rtt.Uint64(), loss.Uint64())), limit)
	} else if !first && n.Cmp(plus(m.doubled, m.rtt)) >= 0 {
		m.x = greater(lesser(times(whole(2), m.x), limit), m.word())
		m.doubled = n
	}
	m.x = greater(m.x, m.s)
	m.runs(n, m.wait())
}

func (m *model) fire(now int64) bool {
	n := lesser(whole(now), pow(62))
	if m.due == nil || n.Cmp(m.due) < 0 {
		return false
	}
	m.x = greater(by(m.x, whole(2)), m.s)
	if m.heard {
		m.told.Only(by(plus(m.x, whole(1)), whole(2)).Uint64(), n.Int64())
	}
	m.due, n = nil, new(big.Int).Set(n)
	if m.x.Cmp(m.s) != 0 {
		m.runs(n, m.wait())
	}
	return true
}

func (m *model) tells() string {
	due, greatest := "0 false", fmt.Sprint(m.told.Max())
	if m.due != nil {
		due = fmt.Sprint(m.due, " true")
	}
	if m.told.Max() == top {
		greatest = "top"
	}
	return fmt.Sprint(m.x, " ", m.rtt, " ", m.loss, " ", due, " ", greatest)
}

// thrower throws the arguments of calls; what it throws hangs on what the Tfrc tells, so that every bound comes to bind.
type thrower struct {
	*rand.Rand
	now int64
}

var edges = []int64{math.MinInt64, -1 << 40, -1, 0, 1, 2, 1<<32 - 1, 1 << 32, 1<<32 + 1, 1 << 50, 1<<50 + 1, 1<<62 - 1, 1 << 62, 1<<62 + 1, math.MaxInt64}

func (r *thrower) edge() int64 { return edges[r.Intn(len(edges))] }

// time goes on by some part of an Rtt, or just to Due or near it.
func (r *thrower) time(x *Tfrc) int64 {
	due, runs := x.Due()
	switch k := r.Intn(40); {
	case k == 0:
		return r.edge()
	case k < 8 && runs && due < 1<<61:
		r.now = due - int64(r.Intn(3)) + 1
	case k < 12:
		r.now -= r.Int63n(x.Rtt() + 2)
	case k < 20:
	case k < 25:
		r.now += x.Rtt()
	default:
		r.now += r.Int63n(2*x.Rtt() + 2)
	}
	return r.now
}

func (r *thrower) sample(x *Tfrc, bits int) int64 {
	switch r.Intn(12) {
	case 0:
		return r.edge()
	case 1:
		return r.Int63n(1 << 33)
	case 2, 3, 4:
		return x.Rtt()
	}
	return 1 + r.Int63n(1<<bits)
}

func (r *thrower) rate(x *Tfrc) uint64 {
	switch r.Intn(10) {
	case 0:
		return uint64(r.edge())
	case 1:
		return 0
	case 2:
		return x.Rate()
	case 3:
		return r.Uint64() >> r.Intn(64)
	}
	return r.Uint64() % (2*min(x.Rate(), 1<<50) + 1)
}

func (r *thrower) loss(x *Tfrc) uint64 {
	switch r.Intn(10) {
	case 0:
		return uint64(r.edge())
	case 1, 2, 3, 4:
		return 0
	case 5:
		return x.Loss()
	case 6:
		return x.Loss() + uint64(r.Intn(3)) - 1
	}
	return r.Uint64() >> 31 >> r.Intn(33)
}

// checkT3 holds what T3 says of one call behind which X is told, was being X ahead of it.
func checkT3(t *testing.T, s int, x *Tfrc, was uint64, heardLoss, fired bool) {
	t.Helper()
	size := uint64(s)
	if x.Rate() < size {
		t.Fatalf("T3: X is below %d: %s", s, told(x))
	}
	if heardLoss {
		most := eqn.Rate(size, uint64(x.Rtt()), x.Loss())
		if x.Top() < 1<<63 {
			most = min(most, 2*x.Top())
		}
		if x.Rate() > max(size, most) {
			t.Fatalf("T3: X is above %d, and %d: %s", most, s, told(x))
		}
	}
	if fired && was >= 2*size && x.Rate() > was/2 {
		t.Fatalf("T3: a Fire at %d: %s", was, told(x))
	}
}

func TestThrown(t *testing.T) {
	r := &thrower{Rand: rand.New(rand.NewSource(16))}
	for script := range 1500 {
		s := 1 + r.Intn(1400)
		if script%4 == 0 {
			s = 1 + r.Intn(9)
		}
		x, m := New(s), newModel(s)
		bits := 1 + r.Intn(32)
		r.now = r.Int63n(1<<40) >> r.Intn(40)
		for k := range 150 {
			now, was := r.time(x), x.Rate()
			call, heardLoss, fired := "", false, false
			switch n := r.Intn(10); {
			case n == 0:
				call = fmt.Sprint("Start ", now)
				x.Start(now)
				m.start(now)
			case n < 4:
				call = fmt.Sprint("Fire ", now)
				fired = x.Fire(now)
				if fired != m.fire(now) {
					t.Fatalf("P16.1: script %d, %d: %s: %v", script, k, call, fired)
				}
			default:
				sample, rate, loss, lim := r.sample(x, bits), r.rate(x), r.loss(x), n < 7
				call = fmt.Sprint("Hear ", now, sample, rate, loss, lim)
				x.Hear(now, sample, rate, loss, lim)
				m.hear(now, sample, rate, loss, lim)
				heardLoss = loss > 0
			}
			if told(x) != m.tells() {
				t.Fatalf("P16.1: script %d of %d bytes, %d: %s: %s, not %s", script, s, k, call, told(x), m.tells())
			}
			checkT3(t, s, x, was, heardLoss, fired)
		}
	}
}

// Two that are told the same tell the same, whatever a third is told and however often one is asked.
func TestApart(t *testing.T) {
	r := &thrower{Rand: rand.New(rand.NewSource(161))}
	a, b, other := New(900), New(900), New(900)
	for k := range 3000 {
		now, sample, x, p := r.time(a), r.sample(a, 20), r.rate(a), r.loss(a)
		switch k % 5 {
		case 0:
			a.Start(now)
			b.Start(now)
		case 1, 2:
			if a.Fire(now) != b.Fire(now) {
				t.Fatalf("P0.5: Fire(%d) of one, and not of the other", now)
			}
		default:
			a.Hear(now, sample, x, p, k%2 == 0)
			other.Hear(now/2+77, sample/2+77, p, x, k%2 != 0)
			b.Hear(now, sample, x, p, k%2 == 0)
		}
		for range 3 {
			other.Fire(now)
			if told(a) != told(b) {
				t.Fatalf("P0.5: call %d: %s and %s", k, told(a), told(b))
			}
		}
	}
}
