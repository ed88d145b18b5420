package seq

import (
	"math"
	"math/big"
	"math/rand"
	"slices"
	"testing"

	"muleteer/api"
)

const (
	last = api.SeqMask // the number behind which 0 comes
	half = 1 << 47
)

// edges are numbers at which a reckoning turns: beside 0, beside the half and the end of the round and of a short number's, and numbers beyond the round.
func edges() []uint64 {
	ns := []uint64{0, 1, 2, 3, 99, 1000000, math.MaxUint64 - 1, math.MaxUint64}
	for _, k := range []uint{22, 23, 24, 25, 32, 46, 47, 48, 49, 62, 63} {
		p := uint64(1) << k
		ns = append(ns, p-1, p, p+1)
	}
	return append(ns, last-half/2, last-1<<24, last-1<<23, last-1<<23+1, 1<<48+half, 1<<48+half-1)
}

// steps are ways on and back: each edge as an int64, and its opposite.
func steps() []int64 {
	var ds []int64
	for _, n := range edges() {
		ds = append(ds, int64(n), -int64(n))
	}
	return append(ds, math.MinInt64, math.MinInt64+1, math.MaxInt64)
}

// thrown are n numbers of all lengths, the same in every run.
func thrown(seed int64, n int) []uint64 {
	r := rand.New(rand.NewSource(seed))
	ns := make([]uint64, n)
	for i := range ns {
		ns[i] = r.Uint64() >> uint(r.Intn(64))
	}
	return ns
}

func whole(n uint64) *big.Int { return new(big.Int).SetUint64(n) }

// rest is x's rest modulo 2^48, 0 at least.
func rest(x *big.Int) uint64 {
	return new(big.Int).Mod(x, big.NewInt(1<<48)).Uint64()
}

func wantAdd(s uint64, n int64) uint64 {
	return rest(new(big.Int).Add(whole(s), big.NewInt(n)))
}

// up is how many steps lead up from a to b.
func up(a, b uint64) uint64 {
	return rest(new(big.Int).Sub(whole(b), whole(a)))
}

func wantDiff(a, b uint64) int64 {
	d := int64(up(b, a))
	if d >= half {
		d -= 1 << 48
	}
	return d
}

func wantMax(s uint64, more []uint64) uint64 {
	for _, n := range more {
		if wantDiff(s, n) < 0 {
			s = n
		}
	}
	return rest(whole(s))
}

// wantLong looks in the three rounds of 2^24 beside near, and must find one number alone.
func wantLong(t *testing.T, short uint32, near uint64) uint64 {
	t.Helper()
	var found []uint64
	for _, round := range []int64{-1, 0, 1} {
		base := wantAdd(near-near%(1<<24), round<<24)
		s := base + uint64(short)%(1<<24)
		if d := wantDiff(s, near); d >= -1<<23 && d <= 1<<23-1 {
			found = append(found, s)
		}
	}
	if len(found) != 1 {
		t.Fatalf("%d numbers end in %d near %d", len(found), short, near)
	}
	return found[0]
}

func checkOne(t *testing.T, n uint64) {
	t.Helper()
	if got, want := Of(n), rest(whole(n)); got != want {
		t.Fatalf("P2.1: Of(%d) is %d, not %d", n, got, want)
	}
	if got, want := Short(n), uint32(n%(1<<24)); got != want {
		t.Fatalf("P2.1: Short(%d) is %d, not %d", n, got, want)
	}
	if got, want := Max(n), rest(whole(n)); got != want {
		t.Fatalf("P2.1: Max(%d) is %d, not %d", n, got, want)
	}
}

func checkAdd(t *testing.T, s uint64, n int64) {
	t.Helper()
	if got, want := Add(s, n), wantAdd(s, n); got != want {
		t.Fatalf("P2.1: Add(%d, %d) is %d, not %d", s, n, got, want)
	}
}

func checkTwo(t *testing.T, a, b uint64) {
	t.Helper()
	want := wantDiff(a, b)
	if got := Diff(a, b); got != want {
		t.Fatalf("P2.1: Diff(%d, %d) is %d, not %d", a, b, got, want)
	}
	if got := Less(a, b); got != (want < 0) {
		t.Fatalf("P2.1: Less(%d, %d) is %t, but Diff is %d", a, b, got, want)
	}
	if got, want := Max(a, b), wantMax(a, []uint64{b}); got != want {
		t.Fatalf("P2.1: Max(%d, %d) is %d, not %d", a, b, got, want)
	}
	short := uint32(a)
	if got, want := Long(short, b), wantLong(t, short, b); got != want {
		t.Fatalf("P2.1: Long(%d, %d) is %d, not %d", short, b, got, want)
	}
}

func checkThree(t *testing.T, a, b, c uint64) {
	t.Helper()
	if got, want := In(a, b, c), up(a, b) <= up(a, c); got != want {
		t.Fatalf("P2.1: In(%d, %d, %d) is %t", a, b, c, got)
	}
	if got, want := Max(a, b, c), wantMax(a, []uint64{b, c}); got != want {
		t.Fatalf("P2.1: Max(%d, %d, %d) is %d, not %d", a, b, c, got, want)
	}
}

func TestNamedNumbers(t *testing.T) {
	for _, c := range []struct {
		name      string
		got, want uint64
	}{
		{"a number of the round", Of(42), 42},
		{"the last of the round", Of(last), last},
		{"the first beyond the round", Of(1 << 48), 0},
		{"far beyond the round", Of(5<<48 + 7), 7},
		{"the greatest word", Of(math.MaxUint64), last},
		{"on", Add(40, 2), 42},
		{"back", Add(44, -2), 42},
		{"no step", Add(42, 0), 42},
		{"no step beyond the round", Add(1<<48+42, 0), 42},
		{"on over the end", Add(last, 1), 0},
		{"back over the beginning", Add(0, -1), last},
		{"a whole round", Add(42, 1<<48), 42},
		{"a whole round back", Add(42, -1<<48), 42},
		{"half a round", Add(0, half), half},
		{"the greatest step", Add(1, math.MaxInt64), 0},
		{"the greatest step back", Add(1, math.MinInt64), 1},
		{"the greatest word, on", Add(math.MaxUint64, 1), 0},
		{"Max of one", Max(42), 42},
		{"Max of one beyond the round", Max(1<<48 + 42), 42},
		{"Max of a nil list", Max(42, nil...), 42},
		{"Max of an empty list", Max(42, []uint64{}...), 42},
		{"Max of two", Max(41, 42), 42},
		{"Max of two, turned about", Max(42, 41), 42},
		{"Max over the end", Max(last, 3), 3},
		{"Max over the end, turned about", Max(3, last), 3},
		{"Max that stands in the middle", Max(1, 9, 5), 9},
		{"Max half a round on: the right one", Max(0, half), half},
		{"Max half a round on, turned about: the right one again", Max(half, 0), 0},
		{"Max just below half a round on", Max(0, half-1), half - 1},
		{"Max just above half a round on", Max(0, half+1), 0},
		{"Max goes round with what it took", Max(1, 1<<46, 1<<47, 3<<46), 3 << 46},
		{"Max that went a whole round", Max(5, 1<<46, 1<<47, 3<<46, 4), 4},
		{"Max of what lies beyond the round", Max(7<<48+5, 9<<48+6), 6},
		{"Short", uint64(Short(42)), 42},
		{"Short of the greatest short", uint64(Short(1<<24 - 1)), 1<<24 - 1},
		{"Short of the first beyond", uint64(Short(1 << 24)), 0},
		{"Short of the last", uint64(Short(last)), 1<<24 - 1},
		{"Short of what has the bits above alone", uint64(Short(last - (1<<24 - 1))), 0},
		{"Long near its own", Long(5, 3), 5},
		{"Long in near's round of 2^24", Long(5, 7<<24+9), 7<<24 + 5},
		{"Long in the next round of 2^24", Long(5, 8<<24-9), 8<<24 + 5},
		{"Long in the round of 2^24 before", Long(1<<24-5, 8<<24+9), 8<<24 - 5},
		{"Long over the end", Long(5, last), 5},
		{"Long over the beginning", Long(1<<24-5, 0), last - 4},
		{"Long as far on as may be", Long(1<<23-1, 0), 1<<23 - 1},
		{"Long as far back as may be", Long(1<<23, 0), last - (1<<23 - 1)},
		{"Long as far on as may be, elsewhere", Long(1<<23+6, 1<<40+7), 1<<40 + 1<<23 + 6},
		{"Long as far back as may be, elsewhere", Long(1<<23+7, 1<<40+7), 1<<40 - 1<<23 + 7},
		{"Long of what has bits above the 24", Long(3<<24+5, 3), 5},
		{"Long of the greatest short word", Long(math.MaxUint32, 1<<30), 1<<30 - 1},
		{"Long near what lies beyond the round", Long(9, 1<<48+4), 9},
	} {
		if c.got != c.want {
			t.Errorf("P2.1: %s: %d, not %d", c.name, c.got, c.want)
		}
	}
}

func TestNamedDiffs(t *testing.T) {
	for _, c := range []struct {
		name string
		a, b uint64
		diff int64
	}{
		{"behind", 44, 2, 42},
		{"ahead", 2, 44, -42},
		{"the same", 42, 42, 0},
		{"behind over the end", 1, last, 2},
		{"ahead over the end", last, 1, -2},
		{"as far behind as may be", half - 1, 0, half - 1},
		{"half a round is ahead", half, 0, -half},
		{"half a round is ahead, turned about", 0, half, -half},
		{"one more than half a round", half + 1, 0, 1 - half},
		{"half a round elsewhere", half + 7, 7, -half},
		{"the same beyond the round", 3<<48 + 5, 5, 0},
		{"the same, b beyond the round", 5, 3<<48 + 5, 0},
		{"beyond the round", 1 << 48, 1, -1},
		{"the greatest word is the last", math.MaxUint64, 0, -1},
	} {
		if got := Diff(c.a, c.b); got != c.diff {
			t.Errorf("P2.1: %s: Diff(%d, %d) is %d, not %d", c.name, c.a, c.b, got, c.diff)
		}
		if got := Less(c.a, c.b); got != (c.diff < 0) {
			t.Errorf("P2.1: %s: Less(%d, %d) is %t", c.name, c.a, c.b, got)
		}
	}
}

func TestNamedIns(t *testing.T) {
	for _, c := range []struct {
		name         string
		low, s, high uint64
		want         bool
	}{
		{"between", 3, 5, 7, true},
		{"at low", 3, 3, 7, true},
		{"at high", 3, 7, 7, true},
		{"below low", 3, 2, 7, false},
		{"above high", 3, 8, 7, false},
		{"one alone", 5, 5, 5, true},
		{"above one alone", 5, 6, 5, false},
		{"below one alone", 5, 4, 5, false},
		{"over the end", last - 1, 2, 3, true},
		{"ahead of the end", last - 1, last, 3, true},
		{"above high, over the end", last - 1, 4, 3, false},
		{"below low, over the end", last - 1, last - 2, 3, false},
		{"high one below low: all", 7, 1 << 40, 6, true},
		{"high one below low: low", 7, 7, 6, true},
		{"high one below low: high", 7, 6, 6, true},
		{"more than half a round", 0, half + 5, half + 9, true},
		{"outside of more than half a round", 0, half + 10, half + 9, false},
		{"beyond the round", 1<<48 + 3, 4, 1<<49 + 5, true},
		{"outside, beyond the round", 3, 1<<48 + 6, 5, false},
	} {
		if got := In(c.low, c.s, c.high); got != c.want {
			t.Errorf("P2.1: %s: In(%d, %d, %d) is %t", c.name, c.low, c.s, c.high, got)
		}
	}
}

func TestEdges(t *testing.T) {
	ns, ds := edges(), steps()
	for _, a := range ns {
		checkOne(t, a)
		for _, d := range ds {
			checkAdd(t, a, d)
		}
		for _, b := range ns {
			checkTwo(t, a, b)
			for _, c := range ns {
				checkThree(t, a, b, c)
			}
		}
	}
}

func TestThrown(t *testing.T) {
	as, bs, cs := thrown(1, 5000), thrown(2, 5000), thrown(3, 5000)
	for i, a := range as {
		b, c := bs[i], cs[i]
		checkOne(t, a)
		checkAdd(t, a, int64(b))
		checkAdd(t, a, -int64(b))
		checkTwo(t, a, b)
		checkThree(t, a, b, c)
		// Of thrown numbers few lie near one another.
		near := a + b%9 - 4
		checkTwo(t, a, near)
		checkThree(t, a, near, a+c%9)
	}
}

// What In promises is told by a walk: so it is held against one.
func TestWalk(t *testing.T) {
	for _, low := range []uint64{0, 42, last - 3, half - 3} {
		for way := range int64(8) {
			high := Add(low, way)
			met := map[uint64]bool{}
			for s := low; ; s = Add(s, 1) {
				met[s] = true
				if s == high {
					break
				}
			}
			for d := int64(-9); d < 18; d++ {
				if s := Add(low, d); In(low, s, high) != met[s] {
					t.Fatalf("P2.1: In(%d, %d, %d) is %t", low, s, high, !met[s])
				}
			}
		}
	}
}

// Long takes back what Short cut off, for every number near enough, and for no other.
func TestShortAndBack(t *testing.T) {
	for _, near := range append(edges(), thrown(4, 500)...) {
		for _, d := range []int64{-1 << 23, 1 - 1<<23, -99, -1, 0, 1, 99, 1<<23 - 2, 1<<23 - 1} {
			s := Add(near, d)
			if got := Long(Short(s), near); got != s {
				t.Fatalf("P2.1: Long(Short(%d), %d) is %d", s, near, got)
			}
		}
		for _, d := range []int64{-1<<23 - 1, 1 << 23, 1 << 24, -1 << 24, half} {
			s := Add(near, d)
			got := Long(Short(s), near)
			if got == s || Short(got) != Short(s) {
				t.Fatalf("P2.1: Long(Short(%d), %d) is %d", s, near, got)
			}
		}
	}
}

// A long list goes from left to right, with what was taken last.
func TestLongList(t *testing.T) {
	list := append(thrown(5, 20000), edges()...)
	for n := 1; n < len(list); n += 97 {
		s, more := list[n-1], list[n:]
		if got, want := Max(s, more...), wantMax(s, more); got != want {
			t.Fatalf("P2.1: Max of the numbers from the %dth is %d, not %d", n, got, want)
		}
	}
}

// P0.3: the list is not changed, its spare room neither.
func TestListStays(t *testing.T) {
	list := append(thrown(6, 100), edges()...)
	kept := slices.Clone(list)
	Max(7, list[:50]...)
	Max(7, list...)
	if !slices.Equal(list, kept) {
		t.Fatal("P0.3: Max changed its list")
	}
}

// P0.5: what a call answers hangs on its arguments alone, not on the calls before it.
func TestAgain(t *testing.T) {
	as, bs, cs := thrown(7, 500), thrown(8, 500), thrown(9, 500)
	type answer struct {
		of, add, max, long uint64
		diff               int64
		less, in           bool
		short              uint32
	}
	reckon := func(i int) answer {
		a, b, c := as[i], bs[i], cs[i]
		return answer{Of(a), Add(a, int64(b)), Max(a, b, c), Long(uint32(a), b), Diff(a, b), Less(a, b), In(a, b, c), Short(a)}
	}
	var first [500]answer
	for i := range first {
		first[i] = reckon(i)
	}
	for i := len(first) - 1; i >= 0; i-- {
		if again := reckon(i); again != first[i] {
			t.Fatalf("P0.5: %d, %d, %d: first %v, then %v", as[i], bs[i], cs[i], first[i], again)
		}
	}
}
