package ival

import (
	"math"
	"math/big"
	"math/rand"
	"slices"
	"testing"
)

const top = math.MaxUint64

// weighing is the chapter's row of weights, written out once more.
var weighing = []int64{5, 5, 5, 5, 4, 3, 2, 1}

// edges are lengths at which a reckoning turns: beside 0, beside the ends of 32 bits, beside what times a weight, or a sum of weights, is the greatest number.
func edges() []uint64 {
	ns := []uint64{0, 1, 2, 7, 1<<32 - 1, 1 << 32, 1<<32 + 1, 1 << 62, 1 << 63, top - 1, top}
	for _, w := range []uint64{2, 3, 4, 5, 10, 15, 20, 24, 27, 29, 30} {
		ns = append(ns, top/w-1, top/w, top/w+1)
	}
	return ns
}

func whole(n uint64) *big.Int { return new(big.Int).SetUint64(n) }

// held is x, or the greatest number.
func held(x *big.Int) *big.Int {
	if x.IsUint64() {
		return x
	}
	return whole(top)
}

// weighedAll is the lengths, each times the weight of its place; no length is below 0, so it comes to the same whether each sum is held or the last alone.
func weighedAll(lengths []uint64) *big.Int {
	sum := new(big.Int)
	for i, n := range lengths {
		sum.Add(sum, new(big.Int).Mul(whole(n), big.NewInt(weighing[i])))
	}
	return held(sum)
}

// want reckons with numbers that have no end: A weighs the row that the open one and all but the oldest make, B the row of the closed ones.
func want(open uint64, closed []uint64) (mean, rate uint64) {
	k := min(len(closed), 8)
	if k == 0 {
		return 0, 0
	}
	a := weighedAll(append([]uint64{open}, closed[:k-1]...))
	b := weighedAll(closed[:k])
	if a.Cmp(b) < 0 {
		a = b
	}
	weight := new(big.Int)
	for _, w := range weighing[:k] {
		weight.Add(weight, big.NewInt(w))
	}
	mean = new(big.Int).Quo(a, weight).Uint64()
	if a.Cmp(weight) <= 0 {
		return mean, 1 << 32
	}
	return mean, weight.Quo(weight.Lsh(weight, 32), a).Uint64()
}

func check(t *testing.T, open uint64, closed ...uint64) {
	t.Helper()
	mean, rate := want(open, closed)
	if got := Mean(open, closed...); got != mean {
		t.Fatalf("P11.1: Mean(%d, %d) is %d, not %d", open, closed, got, mean)
	}
	if got := Rate(open, closed...); got != rate {
		t.Fatalf("P11.1: Rate(%d, %d) is %d, not %d", open, closed, got, rate)
	}
}

// thrown is a list of n lengths: all about as great as one another, or each of any greatness.
func thrown(r *rand.Rand, n int) []uint64 {
	shift := r.Intn(64)
	alike := r.Intn(2) == 0
	ns := make([]uint64, n)
	for i := range ns {
		if !alike {
			shift = r.Intn(64)
		}
		ns[i] = r.Uint64() >> shift
	}
	return ns
}

func TestWeight(t *testing.T) {
	for i, w := range []uint64{5, 5, 5, 5, 4, 3, 2, 1} {
		if got := Weight(i); got != w {
			t.Errorf("P11.1: Weight(%d) is %d, not %d", i, got, w)
		}
	}
	none := []int{math.MinInt, math.MinInt + 1, math.MinInt + 7, -1 << 32, -1<<32 + 3, -256, math.MaxInt, math.MaxInt - 1, 1 << 8, 1 << 16, 1 << 32, 1<<32 + 3, 1 << 62}
	for i := range 300 {
		none = append(none, 8+i, -1-i)
	}
	for _, i := range none {
		if got := Weight(i); got != 0 {
			t.Errorf("P11.1: Weight(%d) is %d, not 0", i, got)
		}
	}
}

func TestNamed(t *testing.T) {
	for _, c := range []struct {
		name       string
		open       uint64
		closed     []uint64
		mean, rate uint64
	}{
		{"none closed", 0, nil, 0, 0},
		{"none closed, a long open one", 1000, nil, 0, 0},
		{"none closed, the longest open one", top, []uint64{}, 0, 0},
		{"one closed", 0, []uint64{10}, 10, 429496729},
		{"an open one as long as the closed one", 10, []uint64{10}, 10, 429496729},
		{"an open one that is shorter does not count", 9, []uint64{10}, 10, 429496729},
		{"an open one that is longer does", 11, []uint64{10}, 11, 390451572},
		{"the open one puts the oldest out", 100, []uint64{10, 1000}, 505, 8504885},
		{"the open one puts the oldest out, and is longer", 2000, []uint64{10, 1000}, 1005, 4273599},
		{"the first four weigh 5", 0, []uint64{1, 2, 3, 4}, 2, 20 << 32 / 50},
		{"the fifth weighs 4", 0, []uint64{0, 0, 0, 0, 24}, 4, 1 << 30},
		{"the fifth moves the fourth to 4", 24, []uint64{0, 0, 0, 24, 0}, 9, 24 << 32 / 216},
		{"the sixth weighs 3", 0, []uint64{0, 0, 0, 0, 0, 36}, 4, 1 << 30},
		{"the seventh weighs 2", 0, []uint64{0, 0, 0, 0, 0, 0, 58}, 4, 1 << 30},
		{"the eighth weighs 1", 0, []uint64{0, 0, 0, 0, 0, 0, 0, 120}, 4, 1 << 30},
		{"the ninth does not count", 0, []uint64{4, 4, 4, 4, 4, 4, 4, 4, top}, 4, 1 << 30},
		{"the eighth does not count with the open one", 20, []uint64{4, 4, 4, 4, 4, 4, 4, 4}, 6, 30 << 32 / 200},
		{"the eighth goes, though a ninth is there", 20, []uint64{4, 4, 4, 4, 4, 4, 4, 50, 60}, 6, 30 << 32 / 200},
		{"the rate is not 2^32 by the mean's whole part", 0, []uint64{3, 4}, 3, 10 << 32 / 35},
		{"the mean's whole part, just below", 0, []uint64{1, 0, 0, 0}, 0, 1 << 32},
		{"all lengths 0", 0, []uint64{0, 0, 0, 0, 0, 0, 0, 0}, 0, 1 << 32},
		{"one length, 0", 0, []uint64{0}, 0, 1 << 32},
		{"all 0 but what does not count", 0, []uint64{0, 0, 0, 0, 0, 0, 0, 0, 5}, 0, 1 << 32},
		{"all 0 but the open one", 1, []uint64{0}, 1, 1 << 32},
		{"all 1", 1, []uint64{1, 1, 1}, 1, 1 << 32},
		{"just above 1", 0, []uint64{1, 2}, 1, 10 << 32 / 15},
		{"just below 1", 0, []uint64{1, 1, 1, 1, 1, 1, 1, 0}, 0, 1 << 32},
		{"a mean of 1 and a 30th", 0, []uint64{1, 1, 1, 1, 1, 1, 1, 2}, 1, 30 << 32 / 31},
		{"an open product that is the greatest number", top / 5, []uint64{1}, top / 5, 0},
		{"an open product above the greatest number", top/5 + 1, []uint64{1}, top / 5, 0},
		{"a closed product above the greatest number", 0, []uint64{1 << 63}, top / 5, 0},
		{"a sum above the greatest number", 0, []uint64{top / 5, 1}, top / 10, 0},
		{"a sum that would go round to 0", 0, []uint64{(top - 4) / 5, 1, 0, 0}, top / 20, 0},
		{"all the longest", top, []uint64{top, top, top, top, top, top, top, top}, top / 30, 0},
		{"the rarest rate above 0", 0, []uint64{1 << 32}, 1 << 32, 1},
		{"rarer than that", 0, []uint64{1<<32 + 1}, 1<<32 + 1, 0},
	} {
		if got := Mean(c.open, c.closed...); got != c.mean {
			t.Errorf("P11.1: %s: Mean is %d, not %d", c.name, got, c.mean)
		}
		if got := Rate(c.open, c.closed...); got != c.rate {
			t.Errorf("P11.1: %s: Rate is %d, not %d", c.name, got, c.rate)
		}
	}
}

// All lists of up to nine lengths of 0, 1 and 2: the rate goes over to 2^32 here, and both sums are often alike.
func TestSmall(t *testing.T) {
	for n := range 10 {
		lists := 1
		for range n {
			lists *= 3
		}
		for code := range lists {
			closed := make([]uint64, n)
			for i := range closed {
				closed[i], code = uint64(code%3), code/3
			}
			for open := range uint64(3) {
				check(t, open, closed...)
			}
		}
	}
}

// One interval alone has a length: each place by itself, in lists of each length, about each edge.
func TestPlaces(t *testing.T) {
	for _, length := range edges() {
		for n := range 13 {
			check(t, length, make([]uint64, n)...)
			for place := range n {
				closed := make([]uint64, n)
				closed[place] = length
				for _, open := range []uint64{0, 1, length - 1, length, length + 1, top} {
					check(t, open, closed...)
				}
			}
		}
	}
}

// Sums of lengths at the edges: some go beyond the greatest number, some come just up to it.
func TestEdges(t *testing.T) {
	ns := edges()
	for _, a := range ns {
		for _, b := range ns {
			check(t, a, b)
			for _, c := range ns {
				check(t, a, b, c)
				check(t, a, b, b, b, b, c, c, c, c)
				check(t, a, c, c, b, b, c, b, c, b, a)
			}
		}
	}
	r := rand.New(rand.NewSource(1))
	for range 30000 {
		closed := make([]uint64, r.Intn(12))
		for i := range closed {
			closed[i] = ns[r.Intn(len(ns))]
		}
		check(t, ns[r.Intn(len(ns))], closed...)
	}
}

func TestThrown(t *testing.T) {
	r := rand.New(rand.NewSource(2))
	for i := range 60000 {
		ns := thrown(r, 1+i%14)
		check(t, ns[0], ns[1:]...)
	}
}

// About the open length at which it begins to count, the sums with it and without it are held against one another.
func TestTurn(t *testing.T) {
	r := rand.New(rand.NewSource(3))
	for i := range 20000 {
		closed := thrown(r, 1+i%9)
		b := weighedAll(closed[:min(len(closed), 8)])
		a := weighedAll(append([]uint64{0}, closed[:min(len(closed), 8)-1]...))
		turn := new(big.Int).Sub(b, a)
		turn.Quo(turn, big.NewInt(5))
		if !turn.IsUint64() {
			continue
		}
		for d := range uint64(5) {
			check(t, turn.Uint64()+d-2, closed...)
		}
	}
}

// What lies behind the eighth changes nothing, however much there is.
func TestLong(t *testing.T) {
	r := rand.New(rand.NewSource(4))
	for range 20 {
		closed := thrown(r, 200000)
		open := closed[r.Intn(len(closed))]
		mean, rate := Mean(open, closed[:8]...), Rate(open, closed[:8]...)
		if Mean(open, closed...) != mean || Rate(open, closed...) != rate {
			t.Fatalf("P11.1: what lies behind %d counts, open %d", closed[:8], open)
		}
	}
}

// P0.3: the list is not changed, its spare room neither.
func TestListStays(t *testing.T) {
	list := thrown(rand.New(rand.NewSource(5)), 20)
	kept := slices.Clone(list)
	for n := range len(list) {
		Mean(7, list[:n]...)
		Rate(7, list[:n]...)
		if !slices.Equal(list, kept) {
			t.Fatalf("P0.3: a list of %d intervals is changed", n)
		}
	}
}

// P0.5: what a call answers hangs on its arguments alone, not on the calls before it, nor on what was written into its list behind it.
func TestAgain(t *testing.T) {
	r := rand.New(rand.NewSource(6))
	reckon := func(ns []uint64) [3]uint64 {
		passed := slices.Clone(ns)
		answer := [3]uint64{Mean(passed[0], passed[1:]...), Rate(passed[0], passed[1:]...), Weight(len(ns) - 4)}
		clear(passed)
		return answer
	}
	lists := make([][]uint64, 500)
	first := make([][3]uint64, len(lists))
	for i := range lists {
		lists[i] = thrown(r, 1+i%14)
		first[i] = reckon(lists[i])
	}
	for i := len(lists) - 1; i >= 0; i-- {
		if again := reckon(lists[i]); again != first[i] {
			t.Fatalf("P0.5: %d: first %v, then %v", lists[i], first[i], again)
		}
	}
}
