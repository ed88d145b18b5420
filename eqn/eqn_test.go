package eqn

import (
	"math"
	"math/big"
	"math/rand"
	"slices"
	"testing"
)

const top = math.MaxUint64

func whole(n uint64) *big.Int { return new(big.Int).SetUint64(n) }

func pow(k uint) *big.Int { return new(big.Int).Lsh(big.NewInt(1), k) }

func times(a *big.Int, more ...*big.Int) *big.Int {
	product := new(big.Int).Set(a)
	for _, b := range more {
		product.Mul(product, b)
	}
	return product
}

func by(a, b *big.Int) *big.Int { return new(big.Int).Quo(a, b) }

func root(a *big.Int) *big.Int { return new(big.Int).Sqrt(a) }

// nearest is x, or the nearer end of 1 to most.
func nearest(x, most uint64) *big.Int {
	if x < 1 {
		x = 1
	}
	if x > most {
		x = most
	}
	return whole(x)
}

// wantF reckons F, letter by letter, with numbers that have no end.
func wantF(n uint64) *big.Int {
	m := nearest(n, 1<<32)
	a := root(by(times(pow(33), m), big.NewInt(3)))
	b := root(by(times(big.NewInt(3), pow(32), m), big.NewInt(8)))
	c := by(times(big.NewInt(32), m, m), pow(32))
	c.Add(c, pow(32))
	d := by(times(b, m), pow(32))
	f := times(big.NewInt(12), by(times(d, c), pow(32)))
	return f.Add(f, a)
}

// wantRate reckons Rate so; no quotient of it comes near the greatest number.
func wantRate(s, r, n uint64) *big.Int {
	bytes := times(big.NewInt(64000000), nearest(s, 65535))
	return by(by(times(bytes, pow(32)), wantF(n)), nearest(r, 1<<32))
}

func checkF(t *testing.T, n uint64) {
	t.Helper()
	if got, want := F(n), wantF(n); whole(got).Cmp(want) != 0 {
		t.Fatalf("P14.1: F(%d) is %d, not %d", n, got, want)
	}
}

func checkRate(t *testing.T, s, r, n uint64) {
	t.Helper()
	if got, want := Rate(s, r, n), wantRate(s, r, n); whole(got).Cmp(want) != 0 {
		t.Fatalf("P14.1: Rate(%d, %d, %d) is %d, not %d", s, r, n, got, want)
	}
}

// edges are 0, the numbers beside each power of 2 and beside the ends of what counts, and the greatest ones.
func edges() []uint64 {
	ns := []uint64{0, 3, 5, 7, 10, 100, 1000, 65533, 65534, 65535, 65536, 65537, top - 1, top}
	for k := range 64 {
		ns = append(ns, 1<<k-1, 1<<k, 1<<k+1)
	}
	slices.Sort(ns)
	return slices.Compact(ns)
}

// thrown is a number of any greatness up to 2^bits.
func thrown(r *rand.Rand, bits int) uint64 {
	return r.Uint64() >> (64 - bits) >> r.Intn(bits)
}

func TestNamedF(t *testing.T) {
	const all = 3506826112 + 12*86793946272
	for _, c := range []struct {
		name    string
		n, want uint64
	}{
		{"0 is as 1", 0, 53509},
		{"a is the root of 2,863,311,530, d is 0", 1, 53509},
		{"a is the root of 5,726,623,061", 2, 75674},
		{"a is the root of 2^33", 3, 92681},
		{"d is 0 for the last time", 2254, 2540453},
		{"d is 1", 2255, 2541017 + 12},
		{"c is 2^32 for the last time", 11585, 5759467 + 12*11},
		{"c is 2^32 + 1", 11586, 5759715 + 12*11},
		{"b is 41,095,618, c 2^32 + 2^13, d 10,033", 1 << 20, 54794158 + 12*10033},
		{"b is 1,315,059,792, c 3 times 2^32, d 328,764,948", 1 << 30, 1753413056 + 12*3*328764948},
		{"b is 1,859,775,393, c 9 times 2^32, d 929,887,696 and no half", 1 << 31, 2479700524 + 12*9*929887696},
		{"c is 33 times 2^32 less 64, d one less than b", 1<<32 - 1, 3506826111 + 12*86793946166},
		{"b and d are 2,630,119,584, c 33 times 2^32", 1 << 32, all},
		{"above all is as all", 1<<32 + 1, all},
		{"no bit of a greater one is left out", 1<<33 + 5, all},
		{"the greatest number is as all", top, all},
	} {
		if got := F(c.n); got != c.want {
			t.Errorf("P14.1: F(%d) is %d, not %d: %s", c.n, got, c.want, c.name)
		}
	}
}

func TestNamedRate(t *testing.T) {
	for _, c := range []struct {
		name          string
		s, r, n, want uint64
	}{
		{"the least of each", 1, 1, 1, 64000000 << 32 / 53509},
		{"zeros are as the least", 0, 0, 0, 64000000 << 32 / 53509},
		{"all lost", 1, 1, 1 << 32, 263032},
		{"a 64th of a byte a second is 1", 1, 263032, 1 << 32, 1},
		{"less than that is 0", 1, 263033, 1 << 32, 0},
		{"a datagram, a tenth of a second, a loss of one in 100", 1000, 100000, 1 << 32 / 100, 7189263},
		{"a datagram, a 20th of a second, all lost", 1460, 50000, 1 << 32, 7680},
		{"the greatest rate", 65535, 1, 1, 336655957531911267},
		{"the longest time, the rarest loss", 65535, 1 << 32, 1, 78383823},
		{"the greatest of each", 65535, 1 << 32, 1 << 32, 4},
		{"greater ones are as these", 65536, 1<<32 + 1, 1<<32 + 1, 4},
		{"the greatest numbers", top, top, top, 4},
	} {
		if got := Rate(c.s, c.r, c.n); got != c.want {
			t.Errorf("P14.1: Rate(%d, %d, %d) is %d, not %d: %s", c.s, c.r, c.n, got, c.want, c.name)
		}
	}
}

func TestEveryF(t *testing.T) {
	for n := range uint64(40000) {
		checkF(t, n)
		checkF(t, 1<<32-n)
	}
	for _, n := range edges() {
		checkF(t, n)
	}
	r := rand.New(rand.NewSource(14))
	for range 40000 {
		checkF(t, thrown(r, 33))
	}
}

func TestEveryRate(t *testing.T) {
	ns := edges()
	r := rand.New(rand.NewSource(141))
	for _, a := range ns {
		for _, b := range ns {
			checkRate(t, a, b, thrown(r, 33))
			checkRate(t, a, thrown(r, 33), b)
			checkRate(t, thrown(r, 17), a, b)
		}
	}
	for range 40000 {
		checkRate(t, thrown(r, 17), thrown(r, 33), thrown(r, 33))
	}
}

func TestNearerEnd(t *testing.T) {
	r := rand.New(rand.NewSource(142))
	for _, far := range append(edges(), thrown(r, 64), thrown(r, 64)) {
		s, m, n := thrown(r, 16), thrown(r, 32), thrown(r, 32)
		if far > 65535 && Rate(far, m, n) != Rate(65535, m, n) {
			t.Errorf("P14.1: Rate(%d, %d, %d) is not that of 65535 bytes", far, m, n)
		}
		if far > 1<<32 && Rate(s, far, n) != Rate(s, 1<<32, n) {
			t.Errorf("P14.1: Rate(%d, %d, %d) is not that of 2^32 microseconds", s, far, n)
		}
		if far > 1<<32 && (F(far) != F(1<<32) || Rate(s, m, far) != Rate(s, m, 1<<32)) {
			t.Errorf("P14.1: F(%d) or Rate(%d, %d, %d) is not that of 2^32", far, s, m, far)
		}
	}
	for range 2000 {
		s, m, n := thrown(r, 16), thrown(r, 32), thrown(r, 32)
		if Rate(0, m, n) != Rate(1, m, n) || Rate(s, 0, n) != Rate(s, 1, n) || Rate(s, m, 0) != Rate(s, m, 1) {
			t.Fatalf("P14.1: 0 is not as 1 beside %d, %d, %d", s, m, n)
		}
	}
	if F(0) != F(1) {
		t.Error("P14.1: F(0) is not F(1)")
	}
}

// bits is how exactly the true value is reckoned.
const bits = 200

func exact(n uint64) *big.Float { return new(big.Float).SetPrec(bits).SetUint64(n) }

func product(a *big.Float, more ...*big.Float) *big.Float {
	x := new(big.Float).Copy(a)
	for _, b := range more {
		x.Mul(x, b)
	}
	return x
}

func sum(a, b *big.Float) *big.Float { return new(big.Float).Add(a, b) }

func share(a, b *big.Float) *big.Float { return new(big.Float).Quo(a, b) }

func rootOf(a *big.Float) *big.Float { return new(big.Float).Sqrt(a) }

// trueRate is the equation of throughput itself, times 64: s by r, times the root of 2 p by 3, and 12 times the root of 3 p by 8, times p, times 1 and 32 p p.
func trueRate(s, r, n uint64) *big.Float {
	p := share(exact(n), exact(1<<32))
	rare := rootOf(share(product(exact(2), p), exact(3)))
	often := rootOf(share(product(exact(3), p), exact(8)))
	more := sum(exact(1), product(exact(32), p, p))
	f := sum(rare, product(exact(12), often, p, more))
	return share(product(exact(64000000), exact(s)), product(exact(r), f))
}

func checkTrue(t *testing.T, s, r, n uint64) {
	t.Helper()
	want := trueRate(s, r, n)
	off := new(big.Float).Sub(exact(Rate(s, r, n)), want)
	if off.Abs(off).Cmp(sum(share(want, exact(1024)), exact(1))) > 0 {
		t.Fatalf("T2: Rate(%d, %d, %d) is %d, and in truth %.3f", s, r, n, Rate(s, r, n), want)
	}
}

func TestTrue(t *testing.T) {
	r := rand.New(rand.NewSource(143))
	for n := range uint64(6000) {
		checkTrue(t, 1, 1, 1+n)
		checkTrue(t, 65535, 1, 1<<32-n)
		checkTrue(t, 1+r.Uint64()%65535, 1+thrown(r, 32), 1+thrown(r, 32))
	}
	for _, n := range edges() {
		if 1 <= n && n <= 1<<32 {
			checkTrue(t, 1, 1, n)
			checkTrue(t, 1460, n, 1<<32/100)
			checkTrue(t, 1460, 100000, n)
			checkTrue(t, 65535, n, n)
			checkTrue(t, min(n, 65535), n, 1)
		}
	}
}

// checkOrder holds what one more of each argument does.
func checkOrder(t *testing.T, s, r, n uint64) {
	t.Helper()
	rate := Rate(s, r, n)
	if s < top && Rate(s+1, r, n) < rate {
		t.Fatalf("T2: more bytes than %d (of %d, %d): a lesser rate", s, r, n)
	}
	if r < top && Rate(s, r+1, n) > rate {
		t.Fatalf("T2: more time than %d (of %d, %d): a greater rate", r, s, n)
	}
	if n < top && (Rate(s, r, n+1) > rate || F(n+1) < F(n)) {
		t.Fatalf("T2: more loss than %d (of %d, %d): a greater rate", n, s, r)
	}
}

func TestOrder(t *testing.T) {
	r := rand.New(rand.NewSource(144))
	for n := range uint64(40000) {
		checkOrder(t, 1, 1, n)
		checkOrder(t, 65535-n%1000, 1<<32-n, 1<<32-n)
		checkOrder(t, thrown(r, 17), thrown(r, 33), thrown(r, 33))
	}
	for _, n := range edges() {
		checkOrder(t, n, 1, 1)
		checkOrder(t, 1, n, 1)
		checkOrder(t, 1, 1, n)
		checkOrder(t, n, n, n)
	}
}

// TestFarOrder holds the order of arguments that are far from one another, too.
func TestFarOrder(t *testing.T) {
	ns := edges()
	r := rand.New(rand.NewSource(145))
	for range 200 {
		s, m, n := thrown(r, 17), thrown(r, 33), thrown(r, 33)
		for i, more := range ns[1:] {
			less := ns[i]
			if Rate(more, m, n) < Rate(less, m, n) {
				t.Fatalf("T2: %d bytes, not %d (of %d, %d): a lesser rate", more, less, m, n)
			}
			if Rate(s, more, n) > Rate(s, less, n) {
				t.Fatalf("T2: %d microseconds, not %d (of %d, %d): a greater rate", more, less, s, n)
			}
			if Rate(s, m, more) > Rate(s, m, less) || F(more) < F(less) {
				t.Fatalf("T2: a loss of %d, not %d (of %d, %d): a greater rate", more, less, s, m)
			}
		}
	}
}

func TestNothingKept(t *testing.T) {
	r := rand.New(rand.NewSource(146))
	f, rate := F(1<<20), Rate(1460, 100000, 1<<20)
	for range 1000 {
		F(thrown(r, 64))
		Rate(thrown(r, 64), thrown(r, 64), thrown(r, 64))
		if F(1<<20) != f || Rate(1460, 100000, 1<<20) != rate {
			t.Fatal("P0.5: an answer hangs on what was asked before")
		}
	}
}
