package fix

import (
	"math/big"
	"math/rand"
	"testing"
)

// edges are numbers at which a reckoning turns: beside 0, beside the powers of 2 that halve and quarter a word, beside the roots of top, beside top.
func edges() []uint64 {
	const root = 1<<32 - 1
	ns := []uint64{0, 1, 2, 3, 4, 5, 7, 10, 99, 1000000, top / 3, top / 2, top/2 + 2, top - 2, top - 1, top, root*root - 1, root * root, root*root + 1}
	for _, k := range []uint{8, 16, 31, 32, 33, 48, 62, 63} {
		p := uint64(1) << k
		ns = append(ns, p-1, p, p+1)
	}
	return ns
}

// thrown are n numbers of all lengths, the same in every run.
func thrown(seed int64, n int) []uint64 {
	r := rand.New(rand.NewSource(seed))
	ns := make([]uint64, n)
	for i := range ns {
		ns[i] = r.Uint64() >> uint(r.Intn(64))
	}
	return ns
}

func whole(n uint64) *big.Int { return new(big.Int).SetUint64(n) }

// held is x, or the nearest end of the numbers from 0 to top.
func held(x *big.Int) uint64 {
	switch {
	case x.Sign() < 0:
		return 0
	case !x.IsUint64():
		return top
	}
	return x.Uint64()
}

func wantMulDiv(a, b, c uint64) uint64 {
	if c == 0 {
		return top
	}
	x := new(big.Int).Mul(whole(a), whole(b))
	return held(x.Quo(x, whole(c)))
}

func checkTwo(t *testing.T, a, b uint64) {
	t.Helper()
	x, y := whole(a), whole(b)
	product := new(big.Int).Mul(x, y)
	for _, c := range []struct {
		name      string
		got, want uint64
	}{
		{"Add", Add(a, b), held(new(big.Int).Add(x, y))},
		{"Sub", Sub(a, b), held(new(big.Int).Sub(x, y))},
		{"Mul", Mul(a, b), held(product)},
		{"SqrtMul", SqrtMul(a, b), held(new(big.Int).Sqrt(product))},
	} {
		if c.got != c.want {
			t.Fatalf("P1.1: %s(%d, %d) is %d, not %d", c.name, a, b, c.got, c.want)
		}
	}
}

func checkMulDiv(t *testing.T, a, b, c uint64) {
	t.Helper()
	if got, want := MulDiv(a, b, c), wantMulDiv(a, b, c); got != want {
		t.Fatalf("P1.1: MulDiv(%d, %d, %d) is %d, not %d", a, b, c, got, want)
	}
}

func checkSqrt(t *testing.T, n uint64) {
	t.Helper()
	if got, want := Sqrt(n), held(new(big.Int).Sqrt(whole(n))); got != want {
		t.Fatalf("P1.1: Sqrt(%d) is %d, not %d", n, got, want)
	}
}

func TestNamedValues(t *testing.T) {
	for _, c := range []struct {
		name      string
		got, want uint64
	}{
		{"ordinary sum", Add(40, 2), 42},
		{"sum of nothing", Add(0, 0), 0},
		{"sum that is top", Add(top-1, 1), top},
		{"sum one above top", Add(top, 1), top},
		{"sum of two tops", Add(top, top), top},
		{"sum that would wrap to 0", Add(1<<63, 1<<63), top},
		{"ordinary difference", Sub(44, 2), 42},
		{"difference of equals", Sub(top, top), 0},
		{"less nothing", Sub(top, 0), top},
		{"b one greater", Sub(41, 42), 0},
		{"b far greater", Sub(0, top), 0},
		{"ordinary product", Mul(6, 7), 42},
		{"product with 0", Mul(top, 0), 0},
		{"product that is top", Mul(3, top/3), top},
		{"product one above top", Mul(1<<32, 1<<32), top},
		{"product that would wrap to something small", Mul(1<<63, 3), top},
		{"product of two tops", Mul(top, top), top},
		{"whole part", MulDiv(7, 3, 2), 10},
		{"whole part of less than 1", MulDiv(1, 1, 2), 0},
		{"product above top, quotient below", MulDiv(1<<63, 6, 1<<62), 12},
		{"greatest product by top", MulDiv(top, top, top), top},
		{"greatest product by less than top", MulDiv(top, top, top-1), top},
		{"greatest product by 1", MulDiv(top, top, 1), top},
		{"quotient just below top", MulDiv(top-1, top-1, top), top - 2},
		{"quotient one above top", MulDiv(1<<33, 1<<33, 4), top},
		{"c of 0", MulDiv(5, 5, 0), top},
		{"nothing by c of 0", MulDiv(0, 0, 0), top},
		{"root of nothing", Sqrt(0), 0},
		{"root of 1", Sqrt(1), 1},
		{"root one below a square", Sqrt(99), 9},
		{"root of a square", Sqrt(100), 10},
		{"root one above a square", Sqrt(101), 10},
		{"root of top", Sqrt(top), 1<<32 - 1},
		{"root one below the greatest square", Sqrt((1<<32-1)*(1<<32-1) - 1), 1<<32 - 2},
		{"root of a product", SqrtMul(8, 2), 4},
		{"root of a product with 0", SqrtMul(0, top), 0},
		{"root of the greatest product", SqrtMul(top, top), top},
		{"root one below the greatest product's", SqrtMul(top, top-1), top - 1},
		{"root of a product above top", SqrtMul(1<<63, 2), 1 << 32},
		{"root of a product that is no square", SqrtMul(1<<40, 1<<41), 1554944255987},
	} {
		if c.got != c.want {
			t.Errorf("P1.1: %s: %d, not %d", c.name, c.got, c.want)
		}
	}
}

func TestEdges(t *testing.T) {
	ns := edges()
	for _, a := range ns {
		checkSqrt(t, a)
		for _, b := range ns {
			checkTwo(t, a, b)
			for _, c := range ns {
				checkMulDiv(t, a, b, c)
			}
		}
	}
}

func TestThrown(t *testing.T) {
	as, bs, cs := thrown(1, 5000), thrown(2, 5000), thrown(3, 5000)
	for i, a := range as {
		checkSqrt(t, a)
		checkTwo(t, a, bs[i])
		checkMulDiv(t, a, bs[i], cs[i])
	}
}

func TestSmallRoots(t *testing.T) {
	for n := range uint64(70000) {
		checkSqrt(t, n)
	}
}

// Beside a square the root turns, and beside the high word's turn MulDiv goes over to top.
func TestTurns(t *testing.T) {
	for _, r := range thrown(4, 5000) {
		half := r >> 32
		checkSqrt(t, half*half)
		checkSqrt(t, half*half-1)
		checkSqrt(t, half*half+2*half)
		checkSqrt(t, half*half+2*half+1)
		checkTwo(t, r, r)
		checkTwo(t, r, Sub(r, 1))
		checkTwo(t, r, Add(r, 1))
		checkTwo(t, Sub(r, 1), Add(r, 1))
		high := new(big.Int).Rsh(new(big.Int).Mul(whole(r), whole(top)), 64).Uint64()
		for _, c := range []uint64{Sub(high, 1), high, Add(high, 1)} {
			checkMulDiv(t, r, top, c)
		}
	}
}

// P0.5: what a call answers hangs on its arguments alone, not on the calls before it.
func TestAgain(t *testing.T) {
	as, bs, cs := thrown(5, 500), thrown(6, 500), thrown(7, 500)
	reckon := func(i int) [6]uint64 {
		a, b, c := as[i], bs[i], cs[i]
		return [6]uint64{Add(a, b), Sub(a, b), Mul(a, b), MulDiv(a, b, c), Sqrt(a), SqrtMul(a, b)}
	}
	var first [500][6]uint64
	for i := range first {
		first[i] = reckon(i)
	}
	for i := len(first) - 1; i >= 0; i-- {
		if again := reckon(i); again != first[i] {
			t.Fatalf("P0.5: %d, %d, %d: first %v, then %v", as[i], bs[i], cs[i], first[i], again)
		}
	}
}
